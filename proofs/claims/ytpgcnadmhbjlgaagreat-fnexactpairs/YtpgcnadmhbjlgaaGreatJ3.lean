/- Texts of stores, joined: Sides3, Sides4, Sides5, Meet, Meet2. -/
import Derived.Test.YtpgcnadmhbjlgaaGreatJ2
import Derived.OwnWalk
import Derived.Deep.AppendLies
namespace Go.Proofs.YtpgcnadmhbjlgaaGreat
open Go.RowKit
set_option linter.unusedSimpArgs false
set_option linter.unusedVariables false
theorem Tryz.info2P : (Tryz.prog.info? 80).map (fun i => (i.zero, i.size, i.bytes)) = some (some (.agg #[.int .i64 0, .int .i64 0, .int .i64 0, .int .i64 0]), 4, 32) := by kernel_rfl
def flat (qs : List Sd) : List Value := qs.flatMap fun q => [.int .i64 q.1, .int .i64 q.2.1, .int .i64 q.2.2.1, .int .i64 q.2.2.2]
theorem flat_len (qs : List Sd) : (flat qs).length = qs.length * 4 := by
  induction qs with
  | nil => rfl
  | cons q r ih => simp only [flat, List.flatMap_cons, List.length_append, List.length_cons, List.length_nil] at *; omega
theorem flat_snoc (qs : List Sd) (q : Sd) : flat (qs ++ [q]) = flat qs ++ [.int .i64 q.1, .int .i64 q.2.1, .int .i64 q.2.2.1, .int .i64 q.2.2.2] := by simp [flat]
theorem flat_at (qs : List Sd) : ∀ k, k < qs.length → (flat qs)[k * 4]? = some (.int .i64 (qs.getD k (0, 0, 0, 0)).1) ∧ (flat qs)[k * 4 + 1]? = some (.int .i64 (qs.getD k (0, 0, 0, 0)).2.1) ∧ (flat qs)[k * 4 + 2]? = some (.int .i64 (qs.getD k (0, 0, 0, 0)).2.2.1) ∧ (flat qs)[k * 4 + 3]? = some (.int .i64 (qs.getD k (0, 0, 0, 0)).2.2.2) := by
  induction qs with
  | nil => intro k hk; simp at hk
  | cons q r ih =>
    intro k hk
    cases k with
    | zero => simp [flat]
    | succ k =>
      have := ih k (by simpa using hk)
      simp only [flat, List.flatMap_cons, List.getD_cons_succ] at this ⊢
      rw [show (k + 1) * 4 = k * 4 + 4 by omega]
      simpa [List.getElem?_append_right] using this
theorem sides_of {w : World} {B : Nat} {v : Value} {qs : List Sd} (h : w.ownsRow B 80 4 v qs.length (flat qs)) (h0 : 0 < qs.length) : ∃ g cap, v = .slice (some ⟨g, 0, none⟩) qs.length cap ∧ B ≤ g ∧ g < w.heap.size ∧ qs.length ≤ cap ∧ SdAt w g 0 qs := by
  have h' := h
  rcases h.2 with ⟨_, hn⟩ | ⟨g, cap, cur, rfl, hb, hg, hc, _⟩
  · omega
  · refine ⟨g, cap, rfl, hb, (Array.getElem?_eq_some_iff.1 hg).1, hc, ?_⟩
    intro k hk
    obtain ⟨f0, f1, f2, f3⟩ := flat_at qs k hk
    have hcs := h'.cells rfl
    have q0 := hcs _ _ f0
    have q1 := hcs _ _ f1
    have q2 := hcs _ _ f2
    have q3 := hcs _ _ f3
    rw [Addr.add_mid] at q0 q1 q2 q3
    exact ⟨q0, by rw [Nat.add_assoc]; exact q1, by rw [Nat.add_assoc]; exact q2, by rw [Nat.add_assoc]; exact q3⟩
theorem own_below {w w0 w1 : World} {A B : Nat} {v : Value} {n : Nat} {xs : List Value} {o : Obj} (hown : w0.ownsRow B 80 4 v n xs) (hAB : A ≤ B) (hb : Below A w w0) (hB : A ≤ w0.heap.size) (hg : (w0.alloc o).drew.grownBy w1 v.ownBlock) : Below A w w1 :=
  ((hb.alloc hB o).drew).grown hg (by simp; omega) (fun k hk => Nat.le_trans hAB (hown.lt k hk).1)
set_option maxRecDepth 100000 in
set_option maxHeartbeats 2000000 in
theorem spec_sides0 (x y : Int) (a : Option Addr) (cap : Nat) (w : World) (h : Pts w a [(x, y)]) : Calls Tryz.prog 37 #[shv 0 a 1 cap] w fun e w' => ∃ g cp, e = .returned (.slice (some ⟨g, 0, none⟩) 1 cp) ∧ w.heap.size ≤ g ∧ g < w'.heap.size ∧ 1 ≤ cp ∧ SdAt w' g 0 [(x, y, x, y)] ∧ Below w.heap.size w w' := by
  obtain ⟨i0, hi0, hz0, hz1, hz2⟩ := info_parts Tryz.info2P
  obtain ⟨b, off, rfl, hbs, hp⟩ : ∃ b off, a = some ⟨b, off, none⟩ ∧ b < w.heap.size ∧ PtsAt w b off [(x, y)] := by
    rcases h with h | h
    · cases h
    · exact h
  obtain ⟨c0, c1⟩ := hp 0 (by simp)
  simp only [Nat.zero_mul, Nat.add_zero, List.getD_cons_zero] at c0 c1
  have Hp := hid hp
  clear hp h
  go_enter Tryz.func37, Tryz.ntmps37
  go_wp2_with fail
  have hown : ((w.alloc (.cells #[.int .i64 0, .slice (some ⟨b, off, none⟩) 1 cap] 47)).alloc (.cells #[] 80)).ownsRow w.heap.size 80 4 (.slice (some ⟨w.heap.size + 1, 0, none⟩) 0 0) 0 [] := by
    have := World.ownsRow_made (base := w.heap.size) (e := 80) (size := 4) (w.alloc (.cells #[.int .i64 0, .slice (some ⟨b, off, none⟩) 1 cap] 47)) #[] 0 (by simp) (by decide) rfl
    simpa using this
  have hB0 : Below w.heap.size w ((w.alloc (.cells #[.int .i64 0, .slice (some ⟨b, off, none⟩) 1 cap] 47)).alloc (.cells #[] 80)) := by (repeat (first | with_reducible exact Below.refl _ _ | with_reducible assumption | (with_reducible refine btrans ?_ (by with_reducible assumption)) | with_reducible refine bdrew ?_ | with_reducible refine balloc ?_ _))
  have k0 : ((w.alloc (.cells #[.int .i64 0, .slice (some ⟨b, off, none⟩) 1 cap] 47)).alloc (.cells #[] 80)).cell? ⟨b, off, none⟩ = some (.int .i64 x) := by (repeat (first | with_reducible assumption | (refine newcell _ _ _ _ _ _ ?_ rfl; simp; done) | refine keepcell (by with_reducible assumption) ?_ | refine keepdrew ?_ | refine keepalloc ?_ _))
  have k1 : ((w.alloc (.cells #[.int .i64 0, .slice (some ⟨b, off, none⟩) 1 cap] 47)).alloc (.cells #[] 80)).cell? ⟨b, off + 1, none⟩ = some (.int .i64 y) := by (repeat (first | with_reducible assumption | (refine newcell _ _ _ _ _ _ ?_ rfl; simp; done) | refine keepcell (by with_reducible assumption) ?_ | refine keepdrew ?_ | refine keepalloc ?_ _))
  have hsz : w.heap.size + 2 ≤ ((w.alloc (.cells #[.int .i64 0, .slice (some ⟨b, off, none⟩) 1 cap] 47)).alloc (.cells #[] 80)).heap.size := by simp
  have hvb : some b ≠ (Value.slice (some ⟨w.heap.size + 1, 0, none⟩) 0 0).ownBlock := by simp [Value.ownBlock]; omega
  generalize ((w.alloc (.cells #[.int .i64 0, .slice (some ⟨b, off, none⟩) 1 cap] 47)).alloc (.cells #[] 80)) = W at *
  clear c0 c1
  go_region_held3 (fun w' => w'.cell? ⟨b, off, none⟩ = some (.int .i64 x) ∧ w'.cell? ⟨b, off + 1, none⟩ = some (.int .i64 y)) ((go_split_ands; (repeat' apply And.intro) <;> (repeat (first | with_reducible assumption | with_reducible refine keepdrew ?_ | with_reducible refine keepalloc ?_ _ | (refine hgrow.cell ?_ hvb)))))
    ((refine step_append_lies _ (by rfl) _ _ _ (by rfl) w.heap.size 80 i0 _ 4 32 Tryz.underlying77 hi0 hz0 hz1 hz2 rfl (by omega) _ 0 [] (by rfl) ((hown.alloc _).drew) ⟨W.heap.size, 0, none⟩ 1 1 [.int .i64 x, .int .i64 y, .int .i64 x, .int .i64 y] (by rfl) (by rfl) (World.news_of_block (cs := #[.int .i64 x, .int .i64 y, .int .i64 x, .int .i64 y]) (t := 80) (fr := (0, 0)) (heap_alloc_new W _)) (by simp [Value.oneCell']) (by omega) (by unfold maxLen; omega) (by omega) (by simp; omega) (W.heap.size + 1) (by simp) ?_; intro gg cp v1 hown1 hgrow hat hlt))
  go_wp2_with fail
  go_ret
  obtain ⟨g, cp', e, h1, h2, h3, h4⟩ := sides_of (v := .slice (some ⟨gg, 0, none⟩) 1 cp) (qs := [(x, y, x, y)]) (by simpa [flat] using hown1) (by simp)
  cases e
  exact ⟨gg, cp, rfl, h1, h2, h3, h4, own_below hown (Nat.le_refl _) hB0 (by omega) hgrow⟩
set_option maxRecDepth 100000 in
set_option maxHeartbeats 2000000 in
theorem spec_sides1 (a : Option Addr) (cap : Nat) (ps : List (Int × Int)) (w : World) (hm : ps.length ≤ 1099511627776) (hc : ps.length ≤ cap) (h : Pts w a ps) (h2 : 2 ≤ ps.length) (h6 : ps.length ≤ 60) : Calls Tryz.prog 37 #[shv 1 a ps.length cap] w fun e w' => ∃ g cp, e = .returned (.slice (some ⟨g, 0, none⟩) (alongSides ps).length cp) ∧ w.heap.size ≤ g ∧ g < w'.heap.size ∧ (alongSides ps).length ≤ cp ∧ SdAt w' g 0 (alongSides ps) ∧ Below w.heap.size w w' := by
  obtain ⟨i0, hi0, hz0, hz1, hz2⟩ := info_parts Tryz.info2P
  obtain ⟨b, off, rfl, hbs, hp⟩ : ∃ b off, a = some ⟨b, off, none⟩ ∧ b < w.heap.size ∧ PtsAt w b off ps := by
    rcases h with h | h
    · rw [h] at h2; simp at h2
    · exact h
  have Hp := hid hp
  have Hal := hid (along_len ps)
  clear hp h
  have h2i : (2 : Int) ≤ (ps.length : Int) := by omega
  go_enter Tryz.func37, Tryz.ntmps37
  go_wp2_with fail
  go_loopw [3, 7] (fun tv ti wr => ∃ k : Nat, ti = .int .i64 ((k : Int) + 1) ∧ k + 1 ≤ ps.length ∧ wr.ownsRow (w.heap.size + 1) 80 4 tv k (flat ((alongSides ps).take k)) ∧ Below w.heap.size w wr ∧ wr.cell? ⟨w.heap.size, 0, none⟩ = some (.int .i64 1)) (fun _ ti _ => ps.length + 1 - (intOf ti).toNat)
  case atStart =>
    refine ⟨0, rfl, by omega, ?_, ?_, ?_⟩
    · have := World.ownsRow_made (base := w.heap.size + 1) (e := 80) (size := 4) (w.alloc (.cells #[.int .i64 1, .slice (some ⟨b, off, none⟩) ps.length cap] 47)) #[] 0 (by simp) (by decide) rfl
      simpa [flat] using this
    · (repeat (first | with_reducible exact Below.refl _ _ | with_reducible assumption | (with_reducible refine btrans ?_ (by with_reducible assumption)) | with_reducible refine bdrew ?_ | with_reducible refine balloc ?_ _))
    · (repeat (first | with_reducible assumption | (refine newcell _ _ _ _ _ _ ?_ rfl; simp; done) | refine keepcell (by with_reducible assumption) ?_ | refine keepdrew ?_ | refine keepalloc ?_ _))
  case round =>
    obtain ⟨k, rfl, hk, hown, hb, kd⟩ := hrel
    have hw0 : w.heap.size < wr.heap.size := World.block_lt_of_cell? wr _ kd
    by_cases hlt : k + 1 < ps.length
    · obtain ⟨c0, c1⟩ := Hp.out.below hbs hb k (by omega)
      obtain ⟨d0, d1⟩ := Hp.out.below hbs hb (k + 1) (by omega)
      have hnx : flat ((alongSides ps).take (k + 1)) = flat ((alongSides ps).take k) ++ [.int .i64 (ps.getD k (0, 0)).1, .int .i64 (ps.getD k (0, 0)).2, .int .i64 (ps.getD (k + 1) (0, 0)).1, .int .i64 (ps.getD (k + 1) (0, 0)).2] := by
        have hk' : k < (alongSides ps).length := by rw [along_len]; omega
        rw [List.take_succ_eq_append_getElem hk', flat_snoc]
        have := along_at ps k (by omega)
        rw [List.getD_eq_getElem?_getD, List.getElem?_eq_getElem hk'] at this
        simp only [Option.getD_some] at this
        rw [this]
      generalize (ps.getD k (0, 0)).1 = x at *
      generalize (ps.getD k (0, 0)).2 = y at *
      generalize (ps.getD (k + 1) (0, 0)).1 = u at *
      generalize (ps.getD (k + 1) (0, 0)).2 = v at *
      have Hnx := hid hnx
      clear hnx
      have hvb : some b ≠ u3.ownBlock := fun e => absurd (hown.lt b e.symm).1 (by omega)
      have hvc : some w.heap.size ≠ u3.ownBlock := fun e => absurd (hown.lt _ e.symm).1 (by omega)
      have hk0 : (0 : Int) ≤ (k : Int) + 1 := by omega
      have hk1 : (k : Int) + 1 < (ps.length : Int) := by omega
      have hk2 : (k : Int) < (ps.length : Int) := by omega
      have hk3 : (0 : Int) ≤ (k : Int) := by omega
      have hw1 : IntKind.i64.wrap ((k : Int) + 1 - 1) = (k : Int) := by rw [IntKind.wrap_i64]; omega
      have hw2 : IntKind.i64.wrap (k : Int) = (k : Int) := by rw [IntKind.wrap_i64]; omega
      have hkl : k ≤ 60 := by omega
      go_wp2_with fail
      go_region_held3 (fun w' => w'.cell? ⟨b, off + k * 2, none⟩ = some (.int .i64 x) ∧ w'.cell? ⟨b, off + k * 2 + 1, none⟩ = some (.int .i64 y) ∧ w'.cell? ⟨b, off + (k + 1) * 2, none⟩ = some (.int .i64 u) ∧ w'.cell? ⟨b, off + (k + 1) * 2 + 1, none⟩ = some (.int .i64 v)) ((go_split_ands; (repeat' apply And.intro) <;> (repeat (first | with_reducible assumption | with_reducible refine keepdrew ?_ | with_reducible refine keepalloc ?_ _ | (refine hgrow.cell ?_ hvb)))))
        ((refine step_append_lies _ (by rfl) _ _ _ (by rfl) (w.heap.size + 1) 80 i0 _ 4 32 Tryz.underlying77 hi0 hz0 hz1 hz2 rfl (by omega) _ k (flat ((alongSides ps).take k)) (by rfl) ((hown.alloc _).drew) ⟨wr.heap.size, 0, none⟩ 1 1 [.int .i64 x, .int .i64 y, .int .i64 u, .int .i64 v] (by rfl) (by rfl) (World.news_of_block (cs := #[.int .i64 x, .int .i64 y, .int .i64 u, .int .i64 v]) (t := 80) (fr := (0, 0)) (heap_alloc_new wr _)) (by simp [Value.oneCell']) (by omega) (by unfold maxLen; omega) (by omega) (by simp; omega) (wr.heap.size + 1) (by simp) ?_; intro gg cp v1 hown1 hgrow hat hlt))
      go_wp2_with fail
      go_roundw
      case rel => exact ⟨k + 1, by go_num, by omega, by rw [Hnx.out]; exact hown1, own_below hown (by omega) hb (by omega) hgrow, hgrow.cell (keepdrew (keepalloc kd _)) hvc⟩
      case measure => simp [intOf]; omega
    · obtain hkn : k = (alongSides ps).length := by have := Hal.out; omega
      have hlt' : ¬ ((k : Int) + 1 < (ps.length : Int)) := by omega
      have hown' : wr.ownsRow (w.heap.size + 1) 80 4 u3 (alongSides ps).length (flat (alongSides ps)) := by
        rw [hkn, List.take_of_length_le (Nat.le_refl _)] at hown; exact hown
      obtain ⟨g, cp, rfl, h1, h2', h3, h4⟩ := sides_of hown' (by have := Hal.out; omega)
      have H4 := hid h4
      have Hkn := hid hkn
      clear h4 hown hown' hkn
      go_wp2_with fail
      go_ret
      exact ⟨g, cp, rfl, by omega, h2', h3, H4.out, hb⟩
end Go.Proofs.YtpgcnadmhbjlgaaGreat
namespace Go.Proofs.YtpgcnadmhbjlgaaGreat
open Go.RowKit
set_option linter.unusedSimpArgs false
set_option linter.unusedVariables false
theorem ring_along (ps : List (Int × Int)) (n1 : Nat) (hn : ps.length = n1 + 1) : ringSides ps = alongSides ps ++ [((ps.getD n1 (0, 0)).1, (ps.getD n1 (0, 0)).2, (ps.getD 0 (0, 0)).1, (ps.getD 0 (0, 0)).2)] := by
  unfold ringSides alongSides
  rw [hn, List.range_succ, List.map_append, Nat.add_sub_cancel]
  congr 1
  · apply List.map_congr_left
    intro k hk
    have hk' : k < n1 := by simpa using hk
    have : nxt ps k = (ps.getD (k + 1) (0, 0)) := by unfold nxt; rw [hn, Nat.mod_eq_of_lt (by omega)]
    rw [this]
  · have : nxt ps n1 = (ps.getD 0 (0, 0)) := by unfold nxt; rw [hn, Nat.mod_self]
    simp [this]
set_option maxRecDepth 100000 in
set_option maxHeartbeats 2000000 in
theorem spec_sides3 (a : Option Addr) (cap : Nat) (ps : List (Int × Int)) (w : World) (hm : ps.length ≤ 1099511627776) (hc : ps.length ≤ cap) (h : Pts w a ps) (n1 : Nat) (hn : ps.length = n1 + 1) (h2 : 3 ≤ ps.length) (h6 : ps.length ≤ 60) : Calls Tryz.prog 37 #[shv 3 a (n1 + 1) cap] w fun e w' => ∃ g cp, e = .returned (.slice (some ⟨g, 0, none⟩) (ringSides ps).length cp) ∧ w.heap.size ≤ g ∧ g < w'.heap.size ∧ (ringSides ps).length ≤ cp ∧ SdAt w' g 0 (ringSides ps) ∧ Below w.heap.size w w' := by
  obtain ⟨i0, hi0, hz0, hz1, hz2⟩ := info_parts Tryz.info2P
  obtain ⟨b, off, rfl, hbs, hp⟩ : ∃ b off, a = some ⟨b, off, none⟩ ∧ b < w.heap.size ∧ PtsAt w b off ps := by
    rcases h with h | h
    · rw [h] at h2; simp at h2
    · exact h
  have Hp := hid hp
  have Hal := hid (along_len ps)
  clear hp h
  have Hn := hid hn
  have Hra := hid (ring_along ps n1 hn)
  have h3n : 2 ≤ n1 := by omega
  have h6n : n1 ≤ 59 := by omega
  have hc1 : n1 + 1 ≤ cap := by omega
  clear hm hc h2 h6 hn
  go_enter Tryz.func37, Tryz.ntmps37
  go_wp2_with fail
  go_loopw [3, 7] (fun tv ti wr => ∃ k : Nat, ti = .int .i64 ((k : Int) + 1) ∧ k ≤ n1 ∧ wr.ownsRow (w.heap.size + 1) 80 4 tv k (flat ((alongSides ps).take k)) ∧ Below w.heap.size w wr ∧ wr.cell? ⟨w.heap.size, 0, none⟩ = some (.int .i64 3)) (fun _ ti _ => n1 + 2 - (intOf ti).toNat)
  case atStart =>
    refine ⟨0, rfl, by omega, ?_, ?_, ?_⟩
    · have := World.ownsRow_made (base := w.heap.size + 1) (e := 80) (size := 4) (w.alloc (.cells #[.int .i64 3, .slice (some ⟨b, off, none⟩) (n1 + 1) cap] 47)) #[] 0 (by simp) (by decide) rfl
      simpa [flat] using this
    · (repeat (first | with_reducible exact Below.refl _ _ | with_reducible assumption | (with_reducible refine btrans ?_ (by with_reducible assumption)) | with_reducible refine bdrew ?_ | with_reducible refine balloc ?_ _))
    · (repeat (first | with_reducible assumption | (refine newcell _ _ _ _ _ _ ?_ rfl; simp; done) | refine keepcell (by with_reducible assumption) ?_ | refine keepdrew ?_ | refine keepalloc ?_ _))
  case round =>
    obtain ⟨k, rfl, hk, hown, hb, kd⟩ := hrel
    have hw0 : w.heap.size < wr.heap.size := World.block_lt_of_cell? wr _ kd
    by_cases hlt : k < n1
    · obtain ⟨c0, c1⟩ := Hp.out.below hbs hb k (by have := Hn.out; omega)
      obtain ⟨d0, d1⟩ := Hp.out.below hbs hb (k + 1) (by have := Hn.out; omega)
      have hnx : flat ((alongSides ps).take (k + 1)) = flat ((alongSides ps).take k) ++ [.int .i64 (ps.getD k (0, 0)).1, .int .i64 (ps.getD k (0, 0)).2, .int .i64 (ps.getD (k + 1) (0, 0)).1, .int .i64 (ps.getD (k + 1) (0, 0)).2] := by
        have hk' : k < (alongSides ps).length := by rw [along_len]; have := Hn.out; omega
        rw [List.take_succ_eq_append_getElem hk', flat_snoc]
        have := along_at ps k (by have := Hn.out; omega)
        rw [List.getD_eq_getElem?_getD, List.getElem?_eq_getElem hk'] at this
        simp only [Option.getD_some] at this
        rw [this]
      generalize (ps.getD k (0, 0)).1 = x at *
      generalize (ps.getD k (0, 0)).2 = y at *
      generalize (ps.getD (k + 1) (0, 0)).1 = u at *
      generalize (ps.getD (k + 1) (0, 0)).2 = v at *
      have Hnx := hid hnx
      clear hnx
      have hvb : some b ≠ u3.ownBlock := fun e => absurd (hown.lt b e.symm).1 (by omega)
      have hvc : some w.heap.size ≠ u3.ownBlock := fun e => absurd (hown.lt _ e.symm).1 (by omega)
      have hk0 : (0 : Int) ≤ (k : Int) + 1 := by omega
      have hk1 : (k : Int) + 1 < (n1 : Int) + 1 := by omega
      have hk2 : (k : Int) < (n1 : Int) + 1 := by omega
      have hk3 : (0 : Int) ≤ (k : Int) := by omega
      have hw1 : IntKind.i64.wrap ((k : Int) + 1 - 1) = (k : Int) := by rw [IntKind.wrap_i64]; omega
      have hw2 : IntKind.i64.wrap (k : Int) = (k : Int) := by rw [IntKind.wrap_i64]; omega
      have hkl : k ≤ 60 := by omega
      go_wp2_with fail
      go_region_held3 (fun w' => w'.cell? ⟨b, off + k * 2, none⟩ = some (.int .i64 x) ∧ w'.cell? ⟨b, off + k * 2 + 1, none⟩ = some (.int .i64 y) ∧ w'.cell? ⟨b, off + (k + 1) * 2, none⟩ = some (.int .i64 u) ∧ w'.cell? ⟨b, off + (k + 1) * 2 + 1, none⟩ = some (.int .i64 v)) ((go_split_ands; (repeat' apply And.intro) <;> (repeat (first | with_reducible assumption | with_reducible refine keepdrew ?_ | with_reducible refine keepalloc ?_ _ | (refine hgrow.cell ?_ hvb)))))
        ((refine step_append_lies _ (by rfl) _ _ _ (by rfl) (w.heap.size + 1) 80 i0 _ 4 32 Tryz.underlying77 hi0 hz0 hz1 hz2 rfl (by omega) _ k (flat ((alongSides ps).take k)) (by rfl) ((hown.alloc _).drew) ⟨wr.heap.size, 0, none⟩ 1 1 [.int .i64 x, .int .i64 y, .int .i64 u, .int .i64 v] (by rfl) (by rfl) (World.news_of_block (cs := #[.int .i64 x, .int .i64 y, .int .i64 u, .int .i64 v]) (t := 80) (fr := (0, 0)) (heap_alloc_new wr _)) (by simp [Value.oneCell']) (by omega) (by unfold maxLen; omega) (by omega) (by simp; omega) (wr.heap.size + 1) (by simp) ?_; intro gg cp v1 hown1 hgrow hat hlt))
      go_wp2_with fail
      go_roundw
      case rel => exact ⟨k + 1, by go_num, by omega, by rw [Hnx.out]; exact hown1, own_below hown (by omega) hb (by omega) hgrow, hgrow.cell (keepdrew (keepalloc kd _)) hvc⟩
      case measure => simp [intOf]; omega
    · have hkn' : k = n1 := by omega
      have hkn : k = (alongSides ps).length := by have := Hal.out; have := Hn.out; omega
      have hown' : wr.ownsRow (w.heap.size + 1) 80 4 u3 n1 (flat (alongSides ps)) := by
        rw [hkn, List.take_of_length_le (Nat.le_refl _), ← hkn, hkn'] at hown; exact hown
      clear hown hkn
      subst hkn'
      have hlt' : ¬ ((k : Int) + 1 < (k : Int) + 1) := by omega
      obtain ⟨c0, c1⟩ := Hp.out.below hbs hb k (by have := Hn.out; omega)
      obtain ⟨d0, d1⟩ := Hp.out.below hbs hb 0 (by have := Hn.out; omega)
      simp only [Nat.zero_mul, Nat.add_zero] at d0 d1
      have hra : flat (ringSides ps) = flat (alongSides ps) ++ [.int .i64 (ps.getD k (0, 0)).1, .int .i64 (ps.getD k (0, 0)).2, .int .i64 (ps.getD 0 (0, 0)).1, .int .i64 (ps.getD 0 (0, 0)).2] := by rw [Hra.out, flat_snoc]
      generalize (ps.getD k (0, 0)).1 = x at *
      generalize (ps.getD k (0, 0)).2 = y at *
      generalize (ps.getD 0 (0, 0)).1 = u at *
      generalize (ps.getD 0 (0, 0)).2 = v at *
      have HRA := hid hra
      clear hra
      have hvb : some b ≠ u3.ownBlock := fun e => absurd (hown'.lt b e.symm).1 (by omega)
      have hk2 : (k : Int) < (k : Int) + 1 := by omega
      have hk3 : (0 : Int) ≤ (k : Int) := by omega
      have hk4 : (0 : Int) < (k : Int) + 1 := by omega
      have hw1 : IntKind.i64.wrap ((k : Int) + 1 - 1) = (k : Int) := by rw [IntKind.wrap_i64]; omega
      have hw2 : IntKind.i64.wrap (k : Int) = (k : Int) := by rw [IntKind.wrap_i64]; omega
      go_wp2_with fail
      go_region_held3 (fun w' => w'.cell? ⟨b, off + k * 2, none⟩ = some (.int .i64 x) ∧ w'.cell? ⟨b, off + k * 2 + 1, none⟩ = some (.int .i64 y) ∧ w'.cell? ⟨b, off, none⟩ = some (.int .i64 u) ∧ w'.cell? ⟨b, off + 1, none⟩ = some (.int .i64 v)) ((go_split_ands; (repeat' apply And.intro) <;> (repeat (first | with_reducible assumption | with_reducible refine keepdrew ?_ | with_reducible refine keepalloc ?_ _ | (refine hgrow.cell ?_ hvb)))))
        ((refine step_append_lies _ (by rfl) _ _ _ (by rfl) (w.heap.size + 1) 80 i0 _ 4 32 Tryz.underlying77 hi0 hz0 hz1 hz2 rfl (by omega) _ k (flat (alongSides ps)) (by rfl) ((hown'.alloc _).drew) ⟨wr.heap.size, 0, none⟩ 1 1 [.int .i64 x, .int .i64 y, .int .i64 u, .int .i64 v] (by rfl) (by rfl) (World.news_of_block (cs := #[.int .i64 x, .int .i64 y, .int .i64 u, .int .i64 v]) (t := 80) (fr := (0, 0)) (heap_alloc_new wr _)) (by simp [Value.oneCell']) (by omega) (by unfold maxLen; omega) (by omega) (by simp; omega) (wr.heap.size + 1) (by simp) ?_; intro gg cp v1 hown1 hgrow hat hlt))
      have hlr : (ringSides ps).length = k + 1 := by rw [ringSides_len]; exact Hn.out
      obtain ⟨g, cp', e, h1, h2', h3, h4⟩ := sides_of (v := .slice (some ⟨gg, 0, none⟩) (k + 1) cp) (qs := ringSides ps) (by rw [hlr, HRA.out]; exact hown1) (by omega)
      rw [hlr] at e
      cases e
      have H4 := hid h4
      have HB := hid (own_below hown' (by omega) hb (by omega) hgrow)
      have Hlr := hid hlr
      clear h4 hlr
      go_wp2_with fail
      go_ret
      exact ⟨gg, cp, by rw [Hlr.out]; rfl, by omega, h2', by rw [Hlr.out]; rw [Hlr.out] at h3; exact h3, H4.out, HB.out⟩
end Go.Proofs.YtpgcnadmhbjlgaaGreat
namespace Go.Proofs.YtpgcnadmhbjlgaaGreat
open Go.RowKit
set_option linter.unusedSimpArgs false
set_option linter.unusedVariables false
def corners (x y u v : Int) : List (Int × Int) := [(x, y), (u, y), (u, v), (x, v)]
theorem PtsAt.grown {w w' : World} {b : Nat} {ps : List (Int × Int)} {row : Option Nat} (h : PtsAt w b 0 ps) (hg : w.grownBy w' row) (hne : some b ≠ row) : PtsAt w' b 0 ps := by
  intro k hk
  obtain ⟨h1, h2⟩ := h k hk
  exact ⟨hg.cell h1 hne, hg.cell h2 hne⟩
set_option maxRecDepth 100000 in
set_option maxHeartbeats 4000000 in
theorem spec_sides2 (x y u v : Int) (a : Option Addr) (cap : Nat) (w : World) (h : Pts w a [(x, y), (u, v)]) (hc : 2 ≤ cap) : Calls Tryz.prog 37 #[shv 2 a 2 cap] w fun e w' => ∃ g cp, e = .returned (.slice (some ⟨g, 0, none⟩) 4 cp) ∧ w.heap.size ≤ g ∧ g < w'.heap.size ∧ 4 ≤ cp ∧ SdAt w' g 0 (ringSides (corners x y u v)) ∧ Below w.heap.size w w' := by
  obtain ⟨i0, hi0, hz0, hz1, hz2⟩ := info_parts Tryz.info2P
  obtain ⟨b, off, rfl, hbs, hp⟩ : ∃ b off, a = some ⟨b, off, none⟩ ∧ b < w.heap.size ∧ PtsAt w b off [(x, y), (u, v)] := by
    rcases h with h | h
    · cases h
    · exact h
  obtain ⟨c0, c1⟩ := hp 0 (by simp)
  obtain ⟨d0, d1⟩ := hp 1 (by simp)
  simp only [Nat.zero_mul, Nat.add_zero, List.getD_cons_zero, List.getD_cons_succ, Nat.one_mul] at c0 c1 d0 d1
  have Hp := hid hp
  clear hp h
  obtain ⟨cs, hcs⟩ : ∃ cs, cs = corners x y u v := ⟨_, rfl⟩
  have hn : cs.length = 3 + 1 := by rw [hcs]; rfl
  have Hra := hid (ring_along cs 3 hn)
  have Hal : Hid ((alongSides cs).length = 3) := hid (by rw [along_len, hn])
  rw [← hcs]
  go_enter Tryz.func37, Tryz.ntmps37
  go_wp2_with fail
  have hown : ((w.alloc (.cells #[.int .i64 2, .slice (some ⟨b, off, none⟩) 2 cap] 47)).alloc (.cells #[] 80)).ownsRow (w.heap.size + 1) 80 4 (.slice (some ⟨w.heap.size + 1, 0, none⟩) 0 0) 0 [] := by
    have := World.ownsRow_made (base := w.heap.size + 1) (e := 80) (size := 4) (w.alloc (.cells #[.int .i64 2, .slice (some ⟨b, off, none⟩) 2 cap] 47)) #[] 0 (by simp) (by decide) rfl
    simpa using this
  have kd : ((w.alloc (.cells #[.int .i64 2, .slice (some ⟨b, off, none⟩) 2 cap] 47)).alloc (.cells #[] 80)).cell? ⟨w.heap.size, 0, none⟩ = some (.int .i64 2) := by (repeat (first | with_reducible assumption | (refine newcell _ _ _ _ _ _ ?_ rfl; simp; done) | refine keepcell (by with_reducible assumption) ?_ | refine keepdrew ?_ | refine keepalloc ?_ _))
  have hB0 : Below w.heap.size w ((w.alloc (.cells #[.int .i64 2, .slice (some ⟨b, off, none⟩) 2 cap] 47)).alloc (.cells #[] 80)) := by (repeat (first | with_reducible exact Below.refl _ _ | with_reducible assumption | (with_reducible refine btrans ?_ (by with_reducible assumption)) | with_reducible refine bdrew ?_ | with_reducible refine balloc ?_ _))
  have k0 : ((w.alloc (.cells #[.int .i64 2, .slice (some ⟨b, off, none⟩) 2 cap] 47)).alloc (.cells #[] 80)).cell? ⟨b, off, none⟩ = some (.int .i64 x) := by (repeat (first | with_reducible assumption | (refine newcell _ _ _ _ _ _ ?_ rfl; simp; done) | refine keepcell (by with_reducible assumption) ?_ | refine keepdrew ?_ | refine keepalloc ?_ _))
  have k1 : ((w.alloc (.cells #[.int .i64 2, .slice (some ⟨b, off, none⟩) 2 cap] 47)).alloc (.cells #[] 80)).cell? ⟨b, off + 1, none⟩ = some (.int .i64 y) := by (repeat (first | with_reducible assumption | (refine newcell _ _ _ _ _ _ ?_ rfl; simp; done) | refine keepcell (by with_reducible assumption) ?_ | refine keepdrew ?_ | refine keepalloc ?_ _))
  have k2 : ((w.alloc (.cells #[.int .i64 2, .slice (some ⟨b, off, none⟩) 2 cap] 47)).alloc (.cells #[] 80)).cell? ⟨b, off + 2, none⟩ = some (.int .i64 u) := by (repeat (first | with_reducible assumption | (refine newcell _ _ _ _ _ _ ?_ rfl; simp; done) | refine keepcell (by with_reducible assumption) ?_ | refine keepdrew ?_ | refine keepalloc ?_ _))
  have k3 : ((w.alloc (.cells #[.int .i64 2, .slice (some ⟨b, off, none⟩) 2 cap] 47)).alloc (.cells #[] 80)).cell? ⟨b, off + 2 + 1, none⟩ = some (.int .i64 v) := by (repeat (first | with_reducible assumption | (refine newcell _ _ _ _ _ _ ?_ rfl; simp; done) | refine keepcell (by with_reducible assumption) ?_ | refine keepdrew ?_ | refine keepalloc ?_ _))
  have hsz : w.heap.size + 2 ≤ ((w.alloc (.cells #[.int .i64 2, .slice (some ⟨b, off, none⟩) 2 cap] 47)).alloc (.cells #[] 80)).heap.size := by simp
  generalize ((w.alloc (.cells #[.int .i64 2, .slice (some ⟨b, off, none⟩) 2 cap] 47)).alloc (.cells #[] 80)) = W at *
  clear c0 c1 d0 d1
  go_cut [5, 6] (fun t5 t6 wx => ∃ ba bb : Nat, t5 = .pointer (some ⟨ba, 0, none⟩) ∧ t6 = .pointer (some ⟨bb, 0, none⟩) ∧ Below W.heap.size W wx ∧ wx.heap[ba]? = some (.cells #[.int .i64 x, .int .i64 y] 76 (0, 0)) ∧ wx.heap[bb]? = some (.cells #[.int .i64 u, .int .i64 v] 76 (0, 0)))
  case first =>
    go_region_held3 (fun w' => w'.cell? ⟨b, off, none⟩ = some (.int .i64 x) ∧ w'.cell? ⟨b, off + 1, none⟩ = some (.int .i64 y) ∧ w'.cell? ⟨b, off + 2, none⟩ = some (.int .i64 u) ∧ w'.cell? ⟨b, off + 2 + 1, none⟩ = some (.int .i64 v)) ((go_split_ands; (repeat' apply And.intro) <;> (repeat (first | with_reducible assumption | with_reducible refine keepset ?_ (by dsimp only; omega) | with_reducible refine keepdrew ?_ | with_reducible refine keepcell (by with_reducible assumption) ?_ | with_reducible refine keepalloc ?_ _))))
      (first
        | (fail))
    all_goals
      go_wp2_with fail
      go_meet
      first
        | exact ⟨_, _, rfl, rfl, by (repeat (first | with_reducible exact Below.refl _ _ | with_reducible assumption | (with_reducible refine btrans ?_ (by with_reducible assumption)) | with_reducible refine bdrew ?_ | with_reducible refine balloc ?_ _)), old_alloc (new_alloc _ _ _ (by simp)), new_alloc _ _ _ (by simp)⟩
        | exact ⟨_, _, rfl, rfl, by (repeat (first | with_reducible exact Below.refl _ _ | with_reducible assumption | (with_reducible refine btrans ?_ (by with_reducible assumption)) | with_reducible refine bdrew ?_ | with_reducible refine balloc ?_ _)), new_alloc _ _ _ (by simp), old_alloc (new_alloc _ _ _ (by simp))⟩
  case rest =>
    obtain ⟨ba, bb, rfl, rfl, hbx, ga, gb⟩ := hcut
    obtain ⟨r00, r01, _, _⟩ := cell2f ga
    obtain ⟨r10, r11, _, _⟩ := cell2f gb
    have kd' := keepcell hbx kd
    have hszc : w.heap.size + 2 ≤ wc.heap.size := Nat.le_trans hsz hbx.size
    have hownc : wc.ownsRow (w.heap.size + 1) 80 4 (.slice (some ⟨w.heap.size + 1, 0, none⟩) 0 0) 0 [] := by
      refine ⟨hown.1, ?_⟩
      rcases hown.2 with ⟨q, _⟩ | ⟨g, cp, cur, e, q1, q2, q3⟩
      · cases q
      · exact .inr ⟨g, cp, cur, e, q1, keepheap2 hbx q2, q3⟩
    have hB0c := btrans hB0 hbx
    have Hown := hid hownc
    clear ga gb hown hownc kd k0 k1 k2 k3 hB0 hbx hsz
    go_wp2_with fail
    have hptB : PtsAt (wc.alloc (.cells #[.int .i64 x, .int .i64 y, .int .i64 u, .int .i64 y, .int .i64 u, .int .i64 v, .int .i64 x, .int .i64 v] 76)) wc.heap.size 0 cs := by
      rw [hcs]
      intro k hk
      simp only [Nat.zero_add]
      match k, hk with
      | 0, _ => exact ⟨newcell _ _ _ _ _ _ rfl rfl, newcell _ _ _ _ _ _ rfl rfl⟩
      | 1, _ => exact ⟨newcell _ _ _ _ _ _ rfl rfl, newcell _ _ _ _ _ _ rfl rfl⟩
      | 2, _ => exact ⟨newcell _ _ _ _ _ _ rfl rfl, newcell _ _ _ _ _ _ rfl rfl⟩
      | 3, _ => exact ⟨newcell _ _ _ _ _ _ rfl rfl, newcell _ _ _ _ _ _ rfl rfl⟩
    have HptB := hid hptB
    have Hcs := hid hcs
    have Hn := hid hn
    clear hptB hcs hn
    go_loopw [3, 7] (fun tv ti wr => ∃ k : Nat, ti = .int .i64 ((k : Int) + 1) ∧ k ≤ 3 ∧ wr.ownsRow (w.heap.size + 1) 80 4 tv k (flat ((alongSides cs).take k)) ∧ Below w.heap.size w wr ∧ wr.cell? ⟨w.heap.size, 0, none⟩ = some (.int .i64 2) ∧ PtsAt wr wc.heap.size 0 cs ∧ wc.heap.size < wr.heap.size ∧ some wc.heap.size ≠ tv.ownBlock) (fun _ ti _ => 5 - (intOf ti).toNat)
    case atStart =>
      refine ⟨0, rfl, by omega, ?_, balloc hB0c _, keepalloc kd' _, HptB.out, by simp, by simp [Value.ownBlock]; omega⟩
      have := (Hown.out).alloc (.cells #[.int .i64 x, .int .i64 y, .int .i64 u, .int .i64 y, .int .i64 u, .int .i64 v, .int .i64 x, .int .i64 v] 76)
      simpa [flat] using this
    case round =>
      clear HptB Hown r00 r01 r10 r11 kd' hB0c
      generalize wc.heap.size = B at *
      obtain ⟨k, rfl, hk, hown, hb, kd, hpB, hBl, hvb⟩ := hrel
      have hw0 : w.heap.size < wr.heap.size := World.block_lt_of_cell? wr _ kd
      have hvc : some w.heap.size ≠ u3.ownBlock := fun e => absurd (hown.lt _ e.symm).1 (by omega)
      have HpB := hid hpB
      clear hpB
      by_cases hlt : k < 3
      · obtain ⟨c0, c1⟩ := HpB.out k (by have := Hn.out; omega)
        obtain ⟨d0, d1⟩ := HpB.out (k + 1) (by have := Hn.out; omega)
        simp only [Nat.zero_add] at c0 c1 d0 d1
        have hnx : flat ((alongSides cs).take (k + 1)) = flat ((alongSides cs).take k) ++ [.int .i64 (cs.getD k (0, 0)).1, .int .i64 (cs.getD k (0, 0)).2, .int .i64 (cs.getD (k + 1) (0, 0)).1, .int .i64 (cs.getD (k + 1) (0, 0)).2] := by
          have hk' : k < (alongSides cs).length := by have := Hal.out; omega
          rw [List.take_succ_eq_append_getElem hk', flat_snoc]
          have := along_at cs k (by have := Hn.out; omega)
          rw [List.getD_eq_getElem?_getD, List.getElem?_eq_getElem hk'] at this
          simp only [Option.getD_some] at this
          rw [this]
        generalize (cs.getD k (0, 0)).1 = p at *
        generalize (cs.getD k (0, 0)).2 = q at *
        generalize (cs.getD (k + 1) (0, 0)).1 = r at *
        generalize (cs.getD (k + 1) (0, 0)).2 = s at *
        have Hnx := hid hnx
        clear hnx
        have hk0 : (0 : Int) ≤ (k : Int) + 1 := by omega
        have hk1 : (k : Int) + 1 < 4 := by omega
        have hk2 : (k : Int) < 4 := by omega
        have hk3 : (0 : Int) ≤ (k : Int) := by omega
        have hw1 : IntKind.i64.wrap ((k : Int) + 1 - 1) = (k : Int) := by rw [IntKind.wrap_i64]; omega
        have hw2 : IntKind.i64.wrap (k : Int) = (k : Int) := by rw [IntKind.wrap_i64]; omega
        go_wp2_with fail
        go_region_held3 (fun w' => w'.cell? ⟨B, k * 2, none⟩ = some (.int .i64 p) ∧ w'.cell? ⟨B, k * 2 + 1, none⟩ = some (.int .i64 q) ∧ w'.cell? ⟨B, (k + 1) * 2, none⟩ = some (.int .i64 r) ∧ w'.cell? ⟨B, (k + 1) * 2 + 1, none⟩ = some (.int .i64 s)) ((go_split_ands; (repeat' apply And.intro) <;> (repeat (first | with_reducible assumption | with_reducible refine keepdrew ?_ | with_reducible refine keepalloc ?_ _ | (refine hgrow.cell ?_ hvb)))))
          ((refine step_append_lies _ (by rfl) _ _ _ (by rfl) (w.heap.size + 1) 80 i0 _ 4 32 Tryz.underlying77 hi0 hz0 hz1 hz2 rfl (by omega) _ k (flat ((alongSides cs).take k)) (by rfl) ((hown.alloc _).drew) ⟨wr.heap.size, 0, none⟩ 1 1 [.int .i64 p, .int .i64 q, .int .i64 r, .int .i64 s] (by rfl) (by rfl) (World.news_of_block (cs := #[.int .i64 p, .int .i64 q, .int .i64 r, .int .i64 s]) (t := 80) (fr := (0, 0)) (heap_alloc_new wr _)) (by simp [Value.oneCell']) (by omega) (by unfold maxLen; omega) (by omega) (by simp; omega) (wr.heap.size + 1) (by simp) ?_; intro gg cp v1 hown1 hgrow hat hlt))
        go_wp2_with fail
        go_roundw
        case rel =>
          refine ⟨k + 1, by go_num, by omega, by rw [Hnx.out]; exact hown1, own_below hown (by omega) hb (by omega) hgrow, hgrow.cell (keepdrew (keepalloc kd _)) hvc, ?_, ?_, ?_⟩
          · refine PtsAt.grown (w := (wr.alloc _).drew) ?_ hgrow hvb
            intro j hj
            obtain ⟨z1, z2⟩ := HpB.out j hj
            exact ⟨keepdrew (keepalloc z1 _), keepdrew (keepalloc z2 _)⟩
          · have := hgrow.size; simp at this; omega
          · intro e
            simp only [Value.ownBlock, Option.some.injEq] at e
            rcases hat with h | h
            · exact hvb (by rw [h, e])
            · omega
        case measure => simp [intOf]; omega
      · have hkn' : k = 3 := by omega
        have hown' : wr.ownsRow (w.heap.size + 1) 80 4 u3 3 (flat (alongSides cs)) := by
          rw [hkn', List.take_of_length_le (by rw [Hal.out]; exact Nat.le_refl _)] at hown; exact hown
        clear hown
        subst hkn'
        obtain ⟨c0, c1⟩ := HpB.out 3 (by have := Hn.out; omega)
        obtain ⟨d0, d1⟩ := HpB.out 0 (by have := Hn.out; omega)
        simp only [Nat.zero_add, Nat.zero_mul, Nat.reduceMul, Nat.reduceAdd] at c0 c1 d0 d1
        have hra : flat (ringSides cs) = flat (alongSides cs) ++ [.int .i64 (cs.getD 3 (0, 0)).1, .int .i64 (cs.getD 3 (0, 0)).2, .int .i64 (cs.getD 0 (0, 0)).1, .int .i64 (cs.getD 0 (0, 0)).2] := by rw [Hra.out, flat_snoc]
        generalize (cs.getD 3 (0, 0)).1 = p at *
        generalize (cs.getD 3 (0, 0)).2 = q at *
        generalize (cs.getD 0 (0, 0)).1 = r at *
        generalize (cs.getD 0 (0, 0)).2 = s at *
        have HRA := hid hra
        clear hra
        have hw3 : IntKind.i64.wrap ((4 : Int) - 1) = 3 := by decide
        have hw4 : IntKind.i64.wrap (3 : Int) = 3 := by decide
        go_wp2_with fail
        go_region_held3 (fun w' => w'.cell? ⟨B, 6, none⟩ = some (.int .i64 p) ∧ w'.cell? ⟨B, 7, none⟩ = some (.int .i64 q) ∧ w'.cell? ⟨B, 0, none⟩ = some (.int .i64 r) ∧ w'.cell? ⟨B, 1, none⟩ = some (.int .i64 s)) ((go_split_ands; (repeat' apply And.intro) <;> (repeat (first | with_reducible assumption | with_reducible refine keepdrew ?_ | with_reducible refine keepalloc ?_ _ | (refine hgrow.cell ?_ hvb)))))
          ((refine step_append_lies _ (by rfl) _ _ _ (by rfl) (w.heap.size + 1) 80 i0 _ 4 32 Tryz.underlying77 hi0 hz0 hz1 hz2 rfl (by omega) _ 3 (flat (alongSides cs)) (by rfl) ((hown'.alloc _).drew) ⟨wr.heap.size, 0, none⟩ 1 1 [.int .i64 p, .int .i64 q, .int .i64 r, .int .i64 s] (by rfl) (by rfl) (World.news_of_block (cs := #[.int .i64 p, .int .i64 q, .int .i64 r, .int .i64 s]) (t := 80) (fr := (0, 0)) (heap_alloc_new wr _)) (by simp [Value.oneCell']) (by omega) (by unfold maxLen; omega) (by omega) (by simp; omega) (wr.heap.size + 1) (by simp) ?_; intro gg cp v1 hown1 hgrow hat hlt))
        have hlr : (ringSides cs).length = 3 + 1 := by rw [ringSides_len]; exact Hn.out
        obtain ⟨g, cp', e, h1, h2', h3, h4⟩ := sides_of (v := .slice (some ⟨gg, 0, none⟩) (3 + 1) cp) (qs := ringSides cs) (by rw [hlr, HRA.out]; exact hown1) (by omega)
        rw [hlr] at e h3
        cases e
        have H4 := hid h4
        have HB := hid (own_below hown' (by omega) hb (by omega) hgrow)
        clear h4 hlr
        go_wp2_with fail
        go_ret
        exact ⟨gg, cp, rfl, by omega, h2', h3, H4.out, HB.out⟩
end Go.Proofs.YtpgcnadmhbjlgaaGreat
namespace Go.Proofs.YtpgcnadmhbjlgaaGreat
open Go.RowKit
set_option linter.unusedSimpArgs false
set_option linter.unusedVariables false
theorem ta_dot_dot (v : Value) (w : World) : (Instr.typeAssert (.iface 117 v) 90 117 true).run Tryz.prog w = .ok (.tuple #[v, .bool true]) w := by kernel_rfl
theorem ta_path_dot (v : Value) (w : World) : (Instr.typeAssert (.iface 118 v) 90 117 true).run Tryz.prog w = .ok (.tuple #[.slice none 0 0, .bool false]) w := by kernel_rfl
theorem ta_path_path (v : Value) (w : World) : (Instr.typeAssert (.iface 118 v) 90 118 true).run Tryz.prog w = .ok (.tuple #[v, .bool true]) w := by kernel_rfl
theorem ta_block_dot (v : Value) (w : World) : (Instr.typeAssert (.iface 119 v) 90 117 true).run Tryz.prog w = .ok (.tuple #[.slice none 0 0, .bool false]) w := by kernel_rfl
theorem ta_block_path (v : Value) (w : World) : (Instr.typeAssert (.iface 119 v) 90 118 true).run Tryz.prog w = .ok (.tuple #[.slice none 0 0, .bool false]) w := by kernel_rfl
theorem ta_block_block (v : Value) (w : World) : (Instr.typeAssert (.iface 119 v) 90 119 true).run Tryz.prog w = .ok (.tuple #[v, .bool true]) w := by kernel_rfl
theorem ta_ring_dot (v : Value) (w : World) : (Instr.typeAssert (.iface 120 v) 90 117 true).run Tryz.prog w = .ok (.tuple #[.slice none 0 0, .bool false]) w := by kernel_rfl
theorem ta_ring_path (v : Value) (w : World) : (Instr.typeAssert (.iface 120 v) 90 118 true).run Tryz.prog w = .ok (.tuple #[.slice none 0 0, .bool false]) w := by kernel_rfl
theorem ta_ring_block (v : Value) (w : World) : (Instr.typeAssert (.iface 120 v) 90 119 true).run Tryz.prog w = .ok (.tuple #[.slice none 0 0, .bool false]) w := by kernel_rfl
theorem ta_ring_ring (v : Value) (w : World) : (Instr.typeAssert (.iface 120 v) 90 120 true).run Tryz.prog w = .ok (.tuple #[v, .bool true]) w := by kernel_rfl
set_option maxHeartbeats 1000000 in
theorem block_corners (x y u v : Int) (a : Option Addr) (cap : Nat) (w : World) (hc : 2 ≤ cap) (h : Pts w a [(x, y), (u, v)]) : Calls Tryz.prog 105 #[.slice a 2 cap] w fun e w' => ∃ b, e = .returned (.slice (some ⟨b, 0, none⟩) 4 4) ∧ w.heap.size ≤ b ∧ Pts w' (some ⟨b, 0, none⟩) (corners x y u v) ∧ Below w.heap.size w w' := by
  obtain ⟨b, off, rfl, hbs, hp⟩ : ∃ b off, a = some ⟨b, off, none⟩ ∧ b < w.heap.size ∧ PtsAt w b off [(x, y), (u, v)] := by
    rcases h with h | h
    · cases h
    · exact h
  obtain ⟨c0, c1⟩ := hp 0 (by simp)
  obtain ⟨d0, d1⟩ := hp 1 (by simp)
  simp only [Nat.zero_mul, Nat.add_zero, List.getD_cons_zero, List.getD_cons_succ, Nat.one_mul] at c0 c1 d0 d1
  have Hp := hid hp
  clear hp h
  go_enter Tryz.func105, Tryz.ntmps105
  go_wp2_with fail
  go_region_held3 (fun w' => w'.cell? ⟨b, off, none⟩ = some (.int .i64 x) ∧ w'.cell? ⟨b, off + 1, none⟩ = some (.int .i64 y) ∧ w'.cell? ⟨b, off + 2, none⟩ = some (.int .i64 u) ∧ w'.cell? ⟨b, off + 2 + 1, none⟩ = some (.int .i64 v)) ((go_split_ands; (repeat' apply And.intro) <;> (repeat (first | with_reducible assumption | with_reducible refine keepset ?_ (by dsimp only; omega) | with_reducible refine keepdrew ?_ | with_reducible refine keepcell (by with_reducible assumption) ?_ | with_reducible refine keepalloc ?_ _))))
    (first
      | (fail))
  go_wp2_with fail
  go_ret
  refine ⟨w.heap.size, rfl, Nat.le_refl _, .inr ⟨w.heap.size, 0, rfl, by simp, ?_⟩, by (repeat (first | with_reducible exact Below.refl _ _ | with_reducible assumption | (with_reducible refine btrans ?_ (by with_reducible assumption)) | with_reducible refine bdrew ?_ | with_reducible refine balloc ?_ _))⟩
  intro k hk
  simp only [Nat.zero_add]
  match k, hk with
  | 0, _ => exact ⟨newcell _ _ _ _ _ _ rfl rfl, newcell _ _ _ _ _ _ rfl rfl⟩
  | 1, _ => exact ⟨newcell _ _ _ _ _ _ rfl rfl, newcell _ _ _ _ _ _ rfl rfl⟩
  | 2, _ => exact ⟨newcell _ _ _ _ _ _ rfl rfl, newcell _ _ _ _ _ _ rfl rfl⟩
  | 3, _ => exact ⟨newcell _ _ _ _ _ _ rfl rfl, newcell _ _ _ _ _ _ rfl rfl⟩
set_option maxRecDepth 100000 in
set_option maxHeartbeats 1000000 in
theorem of_dot (x y : Int) (a : Option Addr) (cap : Nat) (w : World) (h : Pts w a [(x, y)]) : Calls Tryz.prog 76 #[.iface 117 (.slice a 1 cap)] w fun e w' => ∃ b, e = .returned (.slice (some ⟨b, 0, none⟩) 1 1) ∧ w.heap.size ≤ b ∧ b < w'.heap.size ∧ SdAt w' b 0 [(x, y, x, y)] ∧ Below w.heap.size w w' := by
  obtain ⟨b, off, rfl, hbs, hp⟩ : ∃ b off, a = some ⟨b, off, none⟩ ∧ b < w.heap.size ∧ PtsAt w b off [(x, y)] := by
    rcases h with h | h
    · cases h
    · exact h
  obtain ⟨c0, c1⟩ := hp 0 (by simp)
  simp only [Nat.zero_mul, Nat.add_zero, List.getD_cons_zero] at c0 c1
  have Hp := hid hp
  clear hp h
  have tdot := ta_dot_dot
  go_enter Tryz.func76, Tryz.ntmps76
  go_wp2_with fail
  go_region_held3 (fun w' => w'.cell? ⟨b, off, none⟩ = some (.int .i64 x) ∧ w'.cell? ⟨b, off + 1, none⟩ = some (.int .i64 y)) ((go_split_ands; (repeat' apply And.intro) <;> (repeat (first | with_reducible assumption | with_reducible refine keepset ?_ (by dsimp only; omega) | with_reducible refine keepdrew ?_ | with_reducible refine keepcell (by with_reducible assumption) ?_ | with_reducible refine keepalloc ?_ _))))
    (first
      | (fail))
  go_wp2_with fail
  go_ret
  refine ⟨w.heap.size, rfl, Nat.le_refl _, by simp, ?_, by (repeat (first | with_reducible exact Below.refl _ _ | with_reducible assumption | (with_reducible refine btrans ?_ (by with_reducible assumption)) | with_reducible refine bdrew ?_ | with_reducible refine balloc ?_ _))⟩
  intro k hk
  obtain rfl : k = 0 := by simp at hk; exact hk
  exact ⟨newcell _ _ _ _ _ _ rfl rfl, newcell _ _ _ _ _ _ rfl rfl, newcell _ _ _ _ _ _ rfl rfl, newcell _ _ _ _ _ _ rfl rfl⟩
set_option maxRecDepth 100000 in
set_option maxHeartbeats 1000000 in
theorem of_path (a : Option Addr) (cap : Nat) (ps : List (Int × Int)) (w : World) (hm : ps.length ≤ 1099511627776) (hc : ps.length ≤ cap) (h : Pts w a ps) (h1 : 1 ≤ ps.length) : Calls Tryz.prog 76 #[.iface 118 (.slice a ps.length cap)] w fun e w' => ∃ b, e = .returned (.slice (some ⟨b, 0, none⟩) (alongSides ps).length (alongSides ps).length) ∧ w.heap.size ≤ b ∧ b < w'.heap.size ∧ SdAt w' b 0 (alongSides ps) ∧ Below w.heap.size w w' := by
  have hs := fun w' (hw : Pts w' a ps) => sides_along a cap ps w' hm hc hw h1
  have Hs := hid hs
  have Hh := hid h
  clear hs h
  have tdot := ta_path_dot
  have tpath := ta_path_path
  go_enter Tryz.func76, Tryz.ntmps76
  go_wp2_with fail
  refine (Hs.out _ Hh.out).mono ?_
  rintro e w1 ⟨b1, rfl, h1', h2', h3', h4'⟩
  have H3 := hid h3'
  clear h3'
  go_wp2_with fail
  go_ret
  exact ⟨b1, rfl, h1', h2', H3.out, h4'⟩
set_option maxRecDepth 100000 in
set_option maxHeartbeats 1000000 in
theorem of_ring (a : Option Addr) (cap : Nat) (ps : List (Int × Int)) (w : World) (hm : ps.length ≤ 1099511627776) (hc : ps.length ≤ cap) (h : Pts w a ps) : Calls Tryz.prog 76 #[.iface 120 (.slice a ps.length cap)] w fun e w' => ∃ b, e = .returned (.slice (some ⟨b, 0, none⟩) ps.length ps.length) ∧ w.heap.size ≤ b ∧ b < w'.heap.size ∧ SdAt w' b 0 (ringSides ps) ∧ Below w.heap.size w w' := by
  have hs := fun w' (hw : Pts w' a ps) => sides_around a cap ps w' hm hc hw
  have Hs := hid hs
  have Hh := hid h
  clear hs h
  have tdot := ta_ring_dot
  have tpath := ta_ring_path
  have tblock := ta_ring_block
  have tring := ta_ring_ring
  go_enter Tryz.func76, Tryz.ntmps76
  go_wp2_with fail
  refine (Hs.out _ Hh.out).mono ?_
  rintro e w1 ⟨b1, rfl, h1', h2', h3', h4'⟩
  have H3 := hid h3'
  clear h3'
  go_wp2_with fail
  go_ret
  exact ⟨b1, rfl, h1', h2', H3.out, h4'⟩
set_option maxRecDepth 100000 in
set_option maxHeartbeats 1000000 in
theorem of_block (x y u v : Int) (a : Option Addr) (cap : Nat) (w : World) (hc : 2 ≤ cap) (h : Pts w a [(x, y), (u, v)]) : Calls Tryz.prog 76 #[.iface 119 (.slice a 2 cap)] w fun e w' => ∃ b, e = .returned (.slice (some ⟨b, 0, none⟩) 4 4) ∧ w.heap.size ≤ b ∧ b < w'.heap.size ∧ SdAt w' b 0 (ringSides (corners x y u v)) ∧ Below w.heap.size w w' := by
  have hs := fun b w' (hw : Pts w' (some ⟨b, 0, none⟩) (corners x y u v)) => sides_around (some ⟨b, 0, none⟩) 4 (corners x y u v) w' (by simp [corners]) (by simp [corners]) hw
  have hl : (corners x y u v).length = 4 := rfl
  rw [hl] at hs
  have Hs := hid hs
  have Hh := hid h
  clear hs h
  have tdot := ta_block_dot
  have tpath := ta_block_path
  have tblock := ta_block_block
  go_enter Tryz.func76, Tryz.ntmps76
  go_wp2_with fail
  refine (block_corners x y u v a cap _ hc Hh.out).mono ?_
  rintro e w1 ⟨b1, rfl, h1', h2', h3'⟩
  have H2 := hid h2'
  clear h2'
  go_wp2_with fail
  refine (Hs.out _ _ H2.out).mono ?_
  rintro e w2 ⟨b2, rfl, g1', g2', g3', g4'⟩
  have H3 := hid g3'
  clear g3'
  go_wp2_with fail
  go_ret
  exact ⟨b2, rfl, Nat.le_trans h3'.size g1', g2', H3.out, btrans h3' g4'⟩
end Go.Proofs.YtpgcnadmhbjlgaaGreat
namespace Go.Proofs.YtpgcnadmhbjlgaaGreat
open Go.RowKit
set_option linter.unusedSimpArgs false
set_option linter.unusedVariables false
/-- The sides of a shape of kind k. -/
def sdl (k : Int) (ps : List (Int × Int)) : List Sd :=
  if k = 0 then [((ps.getD 0 (0, 0)).1, (ps.getD 0 (0, 0)).2, (ps.getD 0 (0, 0)).1, (ps.getD 0 (0, 0)).2)]
  else if k = 1 then alongSides ps
  else if k = 2 then ringSides (corners (ps.getD 0 (0, 0)).1 (ps.getD 0 (0, 0)).2 (ps.getD 1 (0, 0)).1 (ps.getD 1 (0, 0)).2)
  else ringSides ps
def figv (k : Int) (a : Option Addr) (n cap : Nat) : Value :=
  if k = 0 then .iface 117 (.slice a n cap) else if k = 1 then .iface 118 (.slice a n cap) else if k = 2 then .iface 119 (.slice a n cap) else .iface 120 (.slice a n cap)
theorem one_of {ps : List (Int × Int)} (h : ps.length = 1) : ∃ x y, ps = [(x, y)] := by
  match ps, h with
  | [(x, y)], _ => exact ⟨x, y, rfl⟩
theorem two_of {ps : List (Int × Int)} (h : ps.length = 2) : ∃ x y u v, ps = [(x, y), (u, v)] := by
  match ps, h with
  | [(x, y), (u, v)], _ => exact ⟨x, y, u, v, rfl⟩
theorem corners_len (x y u v : Int) : (ringSides (corners x y u v)).length = 4 := by rw [ringSides_len]; rfl
theorem sides_any (k : Int) (a : Option Addr) (cap : Nat) (ps : List (Int × Int)) (w : World) (hm : ps.length ≤ 1099511627776) (hc : ps.length ≤ cap) (hs : shok k ps = true) (h : Pts w a ps) : Calls Tryz.prog 76 #[figv k a ps.length cap] w fun e w' => ∃ b, e = .returned (.slice (some ⟨b, 0, none⟩) (sdl k ps).length (sdl k ps).length) ∧ w.heap.size ≤ b ∧ b < w'.heap.size ∧ SdAt w' b 0 (sdl k ps) ∧ Below w.heap.size w w' := by
  rcases shok_kind hs with ⟨rfl, hl⟩ | ⟨rfl, hl, hl2⟩ | ⟨rfl, hl⟩ | ⟨rfl, hl, hl2⟩
  · obtain ⟨x, y, rfl⟩ := one_of hl
    exact of_dot x y a cap w h
  · exact of_path a cap ps w hm hc h (by omega)
  · obtain ⟨x, y, u, v, rfl⟩ := two_of hl
    exact of_block x y u v a cap w hc h
  · have := of_ring a cap ps w hm hc h
    refine this.mono ?_
    rintro e w' ⟨b, he, h1, h2, h3, h4⟩
    refine ⟨b, ?_, h1, h2, h3, h4⟩
    rw [he]; simp [sdl, ringSides_len]
theorem sides_spec (k : Int) (a : Option Addr) (cap : Nat) (ps : List (Int × Int)) (w : World) (hm : ps.length ≤ 1099511627776) (hc : ps.length ≤ cap) (hs : shok k ps = true) (h : Pts w a ps) : Calls Tryz.prog 37 #[shv k a ps.length cap] w fun e w' => ∃ b cp, e = .returned (.slice (some ⟨b, 0, none⟩) (sdl k ps).length cp) ∧ w.heap.size ≤ b ∧ b < w'.heap.size ∧ (sdl k ps).length ≤ cp ∧ SdAt w' b 0 (sdl k ps) ∧ Below w.heap.size w w' := by
  rcases shok_kind hs with ⟨rfl, hl⟩ | ⟨rfl, hl, hl2⟩ | ⟨rfl, hl⟩ | ⟨rfl, hl, hl2⟩
  · obtain ⟨x, y, rfl⟩ := one_of hl
    exact spec_sides0 x y a cap w h
  · exact spec_sides1 a cap ps w hm hc h (by omega) (by omega)
  · obtain ⟨x, y, u, v, rfl⟩ := two_of hl
    exact spec_sides2 x y u v a cap w h hc
  · have := spec_sides3 a cap ps w hm hc h (ps.length - 1) (by omega) hl hl2
    rw [show ps.length - 1 + 1 = ps.length by omega] at this
    exact this
theorem sdl_len {k : Int} {ps : List (Int × Int)} (hs : shok k ps = true) : 0 < (sdl k ps).length ∧ (sdl k ps).length ≤ 60 := by
  rcases shok_kind hs with ⟨rfl, hl⟩ | ⟨rfl, hl, hl2⟩ | ⟨rfl, hl⟩ | ⟨rfl, hl, hl2⟩
  · simp [sdl]
  · simp [sdl, along_len]; omega
  · simp [sdl, corners_len]
  · simp [sdl, ringSides_len]; omega
theorem ringSides_in {ps : List (Int × Int)} (h : allok ps = true) : ∀ k, k < (ringSides ps).length → SdIn ((ringSides ps).getD k (0, 0, 0, 0)) := by
  intro k hk
  rw [ringSides_len] at hk
  rw [ringSides_at ps k hk]
  obtain ⟨a, b⟩ := allok_in h k hk
  obtain ⟨c, d⟩ := nxt_in h k hk
  exact ⟨a, b, c, d⟩
theorem pok_at2 {ps : List (Int × Int)} (h : allok ps = true) (k : Nat) (hk : k < ps.length) : pok (ps.getD k (0, 0)).1 (ps.getD k (0, 0)).2 = true := by
  rw [allok, List.all_eq_true] at h
  refine h _ ?_
  rw [List.getD_eq_getElem?_getD, List.getElem?_eq_getElem hk]
  exact List.getElem_mem hk
theorem sdl_in {k : Int} {ps : List (Int × Int)} (hs : shok k ps = true) : ∀ j, j < (sdl k ps).length → SdIn ((sdl k ps).getD j (0, 0, 0, 0)) := by
  have ha := shok_allok hs
  rcases shok_kind hs with ⟨rfl, hl⟩ | ⟨rfl, hl, hl2⟩ | ⟨rfl, hl⟩ | ⟨rfl, hl, hl2⟩
  · intro j hj
    obtain ⟨x, y, rfl⟩ := one_of hl
    obtain ⟨h1, h2⟩ := allok_in ha 0 (by simp)
    simp [sdl] at hj
    subst hj
    exact ⟨h1, h2, h1, h2⟩
  · exact along_in ha
  · obtain ⟨x, y, u, v, rfl⟩ := two_of hl
    have h1 := pok_at2 ha 0 (by simp)
    have h2 := pok_at2 ha 1 (by simp)
    refine ringSides_in (ps := corners x y u v) ?_
    simp only [List.getD_cons_zero, List.getD_cons_succ, pok, Bool.and_eq_true] at h1 h2
    simp [corners, allok, pok, h1.1, h1.2, h2.1, h2.2]
  · exact ringSides_in ha
theorem sdl_first {k : Int} {ps : List (Int × Int)} (hs : shok k ps = true) : ((sdl k ps).getD 0 (0, 0, 0, 0)).1 = (ps.getD 0 (0, 0)).1 ∧ ((sdl k ps).getD 0 (0, 0, 0, 0)).2.1 = (ps.getD 0 (0, 0)).2 := by
  rcases shok_kind hs with ⟨rfl, hl⟩ | ⟨rfl, hl, hl2⟩ | ⟨rfl, hl⟩ | ⟨rfl, hl, hl2⟩
  · exact ⟨rfl, rfl⟩
  · have e : sdl 1 ps = alongSides ps := rfl
    rw [e, along_at ps 0 (by omega)]; exact ⟨rfl, rfl⟩
  · have e : sdl 2 ps = ringSides (corners (ps.getD 0 (0, 0)).1 (ps.getD 0 (0, 0)).2 (ps.getD 1 (0, 0)).1 (ps.getD 1 (0, 0)).2) := rfl
    rw [e, ringSides_at _ 0 (by unfold corners; simp)]; exact ⟨rfl, rfl⟩
  · have e : sdl 3 ps = ringSides ps := rfl
    rw [e, ringSides_at ps 0 (by omega)]; exact ⟨rfl, rfl⟩
def rowM (p : Sd) (Y : List Sd) : Nat → Bool
  | 0 => false
  | j + 1 => rowM p Y j || meetq p (Y.getD j (0, 0, 0, 0))
def allM (X Y : List Sd) : Nat → Bool
  | 0 => false
  | i + 1 => allM X Y i || rowM (X.getD i (0, 0, 0, 0)) Y Y.length
theorem row_mono {p : Sd} {Y : List Sd} {k : Nat} (h : rowM p Y k = true) : ∀ m, k ≤ m → rowM p Y m = true
  | 0, hm => by obtain rfl : k = 0 := by omega
                exact h
  | m + 1, hm => by
    by_cases e : k = m + 1
    · subst e; exact h
    · rw [rowM, row_mono h m (by omega)]; rfl
theorem all_mono {X Y : List Sd} {k : Nat} (h : allM X Y k = true) : ∀ m, k ≤ m → allM X Y m = true
  | 0, hm => by obtain rfl : k = 0 := by omega
                exact h
  | m + 1, hm => by
    by_cases e : k = m + 1
    · subst e; exact h
    · rw [allM, all_mono h m (by omega)]; rfl
theorem all_hit {X Y : List Sd} {i j : Nat} (hi : i < X.length) (hj : j < Y.length) (h : rowM (X.getD i (0, 0, 0, 0)) Y j = false) (hm : meetq (X.getD i (0, 0, 0, 0)) (Y.getD j (0, 0, 0, 0)) = true) : allM X Y X.length = true := by
  refine all_mono (k := i + 1) ?_ _ (by omega)
  rw [allM, row_mono (k := j + 1) (by rw [rowM, hm]; simp) _ (by omega)]; simp
end Go.Proofs.YtpgcnadmhbjlgaaGreat
