/- The sides of a shape: the specification's, of points and lines. -/
import Derived.Test.YtmnnbifekbacnaaDoorHas3
import Derived.OwnWalk
import Derived.Deep.AppendLies
namespace Go.Proofs.YtmnnbifekbacnaaDoor
open Go.RowKit
set_option linter.unusedSimpArgs false
set_option linter.unusedVariables false
theorem Tryd.info2P : (Tryd.prog.info? 63).map (fun i => (i.zero, i.size, i.bytes)) = some (some (.agg #[.int .i64 0, .int .i64 0, .int .i64 0, .int .i64 0]), 4, 32) := by kernel_rfl
def flat (qs : List Sd) : List Value := qs.flatMap fun q => [.int .i64 q.1, .int .i64 q.2.1, .int .i64 q.2.2.1, .int .i64 q.2.2.2]
theorem flat_len (qs : List Sd) : (flat qs).length = qs.length * 4 := by
  induction qs with
  | nil => rfl
  | cons q r ih => simp only [flat, List.flatMap_cons, List.length_append, List.length_cons, List.length_nil] at *; omega
theorem flat_snoc (qs : List Sd) (q : Sd) : flat (qs ++ [q]) = flat qs ++ [.int .i64 q.1, .int .i64 q.2.1, .int .i64 q.2.2.1, .int .i64 q.2.2.2] := by simp [flat]
theorem flat_at (qs : List Sd) : ∀ k, k < qs.length → (flat qs)[k * 4]? = some (.int .i64 (qs.getD k (0, 0, 0, 0)).1) ∧ (flat qs)[k * 4 + 1]? = some (.int .i64 (qs.getD k (0, 0, 0, 0)).2.1) ∧ (flat qs)[k * 4 + 2]? = some (.int .i64 (qs.getD k (0, 0, 0, 0)).2.2.1) ∧ (flat qs)[k * 4 + 3]? = some (.int .i64 (qs.getD k (0, 0, 0, 0)).2.2.2) := by
  induction qs with
  | nil => intro k hk; simp at hk
  | cons q r ih =>
    intro k hk
    cases k with
    | zero => simp [flat]
    | succ k =>
      have := ih k (by simpa using hk)
      simp only [flat, List.flatMap_cons, List.getD_cons_succ] at this ⊢
      rw [show (k + 1) * 4 = k * 4 + 4 by omega]
      simpa [List.getElem?_append_right] using this
theorem sides_of {w : World} {B : Nat} {v : Value} {qs : List Sd} (h : w.ownsRow B 63 4 v qs.length (flat qs)) (h0 : 0 < qs.length) : ∃ g cap, v = .slice (some ⟨g, 0, none⟩) qs.length cap ∧ B ≤ g ∧ g < w.heap.size ∧ qs.length ≤ cap ∧ SdAt w g 0 qs := by
  have h' := h
  rcases h.2 with ⟨_, hn⟩ | ⟨g, cap, cur, rfl, hb, hg, hc, _⟩
  · omega
  · refine ⟨g, cap, rfl, hb, (Array.getElem?_eq_some_iff.1 hg).1, hc, ?_⟩
    intro k hk
    obtain ⟨f0, f1, f2, f3⟩ := flat_at qs k hk
    have hcs := h'.cells rfl
    have q0 := hcs _ _ f0
    have q1 := hcs _ _ f1
    have q2 := hcs _ _ f2
    have q3 := hcs _ _ f3
    rw [Addr.add_mid] at q0 q1 q2 q3
    exact ⟨q0, by rw [Nat.add_assoc]; exact q1, by rw [Nat.add_assoc]; exact q2, by rw [Nat.add_assoc]; exact q3⟩
theorem own_below {w w0 w1 : World} {A B : Nat} {v : Value} {n : Nat} {xs : List Value} {o : Obj} (hown : w0.ownsRow B 63 4 v n xs) (hAB : A ≤ B) (hb : Below A w w0) (hB : A ≤ w0.heap.size) (hg : (w0.alloc o).drew.grownBy w1 v.ownBlock) : Below A w w1 :=
  ((hb.alloc hB o).drew).grown hg (by simp; omega) (fun k hk => Nat.le_trans hAB (hown.lt k hk).1)
set_option maxRecDepth 100000 in
set_option maxHeartbeats 2000000 in
theorem spec_sides0 (x y : Int) (a : Option Addr) (cap : Nat) (w : World) (h : Pts w a [(x, y)]) : Calls Tryd.prog 31 #[shv 0 a 1 cap] w fun e w' => ∃ g cp, e = .returned (.slice (some ⟨g, 0, none⟩) 1 cp) ∧ w.heap.size ≤ g ∧ g < w'.heap.size ∧ 1 ≤ cp ∧ SdAt w' g 0 [(x, y, x, y)] ∧ Below w.heap.size w w' := by
  obtain ⟨i0, hi0, hz0, hz1, hz2⟩ := info_parts Tryd.info2P
  obtain ⟨b, off, rfl, hbs, hp⟩ : ∃ b off, a = some ⟨b, off, none⟩ ∧ b < w.heap.size ∧ PtsAt w b off [(x, y)] := by
    rcases h with h | h
    · cases h
    · exact h
  obtain ⟨c0, c1⟩ := hp 0 (by simp)
  simp only [Nat.zero_mul, Nat.add_zero, List.getD_cons_zero] at c0 c1
  have Hp := hid hp
  clear hp h
  go_enter Tryd.func31, Tryd.ntmps31
  go_wp2_with fail
  have hown : ((w.alloc (.cells #[.int .i64 0, .slice (some ⟨b, off, none⟩) 1 cap] 33)).alloc (.cells #[] 63)).ownsRow w.heap.size 63 4 (.slice (some ⟨w.heap.size + 1, 0, none⟩) 0 0) 0 [] := by
    have := World.ownsRow_made (base := w.heap.size) (e := 63) (size := 4) (w.alloc (.cells #[.int .i64 0, .slice (some ⟨b, off, none⟩) 1 cap] 33)) #[] 0 (by simp) (by decide) rfl
    simpa using this
  have hB0 : Below w.heap.size w ((w.alloc (.cells #[.int .i64 0, .slice (some ⟨b, off, none⟩) 1 cap] 33)).alloc (.cells #[] 63)) := by (repeat (first | with_reducible exact Below.refl _ _ | with_reducible assumption | (with_reducible refine btrans ?_ (by with_reducible assumption)) | with_reducible refine bdrew ?_ | with_reducible refine balloc ?_ _))
  have k0 : ((w.alloc (.cells #[.int .i64 0, .slice (some ⟨b, off, none⟩) 1 cap] 33)).alloc (.cells #[] 63)).cell? ⟨b, off, none⟩ = some (.int .i64 x) := by (repeat (first | with_reducible assumption | (refine newcell _ _ _ _ _ _ ?_ rfl; simp; done) | refine keepcell (by with_reducible assumption) ?_ | refine keepdrew ?_ | refine keepalloc ?_ _))
  have k1 : ((w.alloc (.cells #[.int .i64 0, .slice (some ⟨b, off, none⟩) 1 cap] 33)).alloc (.cells #[] 63)).cell? ⟨b, off + 1, none⟩ = some (.int .i64 y) := by (repeat (first | with_reducible assumption | (refine newcell _ _ _ _ _ _ ?_ rfl; simp; done) | refine keepcell (by with_reducible assumption) ?_ | refine keepdrew ?_ | refine keepalloc ?_ _))
  have hsz : w.heap.size + 2 ≤ ((w.alloc (.cells #[.int .i64 0, .slice (some ⟨b, off, none⟩) 1 cap] 33)).alloc (.cells #[] 63)).heap.size := by simp
  have hvb : some b ≠ (Value.slice (some ⟨w.heap.size + 1, 0, none⟩) 0 0).ownBlock := by simp [Value.ownBlock]; omega
  generalize ((w.alloc (.cells #[.int .i64 0, .slice (some ⟨b, off, none⟩) 1 cap] 33)).alloc (.cells #[] 63)) = W at *
  clear c0 c1
  go_region_held3 (fun w' => w'.cell? ⟨b, off, none⟩ = some (.int .i64 x) ∧ w'.cell? ⟨b, off + 1, none⟩ = some (.int .i64 y)) ((go_split_ands; (repeat' apply And.intro) <;> (repeat (first | with_reducible assumption | with_reducible refine keepdrew ?_ | with_reducible refine keepalloc ?_ _ | (refine hgrow.cell ?_ hvb)))))
    ((refine step_append_lies _ (by rfl) _ _ _ (by rfl) w.heap.size 63 i0 _ 4 32 Tryd.underlying60 hi0 hz0 hz1 hz2 rfl (by omega) _ 0 [] (by rfl) ((hown.alloc _).drew) ⟨W.heap.size, 0, none⟩ 1 1 [.int .i64 x, .int .i64 y, .int .i64 x, .int .i64 y] (by rfl) (by rfl) (World.news_of_block (cs := #[.int .i64 x, .int .i64 y, .int .i64 x, .int .i64 y]) (t := 63) (fr := (0, 0)) (heap_alloc_new W _)) (by simp [Value.oneCell']) (by omega) (by unfold maxLen; omega) (by omega) (by simp; omega) (W.heap.size + 1) (by simp) ?_; intro gg cp v1 hown1 hgrow hat hlt))
  go_wp2_with fail
  go_ret
  obtain ⟨g, cp', e, h1, h2, h3, h4⟩ := sides_of (v := .slice (some ⟨gg, 0, none⟩) 1 cp) (qs := [(x, y, x, y)]) (by simpa [flat] using hown1) (by simp)
  cases e
  exact ⟨gg, cp, rfl, h1, h2, h3, h4, own_below hown (Nat.le_refl _) hB0 (by omega) hgrow⟩
set_option maxRecDepth 100000 in
set_option maxHeartbeats 2000000 in
theorem spec_sides1 (a : Option Addr) (cap : Nat) (ps : List (Int × Int)) (w : World) (hm : ps.length ≤ 1099511627776) (hc : ps.length ≤ cap) (h : Pts w a ps) (h2 : 2 ≤ ps.length) (h6 : ps.length ≤ 60) : Calls Tryd.prog 31 #[shv 1 a ps.length cap] w fun e w' => ∃ g cp, e = .returned (.slice (some ⟨g, 0, none⟩) (alongSides ps).length cp) ∧ w.heap.size ≤ g ∧ g < w'.heap.size ∧ (alongSides ps).length ≤ cp ∧ SdAt w' g 0 (alongSides ps) ∧ Below w.heap.size w w' := by
  obtain ⟨i0, hi0, hz0, hz1, hz2⟩ := info_parts Tryd.info2P
  obtain ⟨b, off, rfl, hbs, hp⟩ : ∃ b off, a = some ⟨b, off, none⟩ ∧ b < w.heap.size ∧ PtsAt w b off ps := by
    rcases h with h | h
    · rw [h] at h2; simp at h2
    · exact h
  have Hp := hid hp
  have Hal := hid (along_len ps)
  clear hp h
  have h2i : (2 : Int) ≤ (ps.length : Int) := by omega
  go_enter Tryd.func31, Tryd.ntmps31
  go_wp2_with fail
  go_loopw [3, 7] (fun tv ti wr => ∃ k : Nat, ti = .int .i64 ((k : Int) + 1) ∧ k + 1 ≤ ps.length ∧ wr.ownsRow (w.heap.size + 1) 63 4 tv k (flat ((alongSides ps).take k)) ∧ Below w.heap.size w wr ∧ wr.cell? ⟨w.heap.size, 0, none⟩ = some (.int .i64 1)) (fun _ ti _ => ps.length + 1 - (intOf ti).toNat)
  case atStart =>
    refine ⟨0, rfl, by omega, ?_, ?_, ?_⟩
    · have := World.ownsRow_made (base := w.heap.size + 1) (e := 63) (size := 4) (w.alloc (.cells #[.int .i64 1, .slice (some ⟨b, off, none⟩) ps.length cap] 33)) #[] 0 (by simp) (by decide) rfl
      simpa [flat] using this
    · (repeat (first | with_reducible exact Below.refl _ _ | with_reducible assumption | (with_reducible refine btrans ?_ (by with_reducible assumption)) | with_reducible refine bdrew ?_ | with_reducible refine balloc ?_ _))
    · (repeat (first | with_reducible assumption | (refine newcell _ _ _ _ _ _ ?_ rfl; simp; done) | refine keepcell (by with_reducible assumption) ?_ | refine keepdrew ?_ | refine keepalloc ?_ _))
  case round =>
    obtain ⟨k, rfl, hk, hown, hb, kd⟩ := hrel
    have hw0 : w.heap.size < wr.heap.size := World.block_lt_of_cell? wr _ kd
    by_cases hlt : k + 1 < ps.length
    · obtain ⟨c0, c1⟩ := Hp.out.below hbs hb k (by omega)
      obtain ⟨d0, d1⟩ := Hp.out.below hbs hb (k + 1) (by omega)
      have hnx : flat ((alongSides ps).take (k + 1)) = flat ((alongSides ps).take k) ++ [.int .i64 (ps.getD k (0, 0)).1, .int .i64 (ps.getD k (0, 0)).2, .int .i64 (ps.getD (k + 1) (0, 0)).1, .int .i64 (ps.getD (k + 1) (0, 0)).2] := by
        have hk' : k < (alongSides ps).length := by rw [along_len]; omega
        rw [List.take_succ_eq_append_getElem hk', flat_snoc]
        have := along_at ps k (by omega)
        rw [List.getD_eq_getElem?_getD, List.getElem?_eq_getElem hk'] at this
        simp only [Option.getD_some] at this
        rw [this]
      generalize (ps.getD k (0, 0)).1 = x at *
      generalize (ps.getD k (0, 0)).2 = y at *
      generalize (ps.getD (k + 1) (0, 0)).1 = u at *
      generalize (ps.getD (k + 1) (0, 0)).2 = v at *
      have Hnx := hid hnx
      clear hnx
      have hvb : some b ≠ u3.ownBlock := fun e => absurd (hown.lt b e.symm).1 (by omega)
      have hvc : some w.heap.size ≠ u3.ownBlock := fun e => absurd (hown.lt _ e.symm).1 (by omega)
      have hk0 : (0 : Int) ≤ (k : Int) + 1 := by omega
      have hk1 : (k : Int) + 1 < (ps.length : Int) := by omega
      have hk2 : (k : Int) < (ps.length : Int) := by omega
      have hk3 : (0 : Int) ≤ (k : Int) := by omega
      have hw1 : IntKind.i64.wrap ((k : Int) + 1 - 1) = (k : Int) := by rw [IntKind.wrap_i64]; omega
      have hw2 : IntKind.i64.wrap (k : Int) = (k : Int) := by rw [IntKind.wrap_i64]; omega
      have hkl : k ≤ 60 := by omega
      go_wp2_with fail
      go_region_held3 (fun w' => w'.cell? ⟨b, off + k * 2, none⟩ = some (.int .i64 x) ∧ w'.cell? ⟨b, off + k * 2 + 1, none⟩ = some (.int .i64 y) ∧ w'.cell? ⟨b, off + (k + 1) * 2, none⟩ = some (.int .i64 u) ∧ w'.cell? ⟨b, off + (k + 1) * 2 + 1, none⟩ = some (.int .i64 v)) ((go_split_ands; (repeat' apply And.intro) <;> (repeat (first | with_reducible assumption | with_reducible refine keepdrew ?_ | with_reducible refine keepalloc ?_ _ | (refine hgrow.cell ?_ hvb)))))
        ((refine step_append_lies _ (by rfl) _ _ _ (by rfl) (w.heap.size + 1) 63 i0 _ 4 32 Tryd.underlying60 hi0 hz0 hz1 hz2 rfl (by omega) _ k (flat ((alongSides ps).take k)) (by rfl) ((hown.alloc _).drew) ⟨wr.heap.size, 0, none⟩ 1 1 [.int .i64 x, .int .i64 y, .int .i64 u, .int .i64 v] (by rfl) (by rfl) (World.news_of_block (cs := #[.int .i64 x, .int .i64 y, .int .i64 u, .int .i64 v]) (t := 63) (fr := (0, 0)) (heap_alloc_new wr _)) (by simp [Value.oneCell']) (by omega) (by unfold maxLen; omega) (by omega) (by simp; omega) (wr.heap.size + 1) (by simp) ?_; intro gg cp v1 hown1 hgrow hat hlt))
      go_wp2_with fail
      go_roundw
      case rel => exact ⟨k + 1, by go_num, by omega, by rw [Hnx.out]; exact hown1, own_below hown (by omega) hb (by omega) hgrow, hgrow.cell (keepdrew (keepalloc kd _)) hvc⟩
      case measure => simp [intOf]; omega
    · obtain hkn : k = (alongSides ps).length := by have := Hal.out; omega
      have hlt' : ¬ ((k : Int) + 1 < (ps.length : Int)) := by omega
      have hown' : wr.ownsRow (w.heap.size + 1) 63 4 u3 (alongSides ps).length (flat (alongSides ps)) := by
        rw [hkn, List.take_of_length_le (Nat.le_refl _)] at hown; exact hown
      obtain ⟨g, cp, rfl, h1, h2', h3, h4⟩ := sides_of hown' (by have := Hal.out; omega)
      have H4 := hid h4
      have Hkn := hid hkn
      clear h4 hown hown' hkn
      go_wp2_with fail
      go_ret
      exact ⟨g, cp, rfl, by omega, h2', h3, H4.out, hb⟩
end Go.Proofs.YtmnnbifekbacnaaDoor
