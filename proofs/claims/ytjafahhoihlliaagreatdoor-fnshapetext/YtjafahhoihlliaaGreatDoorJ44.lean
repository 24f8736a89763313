/- Texts of stores, joined: Wn. -/
import Derived.Test.YtjafahhoihlliaaGreatDoorJ41
import Derived.Test.YtjafahhoihlliaaGreatDoorJ42
import Derived.Test.YtjafahhoihlliaaGreatDoorJ32
import Derived.Test.YtjafahhoihlliaaGreatDoorJ43
import Derived.BigQuiet
namespace Go.Proofs.YtjafahhoihlliaaGreatDoor
open Go.RowKit
set_option linter.unusedSimpArgs false
set_option linter.unusedVariables false
theorem Ready.bel {w w' : World} {p : Nat} {a : Option Addr} {len cap : Nat} (h : Ready w p a len cap) (hb : Below w.heap.size w w') : Ready w' p a len cap := (h.belowAll hb).1
theorem grown_bel {w w1 w2 : World} {r : Option Nat} (h : w.grownBy w1 r) (hb : Below w1.heap.size w1 w2) : w.grownBy w2 r := grown_trans h ⟨hb.os, hb.tape, hb.output, hb.size, fun k hk _ => hb.block k hk⟩
theorem ext_size (s : ByteArray) (a b : Nat) (hb : b ≤ s.size) : (s.extract a b).size = b - a := by
  have e : (s.extract a b).size = (s.extract a b).data.toList.length := by rw [Array.length_toList]; rfl
  have e2 : s.data.toList.length = s.size := Array.length_toList
  rw [e, Lib.extract_data, List.length_take, List.length_drop, e2]
  omega
set_option maxRecDepth 100000 in
set_option maxHeartbeats 1000000 in
theorem same_shp (k : Int) (a b : Option Addr) (cap cap' : Nat) (ps : List (Int × Int)) (w : World) (hm : ps.length ≤ 1099511627776) (hc : ps.length ≤ cap) (hc' : ps.length ≤ cap') (h : Pts w a ps) (h' : Pts w b ps) : Calls Tryz.prog 14 #[shv k a ps.length cap, shv k b ps.length cap'] w fun e w' => e = .returned (.bool true) ∧ Below w.heap.size w w' := by
  have HP := hid h
  have HQ := hid h'
  clear h h'
  go_enter Tryz.func14, Tryz.ntmps14
  go_wp2_with fail
  have gA : ((w.alloc (.cells #[.int .i64 k, .slice a ps.length cap] 26)).alloc (.cells #[.int .i64 k, .slice b ps.length cap'] 26)).heap[w.heap.size]? = some (.cells #[.int .i64 k, .slice a ps.length cap] 26 (0, 0)) := old_alloc (new_alloc _ _ _ rfl)
  have gB : ((w.alloc (.cells #[.int .i64 k, .slice a ps.length cap] 26)).alloc (.cells #[.int .i64 k, .slice b ps.length cap'] 26)).heap[w.heap.size + 1]? = some (.cells #[.int .i64 k, .slice b ps.length cap'] 26 (0, 0)) := new_alloc _ _ _ (by simp)
  have hB0 : Below w.heap.size w ((w.alloc (.cells #[.int .i64 k, .slice a ps.length cap] 26)).alloc (.cells #[.int .i64 k, .slice b ps.length cap'] 26)) := balloc (balloc (Below.refl _ _) _) _
  generalize (w.alloc (.cells #[.int .i64 k, .slice a ps.length cap] 26)).alloc (.cells #[.int .i64 k, .slice b ps.length cap'] 26) = W at *
  go_loopw [5] (fun ti wr => ∃ j : Nat, ti = .int .i64 j ∧ j ≤ ps.length ∧ Below W.heap.size W wr) (fun ti _ => ps.length - (intOf ti).toNat)
  case atStart => exact ⟨0, rfl, Nat.zero_le _, Below.refl _ _⟩
  case round =>
    obtain ⟨j, rfl, hj, hb⟩ := hrel
    have hBw := btrans hB0 hb
    obtain ⟨a0, a1, _, _⟩ := cell2g (keepheap hb gA)
    obtain ⟨b0, b1, _, _⟩ := cell2g (keepheap hb gB)
    by_cases hlt : j < ps.length
    · obtain ⟨p, off, rfl, hps, hp⟩ : ∃ p off, a = some ⟨p, off, none⟩ ∧ p < w.heap.size ∧ PtsAt w p off ps := by
        rcases HP.out with h | h
        · rw [h] at hlt; simp at hlt
        · exact h
      obtain ⟨q, off', rfl, hqs, hq⟩ : ∃ p off, b = some ⟨p, off, none⟩ ∧ p < w.heap.size ∧ PtsAt w p off ps := by
        rcases HQ.out with h | h
        · rw [h] at hlt; simp at hlt
        · exact h
      obtain ⟨c0, c1⟩ := hp.below hps hBw j hlt
      obtain ⟨d0, d1⟩ := hq.below hqs hBw j hlt
      generalize (ps.getD j (0, 0)).1 = x at *
      generalize (ps.getD j (0, 0)).2 = y at *
      clear hp hq
      have hk0 : (0 : Int) ≤ (j : Int) := by omega
      have hk1 : (j : Int) < (ps.length : Int) := by omega
      go_wp2_with fail
      go_quiet (fail)
      go_wp2_with fail
      go_roundw
      case rel => exact ⟨j + 1, by go_num, by omega, by (repeat (first | with_reducible exact hb | with_reducible exact Below.refl _ _ | (with_reducible refine btrans ?_ (by with_reducible assumption)) | with_reducible refine bdrew ?_ | exact ⟨hb.os, hb.tape, hb.output, hb.size, hb.block⟩ | with_reducible refine balloc ?_ _))⟩
      case measure => simp [intOf]; omega
    · have hk1 : ¬ (j : Int) < (ps.length : Int) := by omega
      go_wp2_with fail
      go_ret
      exact ⟨rfl, hBw⟩
def Strs (w : World) (q m : Nat) : Prop := ∀ k, k < m → ∃ s : ByteArray, s.size ≤ 10 ∧ w.cell? ⟨q, k, none⟩ = some (.string s)
theorem strs_new (w : World) (l : List ByteArray) (t : TypeId) (hz : ∀ s ∈ l, s.size ≤ 10) : Strs (w.alloc (.cells (l.map Value.string).toArray t)) w.heap.size l.length := by
  intro k hk
  refine ⟨l[k], hz _ (List.getElem_mem hk), ?_⟩
  have h := heap_alloc_new w (.cells (l.map Value.string).toArray t)
  rw [cell_of_row _ w.heap.size k _ t (0, 0) h]
  simp [hk]
set_option maxHeartbeats 400000 in
theorem pick_s (w : World) (p : Nat) (a : Option Addr) (len cap : Nat) (q m : Nat) (h0 : 0 < m) (h1 : m ≤ 1000) (hq : q ≠ p) (hi : Strs w q m) (h : Ready w p a len cap) : Calls Tryz.prog 69 #[.pointer (some ⟨p, 0, none⟩), .slice (some ⟨q, 0, none⟩) m m] w fun e w' => ∃ s : ByteArray, e = .returned (.string s) ∧ s.size ≤ 10 ∧ Ready w' p a len cap ∧ w.grownBy w' (some p) := by
  go_enter Tryz.func69, Tryz.ntmps69
  go_wp2_with fail
  refine (below_r _ p a len cap (m : Int) (by omega) (by omega) h).mono ?_
  rintro e w1 ⟨x, rfl, x0, x1, hr, hg⟩
  obtain ⟨k, rfl⟩ := Int.eq_ofNat_of_zero_le x0
  obtain ⟨z, hz, hc⟩ := hi k (by omega)
  have hc1 := hg.cell hc (fun e => by simp at e; exact hq e)
  clear hc hi h
  go_wp2_with fail
  go_ret
  exact ⟨z, rfl, hz, hr, hg⟩
set_option maxRecDepth 100000 in
set_option maxHeartbeats 4000000 in
theorem spoil_r (w : World) (p : Nat) (a : Option Addr) (len cap : Nat) (s : ByteArray) (hs : s.size ≤ 100000) (h : Ready w p a len cap) : Calls Tryz.prog 42 #[.pointer (some ⟨p, 0, none⟩), .string s] w fun e w' => ∃ t : ByteArray, e = .returned (.string t) ∧ t.size ≤ s.size + 10 ∧ Ready w' p a len cap ∧ w.grownBy w' (some p) := by
  have hs' : (s.size : Int) ≤ 100000 := by omega
  have PK := hid (fun (W : World) (q : Nat) (hr : Ready W p a len cap) (hi : Strs W q 5) (hq : q ≠ p) => pick_s W p a len cap q 5 (by omega) (by omega) hq hi hr)
  go_enter Tryz.func42, Tryz.ntmps42
  go_wp2_with fail
  refine (below_r _ p a len cap ((s.size : Int) + 1) (by omega) (by omega) h).mono ?_
  rintro e w1 ⟨x, rfl, x0, x1, hr1, hg1⟩
  obtain ⟨i, rfl⟩ := Int.eq_ofNat_of_zero_le x0
  have hi : i ≤ s.size := by omega
  have ci : (i : Int) ≤ (s.size : Int) := by omega
  clear x0 x1 h
  go_wp2_with fail
  refine (below_r _ p a len cap 6 (by omega) (by omega) hr1).mono ?_
  rintro e w2 ⟨y, rfl, y0, y1, hr2, hg2⟩
  replace hg2 := grown_trans hg1 hg2
  clear hg1 hr1
  by_cases hy0 : y = 0
  · subst hy0
    go_wp2_with fail
    go_ret
    exact ⟨_, rfl, by rw [ext_size s 0 i hi]; omega, hr2, hg2⟩
  by_cases hy1 : y = 1
  · subst hy1
    have hci0 : (0 : Int) ≤ (i : Int) := by omega
    have hcat1 : ∀ u : ByteArray, u.size ≤ 10 → ¬ 9223372036854775807 < (s.extract 0 i).size + u.size := fun u hu => by rw [ext_size s 0 i hi]; omega
    have hcat2 : ∀ u : ByteArray, u.size ≤ 10 → ¬ 9223372036854775807 < (s.extract 0 i).size + u.size + (s.extract i s.size).size := fun u hu => by rw [ext_size s 0 i hi, ext_size s i s.size (Nat.le_refl _)]; omega
    have hex1 := ext_size s 0 i hi
    have hex2 := ext_size s i s.size (Nat.le_refl _)
    go_upto_region 6 with fail
    refine wp_region_held_drew (S := (fun _ => True)) (by kernel_rfl) ?_ (fun hHeld => ?_)
    · trivial
    replace hr2 : Ready w2.drew p a len cap := hr2.bel (bdrew (Below.refl _ _))
    replace hg2 := grown_bel hg2 (bdrew (Below.refl w2.heap.size w2))
    generalize w2.drew = V0 at *
    refine wpAnyH_take (i := 0) (v := ?_) rfl (by kernel_rfl) (by kernel_rfl) (by kernel_rfl) (fun _ _ _ h => h) (Or.inl ⟨by rfl, ?_⟩) hHeld ?_
    rotate_left
    · intro w hSw; (try dsimp only at hSw); go_simp; try (with_reducible rfl)
    try simp only [sq]
    refine wpAnyH_take (i := 1) (v := ?_) rfl (by kernel_rfl) (by kernel_rfl) (by kernel_rfl) (fun _ _ _ h => h) (Or.inl ⟨by rfl, ?_⟩) hHeld ?_
    rotate_left
    · intro w hSw; (try dsimp only at hSw); go_simp; try (with_reducible rfl)
    try simp only [sq]
    refine wpAnyH_take (i := 2) (v := ?_) rfl (by kernel_rfl) (by kernel_rfl) (by kernel_rfl) (fun _ _ _ h => h) (Or.inl ⟨by rfl, ?_⟩) hHeld ?_
    rotate_left
    · intro w hSw; (try dsimp only at hSw); go_simp; try (with_reducible rfl)
    try simp only [sq]
    refine wpAnyH_take (i := 3) (v := ?_) rfl (by kernel_rfl) (by kernel_rfl) (by kernel_rfl) (fun _ _ _ h => h) (Or.inl ⟨by rfl, ?_⟩) hHeld ?_
    rotate_left
    · intro w hSw; (try dsimp only at hSw); go_simp; try (with_reducible rfl)
    try simp only [sq]
    refine wpAnyH_take (i := 7) (v := ?_) rfl (by kernel_rfl) (by kernel_rfl) (by kernel_rfl) (fun _ _ _ h => h) (Or.inl ⟨by rfl, ?_⟩) hHeld ?_
    rotate_left
    · intro w hSw; (try dsimp only at hSw); go_simp; try (with_reducible rfl)
    try simp only [sq]
    refine wpAnyH_take (i := 8) (v := ?_) rfl (by kernel_rfl) (by kernel_rfl) (by kernel_rfl) (fun _ _ _ h => h) (Or.inl ⟨by rfl, ?_⟩) hHeld ?_
    rotate_left
    · intro w hSw; (try dsimp only at hSw); go_simp; try (with_reducible rfl)
    try simp only [sq]
    refine wpAnyH_take (i := 9) (v := ?_) rfl (by kernel_rfl) (by kernel_rfl) (by kernel_rfl) (fun _ _ _ h => h) (Or.inl ⟨by rfl, ?_⟩) hHeld ?_
    rotate_left
    · intro w hSw; (try dsimp only at hSw); go_simp; try (with_reducible rfl)
    try simp only [sq]
    refine wpAnyH_ready (rs := [4]) (by kernel_rfl) (by simp) ?_
    refine (AllReadyH.cons rfl (fun K hK => ?_) AllReadyH.nil)
    try simp only [sq]
    go_simp
    refine hK.out _ _ trivial (fun hHeld => ?_)
    clear hK K
    try simp only [sq]
    have hrZ := hr2.alloc (.cells #[.string ⟨#[32]⟩, .string ⟨#[48]⟩, .string ⟨#[45]⟩, .string ⟨#[120]⟩, .string ⟨#[128]⟩] 9)
    have hsZ : Strs (V0.alloc (.cells #[.string ⟨#[32]⟩, .string ⟨#[48]⟩, .string ⟨#[45]⟩, .string ⟨#[120]⟩, .string ⟨#[128]⟩] 9)) V0.heap.size 5 := strs_new V0 [⟨#[32]⟩, ⟨#[48]⟩, ⟨#[45]⟩, ⟨#[120]⟩, ⟨#[128]⟩] 9 (by decide)
    have hqZ : V0.heap.size ≠ p := by have := hr2.lt; omega
    have hgZ := grown_trans hg2 (grown_alloc V0 (.cells #[.string ⟨#[32]⟩, .string ⟨#[48]⟩, .string ⟨#[45]⟩, .string ⟨#[120]⟩, .string ⟨#[128]⟩] 9) (some p))
    refine wpAnyH_ready (rs := [5]) (by kernel_rfl) (by simp) ?_
    refine (AllReadyH.cons rfl (fun K hK => ?_) AllReadyH.nil)
    try simp only [sq]
    go_simp
    go_at_call 69
    refine (PK.out _ _ hrZ hsZ hqZ).mono ?_
    rintro e y ⟨u, rfl, hu, hry, hgy⟩
    have hc1 : ¬ 9223372036854775807 < i + u.size := by omega
    have hc2 : ¬ 9223372036854775807 < i + u.size + (s.size - i) := by omega
    go_wp2_with fail
    refine hK.out _ _ trivial (fun hHeld => ?_)
    clear hK K
    try simp only [sq]
    refine wpAnyH_take (i := 6) (v := ?_) rfl (by kernel_rfl) (by kernel_rfl) (by kernel_rfl) (fun _ _ _ h => h) (Or.inl ⟨by rfl, ?_⟩) hHeld ?_
    rotate_left
    · intro w hSw; (try dsimp only at hSw); go_simp; try (with_reducible rfl)
    try simp only [sq]
    refine wpAnyH_take (i := 10) (v := ?_) rfl (by kernel_rfl) (by kernel_rfl) (by kernel_rfl) (fun _ _ _ h => h) (Or.inl ⟨by rfl, ?_⟩) hHeld ?_
    rotate_left
    · intro w hSw; (try dsimp only at hSw); go_simp; try (with_reducible rfl)
    try simp only [sq]
    refine wpAnyH_take (i := 11) (v := ?_) rfl (by kernel_rfl) (by kernel_rfl) (by kernel_rfl) (fun _ _ _ h => h) (Or.inl ⟨by rfl, ?_⟩) hHeld ?_
    rotate_left
    · intro w hSw; (try dsimp only at hSw); go_simp; try (with_reducible rfl)
    try simp only [sq]
    refine wpAnyH_done (by kernel_rfl) ?_ _
    go_wp2_with fail
    go_ret
    exact ⟨_, rfl, by rw [ByteArray.size_append, ByteArray.size_append, ext_size s 0 i (by omega), ext_size s i s.size (Nat.le_refl _)]; omega, hry, grown_trans hgZ hgy⟩
  · have hy2 : ((y : Int) == 0) = false := by rw [beq_eq_false_iff_ne]; exact hy0
    have hy3 : ((y : Int) == 1) = false := by rw [beq_eq_false_iff_ne]; exact hy1
    go_wp2_with fail
    go_ret
    exact ⟨_, rfl, by omega, hr2, hg2⟩
theorem txv_few (k : Int) (ps : List (Int × Int)) : (txv k ps).size ≤ 3000 := by
  unfold txv
  split
  · rename_i hs
    obtain ⟨m, rfl, hm, hl, ha⟩ := kind_nat hs
    have := stx_size (k := (m : Int).toNat) (fun i hi => in_at ha i hi) ps.length (Nat.le_refl _)
    omega
  · decide
set_option maxRecDepth 100000 in
set_option maxHeartbeats 4000000 in
theorem draw_stext (w : World) (a : Option Addr) (len cap : Nat) (hc : CodeAt w a len w.heap.size) : Calls Tryz.prog 5 #[.slice a len cap] w fun e w' => ∃ (kd : Int) (ps : List (Int × Int)) (ao : Option Addr) (cp : Nat), e = .returned (.agg #[.int .i64 kd, .slice ao ps.length cp]) ∧ ps.length ≤ 61 ∧ ps.length ≤ cp ∧ Pts w' ao ps ∧ Below w.heap.size w w' := by
  go_enter Tryz.func5, Tryz.ntmps5
  go_wp2_with fail
  have g0 := new_alloc w w.heap.size (.cells #[.int .i64 0, .slice none 0 0] 26) rfl
  have hb00 := balloc (Below.refl w.heap.size w) (.cells #[.int .i64 0, .slice none 0 0] 26)
  have hz0 : (w.alloc (.cells #[.int .i64 0, .slice none 0 0] 26)).heap.size = w.heap.size + 1 := by simp
  have hc0 := (hc.below hb00).mono (B' := (w.alloc (.cells #[.int .i64 0, .slice none 0 0] 26)).heap.size) (by omega)
  generalize w.alloc (.cells #[.int .i64 0, .slice none 0 0] 26) = w0 at *
  refine (new_q _ a len cap hc0).mono ?_
  rintro e v1 ⟨p, rfl, hp0, hr, hold, hb0⟩
  replace g0 := hold _ _ g0
  replace hb00 := btrans hb00 hb0
  have hlt1 := hr.lt
  clear hold hc hc0 hb0
  go_wp2_with fail
  refine (any_r _ p a len cap hr).mono ?_
  rintro e v2 ⟨kd, ps, v, rfl, hl, hrow, hr2, hg2⟩
  obtain ⟨ao, cp, rfl, hcp, hpt⟩ := hrow.pts
  have hb2 := bgrown hb00 hg2 (by omega)
  replace g0 := grown_blk hg2 g0 (by omega)
  obtain ⟨e0, e1, ef0, ef1⟩ := cell2g g0
  have hset := set2 g0 (.int .i64 kd) (.slice ao ps.length cp)
  obtain ⟨f0, f1, _, _⟩ := cell2g hset.1
  have hR1 := World.ownsRow.kept (World.ownsRow.kept hrow (grown_set v2 w.heap.size 0 (.int .i64 kd)) (Or.inr (fun e => by have := (World.ownsRow.lt hrow _ e).1; omega))) (grown_set _ w.heap.size 1 (.slice ao ps.length cp)) (Or.inr (fun e => by have := (World.ownsRow.lt hrow _ e).1; omega))
  have hbF := bset (bset hb2 (q := w.heap.size) (k := 0) (Nat.le_refl _) (.int .i64 kd)) (q := w.heap.size) (k := 1) (Nat.le_refl _) (.slice ao ps.length cp)
  have hptF : Pts ((v2.setCell ⟨w.heap.size, 0, none⟩ (.int .i64 kd)).setCell ⟨w.heap.size, 1, none⟩ (.slice ao ps.length cp)) ao ps := by
    obtain ⟨_, _, e', _, hq⟩ := PtRow.pts hR1
    cases e'
    exact hq
  have HPT := hid hptF
  clear hg2 hb00 hr hrow hpt hR1 hptF hset
  go_wp2_with fail
  exact bodyPost_ret (v := .agg #[.int .i64 kd, .slice ao ps.length cp]) (by simp [results, Tryz.results5, go_sem, f0, f1]) rfl ⟨kd, ps, ao, cp, rfl, hl, hcp, HPT.out, hbF⟩
set_option maxRecDepth 100000 in
set_option maxHeartbeats 4000000 in
theorem draw_rtext (w : World) (a : Option Addr) (len cap : Nat) (hc : CodeAt w a len w.heap.size) : Calls Tryz.prog 15 #[.slice a len cap] w fun e w' => ∃ t : ByteArray, e = .returned (.string t) ∧ t.size ≤ 3010 ∧ Below w.heap.size w w' := by
  go_enter Tryz.func15, Tryz.ntmps15
  go_wp2_with fail
  refine (new_q _ a len cap hc).mono ?_
  rintro e v1 ⟨p, rfl, hp0, hr, hold, hb0⟩
  clear hold hc
  go_wp2_with fail
  refine (mostly_r _ p a len cap hr).mono ?_
  rintro e v2 ⟨kd, ps, ao, cp, rfl, hl, hcp, hrow, hr2, hg2⟩
  have hb2 := bgrown hb0 hg2 (by omega)
  obtain ⟨ao', cp', e', hcp', hpt⟩ := hrow.pts
  cases e'
  have ST := hid (spec_ShapeText kd ao cp ps v2 (by omega) hcp hpt)
  have hsm := txv_few kd ps
  clear hg2 hb0 hr hrow hpt
  generalize txv kd ps = tt at *
  go_wp2_with fail
  refine ST.out.mono ?_
  rintro e v5 ⟨rfl, hb5⟩
  have hr5 := hr2.bel hb5
  have hb6 := btrans hb2 hb5
  clear hb5 hb2 hr2 ST
  go_wp2_with fail
  refine (spoil_r _ p a len cap tt (by omega) hr5).mono ?_
  rintro e v6 ⟨t, rfl, ht, hr6, hg6⟩
  have hb7 := bgrown hb6 hg6 (by omega)
  clear hg6 hb6
  go_wp2_with fail
  go_ret
  exact ⟨t, rfl, by omega, hb7⟩
theorem psT_few {k : Int} {ps : List (Int × Int)} : (psT k ps).size ≤ 606 := by
  unfold psT
  split
  · rename_i h
    have hk : ps.length ≤ 60 := by rcases shok_kind h with h | h | h | h <;> omega
    have h1 := shl_len k ps ps.length
    have e : (⟨(shl k ps ps.length).toArray⟩ : ByteArray).size = (shl k ps ps.length).length := List.size_toArray
    rw [e]
    omega
  · decide
theorem psT_pos {k : Int} {ps : List (Int × Int)} (h : shok k ps = true) : 0 < (psT k ps).size := by
  unfold psT
  rw [if_pos h]
  have e : (⟨(shl k ps ps.length).toArray⟩ : ByteArray).size = (shl k ps ps.length).length := List.size_toArray
  rw [e]
  simp [shl]
set_option maxRecDepth 100000 in
set_option maxHeartbeats 4000000 in
theorem draw_gshape (w : World) (a : Option Addr) (len cap : Nat) (hc : CodeAt w a len w.heap.size) : Calls Tryz.prog 17 #[.slice a len cap] w fun e w' => ∃ (t : ByteArray) (i : Int), e = .returned (.tuple #[.string t, .int .i64 i]) ∧ t.size ≤ 700 ∧ (-1 ≤ i ∧ i ≤ 99) ∧ Below w.heap.size w w' := by
  go_enter Tryz.func17, Tryz.ntmps17
  go_wp2_with fail
  refine (new_q _ a len cap hc).mono ?_
  rintro e v1 ⟨p, rfl, hp0, hr, hold, hb0⟩
  clear hold hc
  go_wp2_with fail
  refine (mostly_r _ p a len cap hr).mono ?_
  rintro e v2 ⟨kd, ps, ao, cp, rfl, hl, hcp, hrow, hr2, hg2⟩
  have hb2 := bgrown hb0 hg2 (by omega)
  obtain ⟨ao', cp', e', hcp', hpt⟩ := hrow.pts
  cases e'
  have ST := hid (spec_PutShape kd ao cp ps v2 (by omega) hcp hpt)
  have hsm := @psT_few kd ps
  clear hg2 hb0 hr hrow hpt
  generalize psT kd ps = tt at *
  have hq1 : ¬ 9223372036854775807 < 1 + tt.size := by omega
  have hq2 : ¬ 9223372036854775807 < 1 + tt.size + 2 := by omega
  have hq3 : ¬ 9223372036854775807 < (⟨#[120]⟩ : ByteArray).size + tt.size := by have : (⟨#[120]⟩ : ByteArray).size = 1 := rfl; omega
  have hsz : ((⟨#[120]⟩ : ByteArray) ++ tt ++ ⟨#[121, 122]⟩).size ≤ 609 := by
    rw [ByteArray.size_append, ByteArray.size_append]
    have h1 : (⟨#[120]⟩ : ByteArray).size = 1 := rfl
    have h2 : (⟨#[121, 122]⟩ : ByteArray).size = 2 := rfl
    omega
  go_wp2_with fail
  refine ST.out.mono ?_
  rintro e v5 ⟨rfl, hb5⟩
  have hr5 := hr2.bel hb5
  have hb6 := btrans hb2 hb5
  clear hb5 hb2 hr2 ST
  go_wp2_with fail
  generalize (⟨#[120]⟩ : ByteArray) ++ tt ++ ⟨#[121, 122]⟩ = ss at *
  clear hq1 hq2 hq3
  refine (once_r _ p a len cap 10 (by omega) (by omega) hr5).mono ?_
  rintro e v6 ⟨b, rfl, hr6, hg6⟩
  have hb7 := bgrown hb6 hg6 (by omega)
  clear hg6 hb6 hr5
  cases b
  · go_wp2_with fail
    refine (spoil_r _ p a len cap ss (by omega) hr6).mono ?_
    rintro e v7 ⟨t, rfl, ht, hr7, hg7⟩
    have hb8 := bgrown hb7 hg7 (by omega)
    clear hg7 hb7
    go_wp2_with fail
    exact bodyPost_ret (v := .tuple #[.string t, .int .i64 1]) (by simp [results, Tryz.results17, go_sem]) rfl ⟨t, 1, rfl, by omega, by omega, hb8⟩
  · have hlt5 := hr6.lt
    go_wp2_with fail
    refine (pick_p (fun z => -1 ≤ z ∧ z ≤ 99) _ p a len cap _ 3 (by omega) (by omega) (by omega) (intsP_new (fun z => -1 ≤ z ∧ z ≤ 99) v6 [-1, 0, 99] 3 (by decide)) (hr6.alloc _)).mono ?_
    rintro e v7 ⟨z, rfl, hz, hr7, hg7⟩
    have hb8 := bgrown (balloc hb7 _) hg7 (by omega)
    clear hg7 hb7
    go_wp2_with fail
    exact bodyPost_ret (v := .tuple #[.string ss, .int .i64 z]) (by simp [results, Tryz.results17, go_sem]) rfl ⟨ss, z, rfl, by omega, hz, hb8⟩
end Go.Proofs.YtjafahhoihlliaaGreatDoor
