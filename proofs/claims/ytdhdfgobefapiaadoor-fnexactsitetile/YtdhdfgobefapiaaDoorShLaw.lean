/- Shapes that come in: counted, copied, held one against the other. -/
import Derived.Test.YtdhdfgobefapiaaDoorSide
namespace Go.Proofs.YtdhdfgobefapiaaDoor
open Go.RowKit
set_option linter.unusedSimpArgs false
set_option linter.unusedVariables false
theorem PtsOwn.of_block {w w' : World} {b : Nat} {ps : List (Int × Int)} (h : PtsOwn w b ps) (hb : w'.heap[b]? = w.heap[b]?) (hs : w.heap.size ≤ w'.heap.size) : PtsOwn w' b ps := by
  obtain ⟨h1, h2, h3⟩ := h
  refine ⟨Nat.lt_of_lt_of_le h1 hs, ?_, ?_⟩
  · intro k hk
    obtain ⟨c0, c1⟩ := h2 k hk
    exact ⟨by rw [World.cell?_of_block (w := w) hb]; exact c0, by rw [World.cell?_of_block (w := w) hb]; exact c1⟩
  · intro j hj
    obtain ⟨c0, c1⟩ := h3 j hj
    exact ⟨by rw [World.cell?_of_block (w := w) hb]; exact c0, by rw [World.frozen?_of_block (w := w) hb]; exact c1⟩
theorem szs_big (k : Int) (a : Option Addr) (n cap : Nat) (left : Int) (w : World) (hn : n ≤ 9223372036854775807) (h0 : 0 ≤ left) (h1 : left ≤ 1048576) (h : left < n) : Calls Tryd.prog 57 #[shv k a n cap, .int .i64 left] w fun e w' => e = .returned (.int .i64 (-1)) ∧ Below w.heap.size w w' := by
  go_enter Tryd.func57, Tryd.ntmps57
  go_wp2_with fail
  refine (sz_big _ _ _ _ _ hn h0 h1 h).mono ?_
  rintro e w1 ⟨rfl, hw⟩
  replace hw := hw.symm
  subst hw
  go_wp2_with fail
  go_ret
  exact ⟨rfl, by (repeat (first | with_reducible exact Below.refl _ _ | with_reducible assumption | (with_reducible refine btrans ?_ (by with_reducible assumption)) | with_reducible refine bdrew ?_ | with_reducible refine balloc ?_ _))⟩
theorem szs_ok (k : Int) (a : Option Addr) (n cap : Nat) (left : Int) (w : World) (h0 : 0 ≤ left) (h1 : left ≤ 1048576) (h : ¬ left < n) : Calls Tryd.prog 57 #[shv k a n cap, .int .i64 left] w fun e w' => e = .returned (.int .i64 (left - n)) ∧ Below w.heap.size w w' := by
  go_enter Tryd.func57, Tryd.ntmps57
  go_wp2_with fail
  refine (sz_ok _ _ _ _ _ h0 h1 (by omega)).mono ?_
  rintro e w1 ⟨rfl, hw⟩
  replace hw := hw.symm
  subst hw
  have h2 : ¬ (left - (n : Int) < 0) := by omega
  go_wp2_with fail
  go_ret
  exact ⟨rfl, by (repeat (first | with_reducible exact Below.refl _ _ | with_reducible assumption | (with_reducible refine btrans ?_ (by with_reducible assumption)) | with_reducible refine bdrew ?_ | with_reducible refine balloc ?_ _))⟩
set_option maxHeartbeats 1000000 in
theorem to_shape (k : Int) (a : Option Addr) (cap : Nat) (ps : List (Int × Int)) (w : World) (hm : ps.length ≤ 1099511627776) (hc : ps.length ≤ cap) (h : Pts w a ps) : Calls Tryd.prog 59 #[shv k a ps.length cap] w fun e w' => ∃ b, e = .returned (shv k (some ⟨b, 0, none⟩) ps.length ps.length) ∧ w.heap.size ≤ b ∧ PtsOwn w' b ps ∧ Below w.heap.size w w' := by
  have Hh := hid h
  clear h
  go_enter Tryd.func59, Tryd.ntmps59
  go_wp2_with fail
  refine (to_points a cap ps _ hm hc (Hh.out.below ?_)).mono ?_
  · (repeat (first | with_reducible exact Below.refl _ _ | with_reducible assumption | (with_reducible refine btrans ?_ (by with_reducible assumption)) | with_reducible refine bdrew ?_ | with_reducible refine balloc ?_ _))
  rintro e w1 ⟨b1, rfl, hg1, ho1, hb1⟩
  have gA : w1.heap[w.heap.size + 1]? = some (.cells #[.int .i64 0, .slice none 0 0] 115 (0, 0)) := keepheap2 hb1 (by (repeat (first | (with_reducible refine new_alloc _ _ _ ?_; simp; done) | with_reducible refine old_alloc ?_)))
  have gB : w1.heap[w.heap.size + 1 + 1]? = some (.cells #[.int .i64 k, .slice none 0 0] 115 (0, 0)) := keepheap2 hb1 (by (repeat (first | (with_reducible refine new_alloc _ _ _ ?_; simp; done) | with_reducible refine old_alloc ?_)))
  have hB1 : Below w.heap.size w w1 := by (repeat (first | with_reducible exact Below.refl _ _ | with_reducible assumption | (with_reducible refine btrans ?_ (by with_reducible assumption)) | with_reducible refine bdrew ?_ | with_reducible refine balloc ?_ _))
  simp at hg1
  obtain ⟨a0, a1, f0, f1⟩ := cell2f gA
  obtain ⟨b0, bb1, f2, f3⟩ := cell2f gB
  have GA := hid gA
  have GB := hid gB
  have Ho := hid ho1
  clear gA gB ho1
  go_wp2_with fail
  have gF : ((w1.setCell ⟨w.heap.size + 1 + 1, 1, none⟩ (.slice (some ⟨b1, 0, none⟩) ps.length ps.length)).setCell ⟨w.heap.size + 1, 0, none⟩ (.int .i64 k)).setCell ⟨w.heap.size + 1, 1, none⟩ (.slice (some ⟨b1, 0, none⟩) ps.length ps.length) |>.heap[w.heap.size + 1]? = some (.cells #[.int .i64 k, (.slice (some ⟨b1, 0, none⟩) ps.length ps.length)] 115 (0, 0)) := set_at (set_at (set_far GA.out (by omega)))
  have hbF : Below w.heap.size w (((w1.setCell ⟨w.heap.size + 1 + 1, 1, none⟩ (.slice (some ⟨b1, 0, none⟩) ps.length ps.length)).setCell ⟨w.heap.size + 1, 0, none⟩ (.int .i64 k)).setCell ⟨w.heap.size + 1, 1, none⟩ (.slice (some ⟨b1, 0, none⟩) ps.length ps.length)) := bset (bset (bset hB1 (by omega) _) (by omega) _) (by omega) _
  have hoF : PtsOwn (((w1.setCell ⟨w.heap.size + 1 + 1, 1, none⟩ (.slice (some ⟨b1, 0, none⟩) ps.length ps.length)).setCell ⟨w.heap.size + 1, 0, none⟩ (.int .i64 k)).setCell ⟨w.heap.size + 1, 1, none⟩ (.slice (some ⟨b1, 0, none⟩) ps.length ps.length)) b1 ps := by
    refine Ho.out.of_block ?_ (by simp)
    rw [Below.heap_setCell _ _ _ _ (by dsimp only; omega), Below.heap_setCell _ _ _ _ (by dsimp only; omega), Below.heap_setCell _ _ _ _ (by dsimp only; omega)]
  generalize ((w1.setCell ⟨w.heap.size + 1 + 1, 1, none⟩ (.slice (some ⟨b1, 0, none⟩) ps.length ps.length)).setCell ⟨w.heap.size + 1, 0, none⟩ (.int .i64 k)).setCell ⟨w.heap.size + 1, 1, none⟩ (.slice (some ⟨b1, 0, none⟩) ps.length ps.length) = wf at gF hbF hoF ⊢
  obtain ⟨z0, z1, _, _⟩ := cell2f gF
  exact bodyPost_ret (v := .agg #[.int .i64 k, (.slice (some ⟨b1, 0, none⟩) ps.length ps.length)]) (by simp [results, Tryd.results59, go_sem, z0, z1]) rfl ⟨b1, rfl, by omega, hoF, hbF⟩
set_option maxHeartbeats 1000000 in
theorem eq_shape (k : Int) (a b : Option Addr) (cap cap' : Nat) (ps : List (Int × Int)) (w : World) (hm : ps.length ≤ 1099511627776) (hc : ps.length ≤ cap) (hc' : ps.length ≤ cap') (h : Pts w a ps) (h' : Pts w b ps) : Calls Tryd.prog 61 #[shv k a ps.length cap, shv k b ps.length cap'] w fun e w' => e = .returned (.bool true) ∧ Below w.heap.size w w' := by
  have Hh := hid h
  have Hh' := hid h'
  clear h h'
  go_enter Tryd.func61, Tryd.ntmps61
  go_wp2_with fail
  refine (eq_points _ _ _ _ ps _ hm hc hc' (Hh.out.below ?_) (Hh'.out.below ?_)).mono ?_
  · (repeat (first | with_reducible exact Below.refl _ _ | with_reducible assumption | (with_reducible refine btrans ?_ (by with_reducible assumption)) | with_reducible refine bdrew ?_ | with_reducible refine balloc ?_ _))
  · (repeat (first | with_reducible exact Below.refl _ _ | with_reducible assumption | (with_reducible refine btrans ?_ (by with_reducible assumption)) | with_reducible refine bdrew ?_ | with_reducible refine balloc ?_ _))
  rintro e w1 ⟨rfl, hb1⟩
  go_wp2_with fail
  go_ret
  exact ⟨rfl, by (repeat (first | with_reducible exact Below.refl _ _ | with_reducible assumption | (with_reducible refine btrans ?_ (by with_reducible assumption)) | with_reducible refine bdrew ?_ | with_reducible refine balloc ?_ _))⟩
end Go.Proofs.YtdhdfgobefapiaaDoor
