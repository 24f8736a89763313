/- Shapes that come in: counted, copied, held one against the other. -/
import Derived.Test.YtfmchkagdaaeeaaGreatDoorShapeSp
namespace Go.Proofs.YtfmchkagdaaeeaaGreatDoor
open Go.RowKit
set_option linter.unusedSimpArgs false
set_option linter.unusedVariables false
theorem PtsOwn.of_block {w w' : World} {b : Nat} {ps : List (Int × Int)} (h : PtsOwn w b ps) (hb : w'.heap[b]? = w.heap[b]?) (hs : w.heap.size ≤ w'.heap.size) : PtsOwn w' b ps := by
  obtain ⟨h1, h2, h3⟩ := h
  refine ⟨Nat.lt_of_lt_of_le h1 hs, ?_, ?_⟩
  · intro k hk
    obtain ⟨c0, c1⟩ := h2 k hk
    exact ⟨by rw [World.cell?_of_block (w := w) hb]; exact c0, by rw [World.cell?_of_block (w := w) hb]; exact c1⟩
  · intro j hj
    obtain ⟨c0, c1⟩ := h3 j hj
    exact ⟨by rw [World.cell?_of_block (w := w) hb]; exact c0, by rw [World.frozen?_of_block (w := w) hb]; exact c1⟩
set_option maxHeartbeats 1000000 in
theorem eq_shape (k : Int) (a b : Option Addr) (cap cap' : Nat) (ps : List (Int × Int)) (w : World) (hm : ps.length ≤ 1099511627776) (hc : ps.length ≤ cap) (hc' : ps.length ≤ cap') (h : Pts w a ps) (h' : Pts w b ps) : Calls Tryz.prog 6 #[shv k a ps.length cap, shv k b ps.length cap'] w fun e w' => e = .returned (.bool true) ∧ Below w.heap.size w w' := by
  have Hh := hid h
  have Hh' := hid h'
  clear h h'
  go_enter Tryz.func6, Tryz.ntmps6
  go_wp2_with fail
  refine (eq_points _ _ _ _ ps _ hm hc hc' (Hh.out.below ?_) (Hh'.out.below ?_)).mono ?_
  · (repeat (first | with_reducible exact Below.refl _ _ | with_reducible assumption | (with_reducible refine btrans ?_ (by with_reducible assumption)) | with_reducible refine bdrew ?_ | with_reducible refine balloc ?_ _))
  · (repeat (first | with_reducible exact Below.refl _ _ | with_reducible assumption | (with_reducible refine btrans ?_ (by with_reducible assumption)) | with_reducible refine bdrew ?_ | with_reducible refine balloc ?_ _))
  rintro e w1 ⟨rfl, hb1⟩
  go_wp2_with fail
  go_ret
  exact ⟨rfl, by (repeat (first | with_reducible exact Below.refl _ _ | with_reducible assumption | (with_reducible refine btrans ?_ (by with_reducible assumption)) | with_reducible refine bdrew ?_ | with_reducible refine balloc ?_ _))⟩
end Go.Proofs.YtfmchkagdaaeeaaGreatDoor
