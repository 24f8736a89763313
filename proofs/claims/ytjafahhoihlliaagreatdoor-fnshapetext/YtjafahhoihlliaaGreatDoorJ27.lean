/- Texts of stores, joined: ShLaw, Mark. -/
import Derived.Test.YtjafahhoihlliaaGreatDoorJ24
import Derived.Test.YtjafahhoihlliaaGreatDoorJ26
import Derived.Test.YtjafahhoihlliaaGreatDoorJ11
namespace Go.Proofs.YtjafahhoihlliaaGreatDoor
open Go.RowKit
set_option linter.unusedSimpArgs false
set_option linter.unusedVariables false
theorem PtsOwn.of_block {w w' : World} {b : Nat} {ps : List (Int × Int)} (h : PtsOwn w b ps) (hb : w'.heap[b]? = w.heap[b]?) (hs : w.heap.size ≤ w'.heap.size) : PtsOwn w' b ps := by
  obtain ⟨h1, h2, h3⟩ := h
  refine ⟨Nat.lt_of_lt_of_le h1 hs, ?_, ?_⟩
  · intro k hk
    obtain ⟨c0, c1⟩ := h2 k hk
    exact ⟨by rw [World.cell?_of_block (w := w) hb]; exact c0, by rw [World.cell?_of_block (w := w) hb]; exact c1⟩
  · intro j hj
    obtain ⟨c0, c1⟩ := h3 j hj
    exact ⟨by rw [World.cell?_of_block (w := w) hb]; exact c0, by rw [World.frozen?_of_block (w := w) hb]; exact c1⟩
end Go.Proofs.YtjafahhoihlliaaGreatDoor
namespace Go.Proofs.YtjafahhoihlliaaGreatDoor
open Go.RowKit
set_option linter.unusedVariables false
set_option linter.unusedSimpArgs false
/-- A list of points that may be written into: nil, or a block of its own. -/
def OwnP (w : World) (a : Option Addr) (ps : List (Int × Int)) : Prop := (a = none ∧ ps = []) ∨ ∃ b, a = some ⟨b, 0, none⟩ ∧ PtsOwn w b ps
theorem OwnP.pts {w : World} {a : Option Addr} {ps : List (Int × Int)} (h : OwnP w a ps) : Pts w a ps := by
  rcases h with ⟨rfl, rfl⟩ | ⟨b, rfl, h⟩
  · exact .inl rfl
  · exact h.pts
theorem OwnP.below {w w' : World} {a : Option Addr} {ps : List (Int × Int)} (h : OwnP w a ps) (H : Below w.heap.size w w') : OwnP w' a ps := by
  rcases h with ⟨rfl, rfl⟩ | ⟨b, rfl, h⟩
  · exact .inl ⟨rfl, rfl⟩
  · exact .inr ⟨b, rfl, h.below H⟩
def mk (j : Nat) : Int × Int := ((1 : Int) + 2 * j, (2 : Int) + 2 * j)
/-- What is marked is another list in the same block; nothing else is turned. -/
def Marked (w w' : World) (a : Option Addr) (n : Nat) : Prop := OwnP w' a (tk mk n) ∧ w.grownBy w' (a.map (·.block))
theorem take_of (f : Nat → Int × Int) (n k : Nat) (h : k ≤ n) : (tk f n).take k = tk f k := by
  unfold tk
  rw [← List.map_take, List.take_range, Nat.min_eq_left h]
theorem put_mark {w : World} {b k n : Nat} (hb : b < w.heap.size) (hk : k < n) (h : PtsAt w b 0 (tk mk k)) (ht : w.there b 0 (n * 2)) :
    PtsAt ((w.setCell ⟨b, k * 2, none⟩ (.int .i64 (1 + 2 * k))).setCell ⟨b, k * 2 + 1, none⟩ (.int .i64 (2 + 2 * k))) b 0 (tk mk (k + 1)) ∧ ((w.setCell ⟨b, k * 2, none⟩ (.int .i64 (1 + 2 * k))).setCell ⟨b, k * 2 + 1, none⟩ (.int .i64 (2 + 2 * k))).there b 0 (n * 2) := by
  have h1 := put_point (ps := tk mk n) (n := n * 2) hb (by rw [tk_len]; exact hk) (by rw [tk_len]) (by rw [take_of _ _ _ (by omega)]; exact h) ht (1 + 2 * k) (2 + 2 * k) (by rw [tk_getD _ _ _ hk]; rfl) (by rw [tk_getD _ _ _ hk]; rfl)
  rw [take_of _ _ _ (by omega)] at h1
  exact h1
theorem grown_setb {w w1 : World} {b k : Nat} (h : w.grownBy w1 (some b)) (u : Value) : w.grownBy (w1.setCell ⟨b, k, none⟩ u) (some b) := grown_trans h (grown_set _ _ _ _)
end Go.Proofs.YtjafahhoihlliaaGreatDoor
