/- A box around points, and what it has. -/
import Derived.Test.YtdhdfgobefapiaaDoorGeo3
import Derived.Deep.CutRange
namespace Go.Proofs.YtdhdfgobefapiaaDoor
open Go.RowKit
set_option linter.unusedSimpArgs false
set_option linter.unusedVariables false
theorem cell2 {w : World} {p : Nat} {a b : Value} {t : TypeId} (h : w.heap[p]? = some (.cells #[a, b] t (0, 0))) : w.cell? ⟨p, 0, none⟩ = some a ∧ w.cell? ⟨p, 1, none⟩ = some b := by
  simp [World.cell?, h]
def upto (f : Int → Int × Int → Int) (x : Int) (ps : List (Int × Int)) (k : Nat) : Int := (ps.take k).foldl f x
theorem set_at {w : World} {p k : Nat} {cs : Array Value} {t : TypeId} {fr : Nat × Nat} {u : Value} (h : w.heap[p]? = some (.cells cs t fr)) : (w.setCell ⟨p, k, none⟩ u).heap[p]? = some (.cells (cs.setIfInBounds k u) t fr) := by
  have hlt := lt_of_block h
  have h' : w.heap[p] = .cells cs t fr := by simpa [Array.getElem?_eq_getElem hlt] using h
  show (w.heap.modify p _)[p]? = _
  rw [Array.getElem?_eq_getElem (by simpa using hlt), Array.getElem_modify_self, h']
  rfl
theorem set_far {w : World} {p q k : Nat} {o : Obj} {u : Value} (h : w.heap[p]? = some o) (hne : p ≠ q) : (w.setCell ⟨q, k, none⟩ u).heap[p]? = some o := by
  rw [Below.heap_setCell w ⟨q, k, none⟩ u p hne]; exact h
theorem old_alloc {w : World} {p : Nat} {o o' : Obj} (h : w.heap[p]? = some o) : (w.alloc o').heap[p]? = some o := by
  rw [Below.heap_alloc w o' p (lt_of_block h)]; exact h
theorem new_alloc (w : World) (p : Nat) (o : Obj) (h : p = w.heap.size) : (w.alloc o).heap[p]? = some o := by
  rw [h]; exact heap_alloc_new w o
theorem bset {w a : World} (h : Below w.heap.size w a) {q k : Nat} (hq : w.heap.size ≤ q) (u : Value) : Below w.heap.size w (a.setCell ⟨q, k, none⟩ u) := h.setCell hq u
end Go.Proofs.YtdhdfgobefapiaaDoor
