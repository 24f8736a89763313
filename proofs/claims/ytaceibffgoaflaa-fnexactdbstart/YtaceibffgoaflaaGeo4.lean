/- A box around points, and what it has. -/
import Derived.Test.YtaceibffgoaflaaGeo3
import Derived.Deep.CutRange
namespace Go.Proofs.Ytaceibffgoaflaa
open Go.RowKit
set_option linter.unusedSimpArgs false
set_option linter.unusedVariables false
def hasb (a b c d x y : Int) : Bool := decide (a ≤ x) && decide (x ≤ c) && decide (b ≤ y) && decide (y ≤ d)
theorem cell4 {w : World} {p : Nat} {a b c d : Value} {t : TypeId} (h : w.heap[p]? = some (.cells #[a, b, c, d] t (0, 0))) :
    w.cell? ⟨p, 0, none⟩ = some a ∧ w.cell? ⟨p, 1, none⟩ = some b ∧ w.cell? ⟨p, 2, none⟩ = some c ∧ w.cell? ⟨p, 3, none⟩ = some d ∧ w.frozen? ⟨p, 0, none⟩ = false ∧ w.frozen? ⟨p, 1, none⟩ = false ∧ w.frozen? ⟨p, 2, none⟩ = false ∧ w.frozen? ⟨p, 3, none⟩ = false := by
  simp [World.cell?, World.frozen?, h]
theorem cell2 {w : World} {p : Nat} {a b : Value} {t : TypeId} (h : w.heap[p]? = some (.cells #[a, b] t (0, 0))) : w.cell? ⟨p, 0, none⟩ = some a ∧ w.cell? ⟨p, 1, none⟩ = some b := by
  simp [World.cell?, h]
def upto (f : Int → Int × Int → Int) (x : Int) (ps : List (Int × Int)) (k : Nat) : Int := (ps.take k).foldl f x
theorem upto_zero (f : Int → Int × Int → Int) (x : Int) (ps : List (Int × Int)) : upto f x ps 0 = x := rfl
theorem upto_next (f : Int → Int × Int → Int) (x : Int) (ps : List (Int × Int)) (k : Nat) (h : k < ps.length) : upto f x ps (k + 1) = f (upto f x ps k) (ps.getD k (0, 0)) := by
  unfold upto
  rw [List.take_add_one, List.getElem?_eq_getElem h, List.foldl_append, List.getD_eq_getElem?_getD, List.getElem?_eq_getElem h]
  rfl
theorem upto_all (f : Int → Int × Int → Int) (x : Int) (ps : List (Int × Int)) (k : Nat) (h : ps.length ≤ k) : upto f x ps k = ps.foldl f x := by
  unfold upto
  rw [List.take_of_length_le h]
theorem set_at {w : World} {p k : Nat} {cs : Array Value} {t : TypeId} {fr : Nat × Nat} {u : Value} (h : w.heap[p]? = some (.cells cs t fr)) : (w.setCell ⟨p, k, none⟩ u).heap[p]? = some (.cells (cs.setIfInBounds k u) t fr) := by
  have hlt := lt_of_block h
  have h' : w.heap[p] = .cells cs t fr := by simpa [Array.getElem?_eq_getElem hlt] using h
  show (w.heap.modify p _)[p]? = _
  rw [Array.getElem?_eq_getElem (by simpa using hlt), Array.getElem_modify_self, h']
  rfl
theorem set_far {w : World} {p q k : Nat} {o : Obj} {u : Value} (h : w.heap[p]? = some o) (hne : p ≠ q) : (w.setCell ⟨q, k, none⟩ u).heap[p]? = some o := by
  rw [Below.heap_setCell w ⟨q, k, none⟩ u p hne]; exact h
theorem old_alloc {w : World} {p : Nat} {o o' : Obj} (h : w.heap[p]? = some o) : (w.alloc o').heap[p]? = some o := by
  rw [Below.heap_alloc w o' p (lt_of_block h)]; exact h
theorem new_alloc (w : World) (p : Nat) (o : Obj) (h : p = w.heap.size) : (w.alloc o).heap[p]? = some o := by
  rw [h]; exact heap_alloc_new w o
theorem ite_min (a b : Int) : (if b < a then b else a) = min a b := by
  split <;> omega
theorem ite_max (a b : Int) : (if a < b then b else a) = max a b := by
  split <;> omega
theorem bset {w a : World} (h : Below w.heap.size w a) {q k : Nat} (hq : w.heap.size ≤ q) (u : Value) : Below w.heap.size w (a.setCell ⟨q, k, none⟩ u) := h.setCell hq u
end Go.Proofs.Ytaceibffgoaflaa
