/- Texts of stores, joined: Ring2. -/
import Derived.Test.YtenlhgnobfadgaaGreatDoorJ17
import Derived.Test.YtenlhgnobfadgaaGreatDoorJ18
import Derived.Test.YtenlhgnobfadgaaGreatDoorJ19
import Derived.Deep.DeepCutAuto
namespace Go.Proofs.YtenlhgnobfadgaaGreatDoor
open Go.RowKit
set_option linter.unusedSimpArgs false
set_option linter.unusedVariables false
theorem cell2f {w : World} {p : Nat} {a b : Value} {t : TypeId} (h : w.heap[p]? = some (.cells #[a, b] t (0, 0))) : w.cell? ⟨p, 0, none⟩ = some a ∧ w.cell? ⟨p, 1, none⟩ = some b ∧ w.frozen? ⟨p, 0, none⟩ = false ∧ w.frozen? ⟨p, 1, none⟩ = false := by
  refine ⟨?_, ?_, ?_, ?_⟩ <;> simp [World.cell?, World.frozen?, h]
theorem keepheap2 {w w' : World} (hb : Below w.heap.size w w') {b : Nat} {o : Obj} (h : w.heap[b]? = some o) : w'.heap[b]? = some o := by
  rw [hb.block b (Array.getElem?_eq_some_iff.1 h).1]; exact h
def inringv (px py : Int) (ps : List (Int × Int)) : Int := if ps.length ≤ 1000 ∧ pok px py = true ∧ allok ps = true then ringv px py ps else -1
end Go.Proofs.YtenlhgnobfadgaaGreatDoor
