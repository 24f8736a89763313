/- Texts of stores, joined: DrawT. -/
import Derived.Test.YtenlhgnobfadgaaGreatDoorJ11
namespace Go.Proofs.YtenlhgnobfadgaaGreatDoor
open Go.RowKit
set_option linter.unusedVariables false
set_option linter.unusedSimpArgs false
theorem new_q (w : World) (a : Option Addr) (len cap : Nat) (hc : CodeAt w a len w.heap.size) : Calls Tryz.prog 34 #[.slice a len cap] w fun e w' => ∃ p : Nat, e = .returned (.pointer (some ⟨p, 0, none⟩)) ∧ w.heap.size = p ∧ Ready w' p a len cap ∧ (∀ (n : Nat) (o : Obj), w.heap[n]? = some o → w'.heap[n]? = some o) ∧ Below w.heap.size w w' := by
  refine (new_c w a len cap hc).mono ?_
  rintro e w1 ⟨h, rfl, rfl⟩
  exact ⟨_, rfl, rfl, ready_new w a len cap h hc, fun n o h => old_alloc h, balloc (Below.refl _ _) _⟩
end Go.Proofs.YtenlhgnobfadgaaGreatDoor
