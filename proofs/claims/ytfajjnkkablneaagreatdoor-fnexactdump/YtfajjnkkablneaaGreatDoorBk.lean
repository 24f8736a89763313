/- Itoa at every int, as a row lists its table. -/
import Derived.Test.YtfajjnkkablneaaGreatDoorTextT
import Derived.Test.YtfajjnkkablneaaGreatDoorBj
import Derived.Test.YtfajjnkkablneaaGreatDoorRwO
namespace Go.Proofs.YtfajjnkkablneaaGreatDoor
open Go.RowKit
set_option linter.unusedVariables false
theorem itoa_ofA {W : World} {name : String} {g : Nat} (hg : Tryz.prog.globalNamed name = some g) (htab : Lib.TabIs Tryz.prog W name .u64 Lib.pow10Tab)
    (hI : ∀ (n : Int), -9223372036854775808 ≤ n → n ≤ 9223372036854775807 → ∀ w, Lib.TabIs Tryz.prog w name .u64 Lib.pow10Tab → Calls Tryz.prog 36 #[.int .i64 n] w fun e w' => e = .returned (.string ⟨(Lib.itoa n).toArray⟩) ∧ ∃ k os, w' = Sort.grow (w.drewN k) os) : ItoaA W := by
  intro w' hb n h0 h1
  refine (hI n h0 h1 w' (Joins.tab_stays hg htab hb (Nat.le_refl _))).mono ?_
  rintro e w'' ⟨rfl, k, os, rfl⟩
  exact ⟨rfl, below_more w' k os⟩
end Go.Proofs.YtfajjnkkablneaaGreatDoor
