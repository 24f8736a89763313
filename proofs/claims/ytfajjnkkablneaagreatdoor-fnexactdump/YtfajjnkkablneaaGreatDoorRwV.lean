/- Rows sorted. -/
import Derived.Test.YtfajjnkkablneaaGreatDoorRwC
import Derived.Test.YtfajjnkkablneaaGreatDoorShelfS
namespace Go.Proofs.YtfajjnkkablneaaGreatDoor
open Go.RowKit Go.Shelf Go.Lib Go.Sort
set_option linter.unusedSimpArgs false
set_option linter.unusedVariables false
/-- A row's cells. -/
abbrev El : Type := Int × Int × Int × Int × Option Addr × Nat × Nat
def ev (x : El) : List Value := [.int .i64 x.1, .int .i64 x.2.1, .int .i64 x.2.2.1, .int .i64 x.2.2.2.1, .slice x.2.2.2.2.1 x.2.2.2.2.2.1 x.2.2.2.2.2.2]
def trE (x : El) : Tr := (x.1, x.2.1, x.2.2.1)
def cfE (x y : El) : Int := cmr (trE x) (trE y)
theorem ltE (x y : El) : ltOf cfE x y = decide (x.1 < y.1 ∨ (x.1 = y.1 ∧ x.2.1 < y.2.1)) := by
  unfold ltOf cfE cmr cmi trE
  by_cases h1 : x.1 < y.1
  · simp [h1]
  · by_cases h2 : y.1 < x.1
    · have : ¬ x.1 = y.1 := by omega
      simp [h1, h2, this]
    · have : x.1 = y.1 := by omega
      by_cases h3 : x.2.1 < y.2.1
      · simp [this, h3]
      · by_cases h4 : y.2.1 < x.2.1
        · simp [this, h3, h4]
        · simp [this, h3, h4]
theorem swoE : SWO (ltOf cfE) where
  irrefl x := by rw [ltE]; simp
  trans x y z h1 h2 := by rw [ltE] at *; simp only [decide_eq_true_eq] at *; omega
  ntrans x y z h1 h2 := by rw [ltE] at *; simp only [decide_eq_false_iff_not] at *; omega
theorem cmpE (blk off size : Nat) (w : World) : CmpLays Tryz.prog 34 #[] ev 5 cfE blk off size w :=
  fun _ _ _ _ x y => compare_rows x.1 x.2.1 x.2.2.1 x.2.2.2.1 y.1 y.2.1 y.2.2.1 y.2.2.2.1 _ _ _
theorem isAggRow (w : World) : (isAgg 50).run Tryz.prog w = .ok true w := by kernel_rfl
theorem sizeRow (w : World) : (Go.sizeOf 50).run Tryz.prog w = .ok 5 w := by kernel_rfl
theorem sort_rows (blk off cap : Nat) (d : Array El) (w : World) (hH : HoldsK ev 5 w blk off d) (hblk : blk < w.heap.size) (hsz : d.size < 4611686018427387904) :
    Calls Tryz.prog 33 #[.slice (some ⟨blk, off, none⟩) d.size cap, .func (.func 34) #[] #[]] w fun e w' => e = .returned (.tuple #[]) ∧ ∃ d' n os, PermIn 0 d.size d d' ∧ SortedIn (ltOf cfE) 0 d.size d' ∧ w' = sortWorldK ev 5 w blk off n d' os := by
  have eg : ∀ args w, (callFunc 34 args).run Tryz.prog w = .ok (.enter 34 args) w := enters_of Tryz.func34 (by kernel_rfl) rfl
  have hcon := AnyQ.slices_SortFunc Tryz.sortRow 5 isAggRow sizeRow ev (fun _ => rfl) (fun x v hv => by simp [ev] at hv; rcases hv with rfl | rfl | rfl | rfl | rfl <;> rfl) cfE swoE 34 #[] blk off cap d w eg (cmpE blk off d.size w) hH hblk hsz
  exact hcon
end Go.Proofs.YtfajjnkkablneaaGreatDoor
