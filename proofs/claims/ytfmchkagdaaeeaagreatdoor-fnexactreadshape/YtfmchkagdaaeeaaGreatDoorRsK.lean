/- The kind of a word, the landed side. -/
import Derived.Test.YtfmchkagdaaeeaaGreatDoorRsM
namespace Go.Proofs.YtfmchkagdaaeeaaGreatDoor
open Go.RowKit
set_option linter.unusedVariables false
theorem kw_idx (a b c d : Value) (w : World) : (Instr.index 71 (.agg #[a, b, c, d]) (.int .i64 0)).run Tryz.prog w = .ok a w ∧ (Instr.index 71 (.agg #[a, b, c, d]) (.int .i64 1)).run Tryz.prog w = .ok b w ∧ (Instr.index 71 (.agg #[a, b, c, d]) (.int .i64 2)).run Tryz.prog w = .ok c w ∧ (Instr.index 71 (.agg #[a, b, c, d]) (.int .i64 3)).run Tryz.prog w = .ok d w := ⟨by kernel_rfl, by kernel_rfl, by kernel_rfl, by kernel_rfl⟩
theorem kw_other {x : ByteArray} {m : Nat} (hm : m ≤ 3) (h : kdr x ≠ some m) : ((kwr m).toList == x.toList) = false := by
  rw [str_eq, decide_eq_false_iff_not]
  intro e
  exact h ((kdr_at x m hm).1 e.symm)
theorem kw_same {x : ByteArray} {m : Nat} (hm : m ≤ 3) (h : kdr x = some m) : ((kwr m).toList == x.toList) = true := by
  rw [str_eq, decide_eq_true_iff]
  exact ((kdr_at x m hm).2 h).symm
set_option maxHeartbeats 2000000 in
theorem kind_ok (x : ByteArray) (m : Nat) (hk : kdr x = some m) (w : World) (h : KWr w) : Calls Tryz.prog 23 #[.string x] w fun e w' => e = .returned (.int .i64 m) ∧ w' = w := by
  have hm := kdr_le hk
  have i0 := fun w => (kw_idx (.string (kwr 0)) (.string (kwr 1)) (.string (kwr 2)) (.string (kwr 3)) w).1
  have i1 := fun w => (kw_idx (.string (kwr 0)) (.string (kwr 1)) (.string (kwr 2)) (.string (kwr 3)) w).2.1
  have i2 := fun w => (kw_idx (.string (kwr 0)) (.string (kwr 1)) (.string (kwr 2)) (.string (kwr 3)) w).2.2.1
  have i3 := fun w => (kw_idx (.string (kwr 0)) (.string (kwr 1)) (.string (kwr 2)) (.string (kwr 3)) w).2.2.2
  have c0 := h 0 (by omega)
  have c1 := h 1 (by omega)
  have c2 := h 2 (by omega)
  have c3 := h 3 (by omega)
  obtain rfl | rfl | rfl | rfl : m = 0 ∨ m = 1 ∨ m = 2 ∨ m = 3 := by omega
  · have q0 := kw_same (x := x) (m := 0) (by omega) hk
    clear h hk hm
    generalize kwr 0 = k0 at *
    generalize kwr 1 = k1 at *
    generalize kwr 2 = k2 at *
    generalize kwr 3 = k3 at *
    go_enter Tryz.func23, Tryz.ntmps23
    go_wp2_with fail
    refine wp_loop_rounds 1 ?_
    rw [rounds_succ]
    go_wp2_with fail
    go_ret
    exact ⟨rfl, rfl⟩
  · have q0 := kw_other (x := x) (m := 0) (by omega) (by rw [hk]; decide)
    have q1 := kw_same (x := x) (m := 1) (by omega) hk
    clear h hk hm
    generalize kwr 0 = k0 at *
    generalize kwr 1 = k1 at *
    generalize kwr 2 = k2 at *
    generalize kwr 3 = k3 at *
    go_enter Tryz.func23, Tryz.ntmps23
    go_wp2_with fail
    refine wp_loop_rounds 2 ?_
    rw [rounds_succ]
    go_wp2_with fail
    rw [rounds_succ]
    go_wp2_with fail
    go_ret
    exact ⟨rfl, rfl⟩
  · have q0 := kw_other (x := x) (m := 0) (by omega) (by rw [hk]; decide)
    have q1 := kw_other (x := x) (m := 1) (by omega) (by rw [hk]; decide)
    have q2 := kw_same (x := x) (m := 2) (by omega) hk
    clear h hk hm
    generalize kwr 0 = k0 at *
    generalize kwr 1 = k1 at *
    generalize kwr 2 = k2 at *
    generalize kwr 3 = k3 at *
    go_enter Tryz.func23, Tryz.ntmps23
    go_wp2_with fail
    refine wp_loop_rounds 3 ?_
    rw [rounds_succ]
    go_wp2_with fail
    rw [rounds_succ]
    go_wp2_with fail
    rw [rounds_succ]
    go_wp2_with fail
    go_ret
    exact ⟨rfl, rfl⟩
  · have q0 := kw_other (x := x) (m := 0) (by omega) (by rw [hk]; decide)
    have q1 := kw_other (x := x) (m := 1) (by omega) (by rw [hk]; decide)
    have q2 := kw_other (x := x) (m := 2) (by omega) (by rw [hk]; decide)
    have q3 := kw_same (x := x) (m := 3) (by omega) hk
    clear h hk hm
    generalize kwr 0 = k0 at *
    generalize kwr 1 = k1 at *
    generalize kwr 2 = k2 at *
    generalize kwr 3 = k3 at *
    go_enter Tryz.func23, Tryz.ntmps23
    go_wp2_with fail
    refine wp_loop_rounds 4 ?_
    rw [rounds_succ]
    go_wp2_with fail
    rw [rounds_succ]
    go_wp2_with fail
    rw [rounds_succ]
    go_wp2_with fail
    rw [rounds_succ]
    go_wp2_with fail
    go_ret
    exact ⟨rfl, rfl⟩
set_option maxHeartbeats 2000000 in
theorem kind_no (x : ByteArray) (hk : kdr x = none) (w : World) (h : KWr w) : Calls Tryz.prog 23 #[.string x] w fun e w' => Refused e ∧ w' = w := by
  have i0 := fun w => (kw_idx (.string (kwr 0)) (.string (kwr 1)) (.string (kwr 2)) (.string (kwr 3)) w).1
  have i1 := fun w => (kw_idx (.string (kwr 0)) (.string (kwr 1)) (.string (kwr 2)) (.string (kwr 3)) w).2.1
  have i2 := fun w => (kw_idx (.string (kwr 0)) (.string (kwr 1)) (.string (kwr 2)) (.string (kwr 3)) w).2.2.1
  have i3 := fun w => (kw_idx (.string (kwr 0)) (.string (kwr 1)) (.string (kwr 2)) (.string (kwr 3)) w).2.2.2
  have c0 := h 0 (by omega)
  have c1 := h 1 (by omega)
  have c2 := h 2 (by omega)
  have c3 := h 3 (by omega)
  have q0 := kw_other (x := x) (m := 0) (by omega) (by rw [hk]; decide)
  have q1 := kw_other (x := x) (m := 1) (by omega) (by rw [hk]; decide)
  have q2 := kw_other (x := x) (m := 2) (by omega) (by rw [hk]; decide)
  have q3 := kw_other (x := x) (m := 3) (by omega) (by rw [hk]; decide)
  clear h hk
  generalize kwr 0 = k0 at *
  generalize kwr 1 = k1 at *
  generalize kwr 2 = k2 at *
  generalize kwr 3 = k3 at *
  go_enter Tryz.func23, Tryz.ntmps23
  go_wp2_with fail
  refine wp_loop_rounds 5 ?_
  rw [rounds_succ]
  go_wp2_with fail
  rw [rounds_succ]
  go_wp2_with fail
  rw [rounds_succ]
  go_wp2_with fail
  rw [rounds_succ]
  go_wp2_with fail
  rw [rounds_succ]
  go_wp2_with fail
  exact ⟨rfl, ⟨_, rfl⟩, rfl⟩
end Go.Proofs.YtfmchkagdaaeeaaGreatDoor
