/- The landed code's height of a tree, and whether a knot has as many as it may. -/
import Derived.Test.YtmdnelgnpponpaaFg
namespace Go.Proofs.Ytmdnelgnpponpaa
open Go.RowKit
set_option linter.unusedSimpArgs false
set_option linter.unusedVariables false
set_option maxRecDepth 100000 in
set_option maxHeartbeats 2000000 in
theorem impl_count (t : KT) (ia : Option Addr) (ic : Nat) (ka : Option Addr) (kc least : Nat) (w : World) : Calls Try.prog 52 #[kv t ia ic ka kc, .int .i64 least] w fun e w' => e = .returned (.bool (cnt t least)) ∧ Below w.heap.size w w' := by
  have hcn : cnt t least = (decide (least ≤ t.fan) && decide (t.fan ≤ 4) && decide ((if t.lf then t.kids.length else t.its.length) = 0)) := rfl
  rw [hcn]
  unfold kv KT.fan
  clear hcn
  generalize t.box.1 = b0 at *
  generalize t.box.2.1 = b1 at *
  generalize t.box.2.2.1 = b2 at *
  generalize t.box.2.2.2 = b3 at *
  generalize t.its.length = ni at *
  generalize t.kids.length = nk at *
  cases hl : t.lf
  · have hb0 := balloc (Below.refl w.heap.size w) (.cells #[.int .i64 b0, .int .i64 b1, .int .i64 b2, .int .i64 b3, .bool false, .slice ia ni ic, .slice ka nk kc] 34)
    simp only [if_neg Bool.false_ne_true]
    by_cases h1 : least ≤ nk
    · by_cases h2 : nk ≤ 4
      · by_cases h3 : ni = 0
        · have c1 : (least : Int) ≤ (nk : Int) := by omega
          have c2 : (nk : Int) ≤ 4 := by omega
          subst h3
          rw [decide_eq_true h1, decide_eq_true h2]
          go_enter Try.func52, Try.ntmps52
          go_wp2_with fail
          go_quiet (fail)
          go_wp2_with fail
          go_ret
          exact ⟨rfl, ⟨hb0.os, hb0.tape, hb0.output, hb0.size, hb0.block⟩⟩
        · have c1 : (least : Int) ≤ (nk : Int) := by omega
          have c2 : (nk : Int) ≤ 4 := by omega
          have c3 : ¬ (ni : Int) = 0 := by omega
          have c4 : ((ni : Int) == 0) = false := by rw [beq_eq_false_iff_ne]; exact c3
          rw [decide_eq_true h1, decide_eq_true h2, decide_eq_false h3]
          go_enter Try.func52, Try.ntmps52
          go_wp2_with fail
          go_quiet (fail)
          go_wp2_with fail
          go_ret
          exact ⟨rfl, ⟨hb0.os, hb0.tape, hb0.output, hb0.size, hb0.block⟩⟩
      · have c1 : (least : Int) ≤ (nk : Int) := by omega
        have c2 : ¬ (nk : Int) ≤ 4 := by omega
        rw [decide_eq_true h1, decide_eq_false h2]
        go_enter Try.func52, Try.ntmps52
        go_wp2_with fail
        go_quiet (fail)
        go_wp2_with fail
        go_ret
        exact ⟨rfl, ⟨hb0.os, hb0.tape, hb0.output, hb0.size, hb0.block⟩⟩
    · have c1 : ¬ (least : Int) ≤ (nk : Int) := by omega
      rw [decide_eq_false h1]
      go_enter Try.func52, Try.ntmps52
      go_wp2_with fail
      go_quiet (fail)
      go_wp2_with fail
      go_ret
      exact ⟨rfl, ⟨hb0.os, hb0.tape, hb0.output, hb0.size, hb0.block⟩⟩
  · have hb0 := balloc (Below.refl w.heap.size w) (.cells #[.int .i64 b0, .int .i64 b1, .int .i64 b2, .int .i64 b3, .bool true, .slice ia ni ic, .slice ka nk kc] 34)
    simp only [if_true]
    by_cases h1 : least ≤ ni
    · by_cases h2 : ni ≤ 4
      · by_cases h3 : nk = 0
        · have c1 : (least : Int) ≤ (ni : Int) := by omega
          have c2 : (ni : Int) ≤ 4 := by omega
          subst h3
          rw [decide_eq_true h1, decide_eq_true h2]
          go_enter Try.func52, Try.ntmps52
          go_wp2_with fail
          go_quiet (fail)
          go_wp2_with fail
          go_ret
          exact ⟨rfl, ⟨hb0.os, hb0.tape, hb0.output, hb0.size, hb0.block⟩⟩
        · have c1 : (least : Int) ≤ (ni : Int) := by omega
          have c2 : (ni : Int) ≤ 4 := by omega
          have c3 : ¬ (nk : Int) = 0 := by omega
          have c4 : ((nk : Int) == 0) = false := by rw [beq_eq_false_iff_ne]; exact c3
          rw [decide_eq_true h1, decide_eq_true h2, decide_eq_false h3]
          go_enter Try.func52, Try.ntmps52
          go_wp2_with fail
          go_quiet (fail)
          go_wp2_with fail
          go_ret
          exact ⟨rfl, ⟨hb0.os, hb0.tape, hb0.output, hb0.size, hb0.block⟩⟩
      · have c1 : (least : Int) ≤ (ni : Int) := by omega
        have c2 : ¬ (ni : Int) ≤ 4 := by omega
        rw [decide_eq_true h1, decide_eq_false h2]
        go_enter Try.func52, Try.ntmps52
        go_wp2_with fail
        go_quiet (fail)
        go_wp2_with fail
        go_ret
        exact ⟨rfl, ⟨hb0.os, hb0.tape, hb0.output, hb0.size, hb0.block⟩⟩
    · have c1 : ¬ (least : Int) ≤ (ni : Int) := by omega
      rw [decide_eq_false h1]
      go_enter Try.func52, Try.ntmps52
      go_wp2_with fail
      go_quiet (fail)
      go_wp2_with fail
      go_ret
      exact ⟨rfl, ⟨hb0.os, hb0.tape, hb0.output, hb0.size, hb0.block⟩⟩
end Go.Proofs.Ytmdnelgnpponpaa
