/- Texts of stores, joined: Tf, Tg. -/
import Derived.Test.YtenlhgnobfadgaaGreatDoorTe
set_option linter.unusedSimpArgs false
set_option linter.unusedVariables false
namespace Go.Proofs.YtenlhgnobfadgaaGreatDoor
open Go.RowKit Go.Maps
theorem apb_no {now : Int} {rs : List Rw} {cs : List Ch} (h : apb now rs cs = false) : apnow now rs cs = now ∧ aprs now rs cs = rs := by
 unfold apnow aprs
 rw [h]; simp
theorem apb_yes {now : Int} {rs : List Rw} {cs : List Ch} (h : apb now rs cs = true) : apnow now rs cs = now + 1 ∧ aprs now rs cs = apl (now + 1) rs cs := by
 unfold apnow aprs
 rw [if_pos h, if_pos h]; exact ⟨rfl, rfl⟩
def md (t id : Int) (z : List Rw) (k : Nat) : List Rw := (z.take k).map (endR t id) ++ z.drop k
theorem md_zero (t id : Int) (z : List Rw) : md t id z 0 = z := by simp [md]
theorem md_all (t id : Int) (z : List Rw) : md t id z z.length = z.map (endR t id) := by simp [md]
theorem md_len (t id : Int) (z : List Rw) (k : Nat) : (md t id z k).length = z.length := by simp [md]; omega
theorem md_at (t id : Int) (z : List Rw) {k : Nat} (h : k < z.length) : (md t id z k)[k]'(by rw [md_len]; exact h) = z[k] := by
 unfold md
 rw [List.getElem_append_right (by simp; omega)]
 simp [Nat.min_eq_left (Nat.le_of_lt h)]
theorem md_next (t id : Int) (z : List Rw) {k : Nat} (h : k < z.length) : md t id z (k + 1) = (md t id z k).set k (endR t id z[k]) := by
 unfold md
 rw [List.take_succ_eq_append_getElem h, List.map_append, List.append_assoc, List.set_append_right _ _ (by simp; omega)]
 congr 1
 rw [show k - (List.map (endR t id) (List.take k z)).length = 0 by simp; omega]
 rw [List.drop_eq_getElem_cons h]
 rfl
theorem md_same (t id : Int) (z : List Rw) {k : Nat} (h : k < z.length) (e : endR t id z[k] = z[k]) : md t id z (k + 1) = md t id z k := by
 rw [md_next t id z h, e]
 have := md_at t id z h
 apply List.ext_getElem (by simp)
 intro j h1 h2
 rw [List.getElem_set]
 by_cases q : k = j
 ·subst q; rw [if_pos rfl]; exact this.symm
 ·rw [if_neg q]
end Go.Proofs.YtenlhgnobfadgaaGreatDoor
