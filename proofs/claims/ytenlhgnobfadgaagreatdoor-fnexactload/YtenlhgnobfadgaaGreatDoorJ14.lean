/- Texts of stores, joined: Rd. -/
import Derived.Test.YtenlhgnobfadgaaGreatDoorJ13
import Derived.WalkLawsBesides
set_option linter.unusedSimpArgs false
set_option linter.unusedVariables false
namespace Go.Proofs.YtenlhgnobfadgaaGreatDoor
open Go.RowKit
/-- The number that lies in s at i, and the place behind it. -/
def rd (s : ByteArray) (i : Int) : Option (Nat × Nat) := if 0 ≤ i ∧ i < (s.size : Int) then gn s i.toNat 5 0 else none
theorem rd_in (s : ByteArray) (i : Nat) (h : i < s.size) : rd s (i : Int) = gn s i 5 0 := by unfold rd; rw [if_pos (by omega)]; rfl
theorem rd_out (s : ByteArray) (i : Int) (h : i < 0 ∨ (s.size : Int) ≤ i) : rd s i = none := by unfold rd; rw [if_neg (by omega)]
/-- A reader's refusal. -/
def Refused (e : Ending) : Prop := ∃ t, e = .panicked [{ v := .iface 167 (.agg #[.string t]), recovered := false }]
theorem gn_small (s : ByteArray) (i : Nat) : ∀ (f j : Nat) (n k : Nat), gn s i f j = some (n, k) → n ≤ 4000000000 ∧ k ≤ s.size
  | 0, j, n, k, h => by simp [gn] at h
  | f + 1, j, n, k, h => by
    simp only [gn] at h
    split at h
    · split at h
      · split at h
        · cases h
        · simp at h; omega
      · exact gn_small s i f (j + 1) n k h
    · cases h
theorem rd_small (s : ByteArray) (i : Int) (n k : Nat) (h : rd s i = some (n, k)) : n ≤ 4000000000 ∧ k ≤ s.size := by
  unfold rd at h
  split at h
  · exact gn_small s _ 5 0 n k h
  · cases h
theorem set2_1 {w : World} {p : Nat} {x y u : Value} {t : TypeId} (h : w.heap[p]? = some (.cells #[x, y] t (0, 0))) : (w.setCell ⟨p, 1, none⟩ u).heap[p]? = some (.cells #[x, u] t (0, 0)) := by
  have hlt := lt_of_block h
  have h' : w.heap[p] = .cells #[x, y] t (0, 0) := by simpa [Array.getElem?_eq_getElem hlt] using h
  show (w.heap.modify p _)[p]? = _
  rw [Array.getElem?_eq_getElem (by simpa using hlt), Array.getElem_modify_self, h']
  rfl
/-- The number that folds to n. -/
def unf (n : Nat) : Int := if n % 2 = 1 then -(((n + 1) / 2 : Nat) : Int) else ((n / 2 : Nat) : Int)
theorem neg_half (n : Nat) (h : n ≤ 2000000000) : wrap64 (-((n : Int) + 1).tdiv 2) = -(((n + 1) / 2 : Nat) : Int) := by
  have e : ((n : Int) + 1).tdiv 2 = (((n + 1) / 2 : Nat) : Int) := rfl
  rw [e, IntWalk.wrap64_in _ ⟨by omega, by omega⟩]
theorem fold_unf (n : Nat) : fold (unf n) = n := by
  unfold fold unf
  split <;> split <;> omega
theorem unf_in (n : Nat) (h : n ≤ 2000000000) : -1000000000 ≤ unf n ∧ unf n ≤ 1000000000 := by unfold unf; split <;> omega
end Go.Proofs.YtenlhgnobfadgaaGreatDoor
