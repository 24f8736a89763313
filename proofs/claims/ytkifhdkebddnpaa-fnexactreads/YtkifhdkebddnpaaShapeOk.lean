/- ShapeOk: the landed function and the specification's answer alike. -/
import Derived.Test.YtkifhdkebddnpaaRing3
namespace Go.Proofs.Ytkifhdkebddnpaa
open Go.RowKit
set_option linter.unusedSimpArgs false
set_option linter.unusedVariables false
theorem onb_start (x y u v : Int) : onb x y x y u v = true := by
  unfold onb hasb cr
  simp only [Int.sub_self, Int.mul_zero, Int.zero_mul, decide_true, Bool.true_and, Bool.and_eq_true, decide_eq_true_eq]
  omega
theorem inner_iff (qs : List Sd) (i : Nat) : ∀ m, innerTo qs i m = true ↔ ∀ j, i + 2 ≤ j → j < i + 2 + m → meetq (qs.getD i (0, 0, 0, 0)) (qs.getD j (0, 0, 0, 0)) = false
  | 0 => ⟨fun _ j h1 h2 => absurd h2 (by omega), fun _ => rfl⟩
  | m + 1 => by
    rw [innerTo, Bool.and_eq_true, inner_iff qs i m, Bool.not_eq_true']
    constructor
    · rintro ⟨h1, h2⟩ j hj hjm
      by_cases e : j = i + 2 + m
      · subst e; exact h2
      · exact h1 j hj (by omega)
    · intro h
      exact ⟨fun j h1 h2 => h j h1 (by omega), h _ (by omega) (by omega)⟩
theorem apart_iff (qs : List Sd) : ∀ k, apartTo qs k = true ↔ ∀ i, i < k → foldq (qs.getD i (0, 0, 0, 0)) (qs.getD ((i + 1) % qs.length) (0, 0, 0, 0)) = false ∧ ∀ j, i + 2 ≤ j → j < farq qs.length i → meetq (qs.getD i (0, 0, 0, 0)) (qs.getD j (0, 0, 0, 0)) = false
  | 0 => ⟨fun _ i h => absurd h (by omega), fun _ => rfl⟩
  | k + 1 => by
    rw [apartTo, Bool.and_eq_true, Bool.and_eq_true, apart_iff qs k, Bool.not_eq_true', inner_iff]
    constructor
    · rintro ⟨h1, h2, h3⟩ i hi
      by_cases e : i = k
      · subst e; exact ⟨h2, fun j a b => h3 j a (by omega)⟩
      · exact h1 i (by omega)
    · intro h
      exact ⟨fun i hi => h i (by omega), (h k (by omega)).1, fun j a b => (h k (by omega)).2 j a (by omega)⟩
theorem specIn_iff (ps : List (Int × Int)) (i : Nat) : ∀ m, specIn ps i m = true ↔ ∀ j, i + 1 ≤ j → j < i + 1 + m → specC ps i j = false
  | 0 => ⟨fun _ j h1 h2 => absurd h2 (by omega), fun _ => rfl⟩
  | m + 1 => by
    rw [specIn, Bool.and_eq_true, specIn_iff ps i m, Bool.not_eq_true']
    constructor
    · rintro ⟨h1, h2⟩ j hj hjm
      by_cases e : j = i + 1 + m
      · subst e; exact h2
      · exact h1 j hj (by omega)
    · intro h
      exact ⟨fun j h1 h2 => h j h1 (by omega), h _ (by omega) (by omega)⟩
theorem specTo_iff (ps : List (Int × Int)) : ∀ k, k ≤ ps.length → (specTo ps k = true ↔ ∀ i, i < k → ((ps.getD i (0, 0)).1 == (nxt ps i).1 && (ps.getD i (0, 0)).2 == (nxt ps i).2) = false ∧ ∀ j, i + 1 ≤ j → j < ps.length → specC ps i j = false)
  | 0, _ => ⟨fun _ i h => absurd h (by omega), fun _ => rfl⟩
  | k + 1, hk => by
    rw [specTo, Bool.and_eq_true, Bool.and_eq_true, specTo_iff ps k (by omega), Bool.not_eq_true', specIn_iff]
    constructor
    · rintro ⟨h1, h2, h3⟩ i hi
      by_cases e : i = k
      · subst e; exact ⟨h2, fun j a b => h3 j a (by omega)⟩
      · exact h1 i (by omega)
    · intro h
      exact ⟨fun i hi => h i (by omega), (h k (by omega)).1, fun j a b => (h k (by omega)).2 j a (by omega)⟩
theorem apart_spec (ps : List (Int × Int)) (h3 : 3 ≤ ps.length) : apartTo (ringSides ps) (ringSides ps).length = specTo ps ps.length := by
  rw [Bool.eq_iff_iff, apart_iff, specTo_iff ps _ (Nat.le_refl _), ringSides_len]
  have hf : ∀ i j, i < ps.length → j < ps.length → foldq ((ringSides ps).getD i (0, 0, 0, 0)) ((ringSides ps).getD j (0, 0, 0, 0)) = (onb (nxt ps j).1 (nxt ps j).2 (ps.getD i (0, 0)).1 (ps.getD i (0, 0)).2 (nxt ps i).1 (nxt ps i).2 || onb (ps.getD i (0, 0)).1 (ps.getD i (0, 0)).2 (ps.getD j (0, 0)).1 (ps.getD j (0, 0)).2 (nxt ps j).1 (nxt ps j).2) := by
    intro i j hi hj
    rw [ringSides_at ps i hi, ringSides_at ps j hj]; rfl
  have hmq : ∀ i j, i < ps.length → j < ps.length → meetq ((ringSides ps).getD i (0, 0, 0, 0)) ((ringSides ps).getD j (0, 0, 0, 0)) = smeet (ps.getD i (0, 0)).1 (ps.getD i (0, 0)).2 (nxt ps i).1 (nxt ps i).2 (ps.getD j (0, 0)).1 (ps.getD j (0, 0)).2 (nxt ps j).1 (nxt ps j).2 := by
    intro i j hi hj
    rw [ringSides_at ps i hi, ringSides_at ps j hj]; rfl
  have hC : ∀ i j, specC ps i j = badc ps.length i j (ps.getD i (0, 0)).1 (ps.getD i (0, 0)).2 (nxt ps i).1 (nxt ps i).2 (ps.getD j (0, 0)).1 (ps.getD j (0, 0)).2 (nxt ps j).1 (nxt ps j).2 := fun i j => rfl
  have hmod : ∀ i, i + 1 < ps.length → (i + 1) % ps.length = i + 1 := fun i h => Nat.mod_eq_of_lt h
  have hlast : (ps.length - 1 + 1) % ps.length = 0 := by rw [show ps.length - 1 + 1 = ps.length by omega, Nat.mod_self]
  constructor
  · intro h i hi
    refine ⟨?_, ?_⟩
    · rw [Bool.eq_false_iff]
      intro he
      simp only [Bool.and_eq_true, beq_iff_eq] at he
      have hfi := (h i hi).1
      have hj : (i + 1) % ps.length < ps.length := Nat.mod_lt _ (by omega)
      rw [hf i _ hi hj, Bool.or_eq_false_iff] at hfi
      have e : ps.getD ((i + 1) % ps.length) (0, 0) = nxt ps i := rfl
      rw [e, he.1, he.2, onb_start] at hfi
      exact absurd hfi.2 (by decide)
    · intro j hj1 hj2
      rw [hC]
      unfold badc
      by_cases e1 : j = i + 1
      · rw [if_pos e1]
        have hfi := (h i hi).1
        rw [hmod i (by omega), ← e1, hf i j hi hj2] at hfi
        exact hfi
      · rw [if_neg e1]
        by_cases e2 : i = 0 ∧ j = ps.length - 1
        · rw [if_pos e2]
          have hfi := (h j hj2).1
          rw [show (j + 1) % ps.length = i by rw [e2.2, hlast, e2.1], hf j i hj2 hi, Bool.or_comm] at hfi
          exact hfi
        · rw [if_neg e2]
          have hmi := (h i hi).2 j (by omega) (by unfold farq; split <;> omega)
          rw [hmq i j hi hj2] at hmi
          exact hmi
  · intro h i hi
    refine ⟨?_, ?_⟩
    · by_cases e1 : i + 1 < ps.length
      · rw [hmod i e1, hf i (i + 1) hi e1]
        have hs := (h i hi).2 (i + 1) (by omega) e1
        rw [hC] at hs
        unfold badc at hs
        rw [if_pos rfl] at hs
        exact hs
      · have ei : i = ps.length - 1 := by omega
        have hs := (h 0 (by omega)).2 i (by omega) hi
        rw [hC] at hs
        unfold badc at hs
        rw [if_neg (by omega), if_pos ⟨rfl, ei⟩] at hs
        rw [show (i + 1) % ps.length = 0 by rw [ei, hlast], hf i 0 hi (by omega), Bool.or_comm]
        exact hs
    · intro j hj1 hj2
      have hj : j < ps.length := by unfold farq at hj2; split at hj2 <;> omega
      have hs := (h i hi).2 j (by omega) hj
      rw [hC] at hs
      unfold badc at hs
      rw [if_neg (by omega), if_neg (by unfold farq at hj2; rintro ⟨a, b⟩; rw [if_pos a] at hj2; omega)] at hs
      rw [hmq i j hi hj]
      exact hs
theorem area_allok {ps : List (Int × Int)} (h : 0 < area2 ps) : allok ps = true := by
  unfold area2 at h
  split at h
  · rename_i q; exact q.2
  · omega
def shok (k : Int) (ps : List (Int × Int)) : Bool := if k = 0 then (decide (ps.length = 1) && allok ps) else if k = 1 then (lineb ps && allok ps) else if k = 2 then (rectb ps && allok ps) else if k = 3 then ringOk ps else false
end Go.Proofs.Ytkifhdkebddnpaa
