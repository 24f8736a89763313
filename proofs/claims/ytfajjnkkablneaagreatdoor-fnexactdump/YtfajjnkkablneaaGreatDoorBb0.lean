/- Bounds: mathematics. -/
import Derived.Test.YtfajjnkkablneaaGreatDoorBa0
import Derived.Test.YtfajjnkkablneaaGreatDoorShBox
namespace Go.Proofs.YtfajjnkkablneaaGreatDoor
open Go.RowKit
set_option linter.unusedSimpArgs false
set_option linter.unusedVariables false
theorem foldl_min (f : Int × Int → Int) : ∀ (qs : List (Int × Int)) (m k : Int), qs.foldl (fun x p => min x (f p)) (min m k) = min m (qs.foldl (fun x p => min x (f p)) k)
  | [], m, k => rfl
  | q :: qs, m, k => by
    simp only [List.foldl_cons]
    rw [show min (min m k) (f q) = min m (min k (f q)) by omega]
    exact foldl_min f qs m _
theorem foldl_max (f : Int × Int → Int) : ∀ (qs : List (Int × Int)) (m k : Int), qs.foldl (fun x p => max x (f p)) (max m k) = max m (qs.foldl (fun x p => max x (f p)) k)
  | [], m, k => rfl
  | q :: qs, m, k => by
    simp only [List.foldl_cons]
    rw [show max (max m k) (f q) = max m (max k (f q)) by omega]
    exact foldl_max f qs m _
theorem aok_app {ps qs : List (Int × Int)} (h1 : aok ps = true) (h2 : aok qs = true) : aok (ps ++ qs) = true := by
  unfold aok allok at *
  cases ps with
  | nil => simp at h1
  | cons p ps =>
    simp only [List.isEmpty_cons, Bool.not_false, Bool.true_and, List.cons_append, List.all_cons, List.all_append, Bool.and_eq_true] at h1 h2 ⊢
    exact ⟨h1.1, h1.2, h2.2⟩
theorem box_app {ps qs : List (Int × Int)} (h1 : aok ps = true) (h2 : aok qs = true) : aX (ps ++ qs) = min (aX ps) (aX qs) ∧ aY (ps ++ qs) = min (aY ps) (aY qs) ∧ bX (ps ++ qs) = max (bX ps) (bX qs) ∧ bY' (ps ++ qs) = max (bY' ps) (bY' qs) := by
  have h3 := aok_app h1 h2
  unfold aX aY bX bY'
  rw [if_pos h1, if_pos h2, if_pos h3, if_pos h1, if_pos h2, if_pos h3, if_pos h1, if_pos h2, if_pos h3, if_pos h1, if_pos h2, if_pos h3]
  cases ps with
  | nil => simp [aok] at h1
  | cons p ps =>
    cases qs with
    | nil => simp [aok] at h2
    | cons q qs =>
      simp only [List.cons_append, List.tail_cons, List.getD_cons_zero, List.foldl_append, List.foldl_cons]
      exact ⟨foldl_min (fun p => p.1) qs _ _, foldl_min (fun p => p.2) qs _ _, foldl_max (fun p => p.1) qs _ _, foldl_max (fun p => p.2) qs _ _⟩
theorem shok_aok {k : Int} {ps : List (Int × Int)} (h : shok k ps = true) : aok ps = true ∧ 0 < ps.length ∧ ps.length ≤ 60 := by
  cases ha : allok ps
  · rw [shok_no ha] at h; cases h
  have hl : 0 < ps.length ∧ ps.length ≤ 60 := by
    unfold shok at h
    split at h
    · simp only [Bool.and_eq_true, decide_eq_true_eq] at h; omega
    split at h
    · simp only [lineb, Bool.and_eq_true, decide_eq_true_eq] at h; omega
    split at h
    · simp only [rectb, Bool.and_eq_true, decide_eq_true_eq] at h; omega
    split at h
    · simp only [ringOk, Bool.and_eq_true, decide_eq_true_eq] at h; omega
    · cases h
  refine ⟨?_, hl⟩
  unfold aok
  rw [ha, Bool.and_true]
  cases ps with
  | nil => simp at hl
  | cons p ps => rfl
/-- The points of what is there under some ids. -/
def bpts (rs : List Rw) (t : Int) (ids : List Int) : List (Int × Int) := ids.flatMap (fun id => raP (rat rs id t))
theorem bpts_next {rs : List Rw} {t : Int} {ids : List Int} {i : Nat} (hi : i < ids.length) : bpts rs t (ids.take (i + 1)) = bpts rs t (ids.take i) ++ raP (rat rs ids[i] t) := by
  unfold bpts
  rw [List.take_add_one, List.getElem?_eq_getElem hi, List.flatMap_append]
  simp only [Option.toList_some, List.flatMap_cons, List.flatMap_nil, List.append_nil]
theorem bpts_aok {rs : List Rw} {t : Int} {ids : List Int} (h : ∀ id ∈ ids, shok (raK (rat rs id t)) (raP (rat rs id t)) = true) : ∀ i, i ≤ ids.length → (bpts rs t (ids.take i)).length ≤ i * 60 ∧ aok (bpts rs t (ids.take i)) = decide (0 < i)
  | 0, _ => by simp [bpts, aok]
  | i + 1, hi => by
    obtain ⟨h1, h2⟩ := bpts_aok h i (by omega)
    have hl : i < ids.length := by omega
    obtain ⟨q1, q2, q3⟩ := shok_aok (h ids[i] (List.getElem_mem hl))
    rw [bpts_next hl]
    refine ⟨by rw [List.length_append]; omega, ?_⟩
    by_cases e : i = 0
    · subst e
      simp only [List.take_zero]
      rw [show bpts rs t [] = [] from rfl, List.nil_append, q1]
      rfl
    · rw [aok_app (by rw [h2]; simpa using (by omega : 0 < i)) q1]
      simp
def BD (ps : List (Int × Int)) (e : Ending) : Prop := e = .returned (.tuple #[.agg #[.int .i64 (aX ps), .int .i64 (aY ps), .int .i64 (bX ps), .int .i64 (bY' ps)], .bool (aok ps)])
end Go.Proofs.YtfajjnkkablneaaGreatDoor
