/- Texts of stores, joined: ShBox, Has, Has2, Has3. -/
import Derived.Test.YtjafahhoihlliaaGreatDoorJ27
import Derived.Test.YtjafahhoihlliaaGreatDoorJ21
namespace Go.Proofs.YtjafahhoihlliaaGreatDoor
open Go.RowKit
set_option linter.unusedSimpArgs false
set_option linter.unusedVariables false
def sv (f : List (Int × Int) → Int) (k : Int) (ps : List (Int × Int)) : Int := if shok k ps = true then f ps else 0
def hasv (a b c d e f g h : Int) : Bool := bok a b c d && bok e f g h && hasbx a b c d e f g h
end Go.Proofs.YtjafahhoihlliaaGreatDoor
namespace Go.Proofs.YtjafahhoihlliaaGreatDoor
open Go.RowKit
set_option linter.unusedSimpArgs false
set_option linter.unusedVariables false
def alongSides (ps : List (Int × Int)) : List Sd := (List.range (ps.length - 1)).map fun k => ((ps.getD k (0, 0)).1, (ps.getD k (0, 0)).2, (ps.getD (k + 1) (0, 0)).1, (ps.getD (k + 1) (0, 0)).2)
theorem along_len (ps : List (Int × Int)) : (alongSides ps).length = ps.length - 1 := by simp [alongSides]
theorem along_at (ps : List (Int × Int)) (k : Nat) (hk : k < ps.length - 1) : (alongSides ps).getD k (0, 0, 0, 0) = ((ps.getD k (0, 0)).1, (ps.getD k (0, 0)).2, (ps.getD (k + 1) (0, 0)).1, (ps.getD (k + 1) (0, 0)).2) := by
  simp [alongSides, List.getD_eq_getElem?_getD, List.getElem?_map, List.getElem?_range hk]
theorem along_in {ps : List (Int × Int)} (h : allok ps = true) : ∀ k, k < (alongSides ps).length → SdIn ((alongSides ps).getD k (0, 0, 0, 0)) := by
  intro k hk
  rw [along_len] at hk
  rw [along_at ps k hk]
  obtain ⟨i1, i2⟩ := allok_in h k (by omega)
  obtain ⟨i3, i4⟩ := allok_in h (k + 1) (by omega)
  exact ⟨i1, i2, i3, i4⟩
/-- Whether one of the first k sides has p. -/
def anyOn (px py : Int) (qs : List Sd) : Nat → Bool
  | 0 => false
  | k + 1 => anyOn px py qs k || onb px py (qs.getD k (0, 0, 0, 0)).1 (qs.getD k (0, 0, 0, 0)).2.1 (qs.getD k (0, 0, 0, 0)).2.2.1 (qs.getD k (0, 0, 0, 0)).2.2.2
theorem any_mono {px py : Int} {qs : List Sd} {k : Nat} (h : anyOn px py qs k = true) : ∀ m, k ≤ m → anyOn px py qs m = true
  | 0, hm => by obtain rfl : k = 0 := by omega
                exact h
  | m + 1, hm => by
    by_cases e : k = m + 1
    · subst e; exact h
    · rw [anyOn, any_mono h m (by omega)]; rfl
end Go.Proofs.YtjafahhoihlliaaGreatDoor
namespace Go.Proofs.YtjafahhoihlliaaGreatDoor
open Go.RowKit
set_option linter.unusedSimpArgs false
set_option linter.unusedVariables false
theorem ok_b (x y : Int) (w : World) : Calls Tryz.prog 156 #[.agg #[.int .i64 x, .int .i64 y]] w fun e w' => e = .returned (.bool (pok x y)) ∧ Below w.heap.size w w' :=
  (impl_ok x y w).mono fun e w' ⟨h1, h2⟩ => ⟨h1, by subst h2; exact balloc (Below.refl _ _) _⟩
end Go.Proofs.YtjafahhoihlliaaGreatDoor
namespace Go.Proofs.YtjafahhoihlliaaGreatDoor
open Go.RowKit
set_option linter.unusedSimpArgs false
set_option linter.unusedVariables false
def hasP (k : Int) (ps : List (Int × Int)) (px py : Int) : Bool := if k = 0 then ((ps.getD 0 (0, 0)).1 == px && (ps.getD 0 (0, 0)).2 == py) else if k = 1 then anyOn px py (alongSides ps) (alongSides ps).length else if k = 2 then hasb (ps.getD 0 (0, 0)).1 (ps.getD 0 (0, 0)).2 (ps.getD 1 (0, 0)).1 (ps.getD 1 (0, 0)).2 px py else (ringv px py ps != 0)
theorem shok_allok {k : Int} {ps : List (Int × Int)} (h : shok k ps = true) : allok ps = true := by
  cases ha : allok ps
  · rw [shok_no ha] at h; cases h
  · rfl
theorem shok_kind {k : Int} {ps : List (Int × Int)} (h : shok k ps = true) : (k = 0 ∧ ps.length = 1) ∨ (k = 1 ∧ 2 ≤ ps.length ∧ ps.length ≤ 60) ∨ (k = 2 ∧ ps.length = 2) ∨ (k = 3 ∧ 3 ≤ ps.length ∧ ps.length ≤ 60) := by
  unfold shok at h
  split at h
  · rename_i e
    simp only [Bool.and_eq_true, decide_eq_true_eq] at h
    exact .inl ⟨e, h.1⟩
  split at h
  · rename_i e
    simp only [lineb, Bool.and_eq_true, decide_eq_true_eq] at h
    exact .inr (.inl ⟨e, h.1.1.1, h.1.1.2⟩)
  split at h
  · rename_i e
    simp only [rectb, Bool.and_eq_true, decide_eq_true_eq] at h
    exact .inr (.inr (.inl ⟨e, h.1.1⟩))
  split at h
  · rename_i e
    simp only [ringOk, Bool.and_eq_true, decide_eq_true_eq] at h
    exact .inr (.inr (.inr ⟨e, h.1.1.1, h.1.1.2⟩))
  · cases h
end Go.Proofs.YtjafahhoihlliaaGreatDoor
