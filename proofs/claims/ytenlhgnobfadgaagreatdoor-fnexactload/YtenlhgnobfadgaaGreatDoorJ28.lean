/- Texts of stores, joined: AreaM. -/
import Derived.Test.YtenlhgnobfadgaaGreatDoorJ16
set_option linter.unusedSimpArgs false
set_option linter.unusedVariables false
namespace Go.Proofs.YtenlhgnobfadgaaGreatDoor
open Go.RowKit
/-- The first i of a list that is told by its numbers. -/
def tk (f : Nat → Int × Int) (i : Nat) : List (Int × Int) := (List.range i).map f
theorem tk_next (f : Nat → Int × Int) (i : Nat) : tk f (i + 1) = tk f i ++ [f i] := by simp [tk, List.range_succ]
theorem tk_len (f : Nat → Int × Int) (i : Nat) : (tk f i).length = i := by simp [tk]
theorem tk_getD (f : Nat → Int × Int) (i k : Nat) (h : k < i) : (tk f i).getD k (0, 0) = f k := by simp [tk, h]
def fR (ps : List (Int × Int)) (j : Nat) : Int × Int := ps.getD (ps.length - 1 - j) (0, 0)
def fM (ps : List (Int × Int)) (dx dy : Int) (j : Nat) : Int × Int := ((ps.getD j (0, 0)).1 + dx, (ps.getD j (0, 0)).2 + dy)
def fN (ps : List (Int × Int)) (j : Nat) : Int × Int := ps.getD ((j + 1) % ps.length) (0, 0)
def eight (P : List (Int × Int) → Prop) : Prop := P [] ∧ (∀ a, P [a]) ∧ (∀ a b, P [a, b]) ∧ (∀ a b c, P [a, b, c]) ∧ (∀ a b c d, P [a, b, c, d]) ∧ (∀ a b c d e, P [a, b, c, d, e]) ∧ (∀ a b c d e f, P [a, b, c, d, e, f]) ∧ (∀ a b c d e f g, P [a, b, c, d, e, f, g]) ∧ (∀ a b c d e f g h, P [a, b, c, d, e, f, g, h])
theorem of_eight {P : List (Int × Int) → Prop} (h : eight P) (ps : List (Int × Int)) (hl : ps.length ≤ 8) : P ps := by
  obtain ⟨h0, h1, h2, h3, h4, h5, h6, h7, h8⟩ := h
  match ps, hl with
  | [], _ => exact h0
  | [a], _ => exact h1 a
  | [a, b], _ => exact h2 a b
  | [a, b, c], _ => exact h3 a b c
  | [a, b, c, d], _ => exact h4 a b c d
  | [a, b, c, d, e], _ => exact h5 a b c d e
  | [a, b, c, d, e, f], _ => exact h6 a b c d e f
  | [a, b, c, d, e, f, g], _ => exact h7 a b c d e f g
  | [a, b, c, d, e, f, g, h], _ => exact h8 a b c d e f g h
  | a :: b :: c :: d :: e :: f :: g :: h :: i :: r, hl => simp at hl
theorem area_rev (ps : List (Int × Int)) (hl : ps.length ≤ 8) : areaTo (tk (fR ps) ps.length) ps.length = - areaTo ps ps.length := by
  refine of_eight (P := fun ps => areaTo (tk (fR ps) ps.length) ps.length = - areaTo ps ps.length) ?_ ps hl
  refine ⟨?_, ?_, ?_, ?_, ?_, ?_, ?_, ?_, ?_⟩ <;> intros <;> simp [tk, fR, areaTo, nxt, List.range, List.range.loop] <;> grind
theorem area_mov (ps : List (Int × Int)) (dx dy : Int) (hl : ps.length ≤ 8) : areaTo (tk (fM ps dx dy) ps.length) ps.length = areaTo ps ps.length := by
  refine of_eight (P := fun ps => areaTo (tk (fM ps dx dy) ps.length) ps.length = areaTo ps ps.length) ?_ ps hl
  refine ⟨?_, ?_, ?_, ?_, ?_, ?_, ?_, ?_, ?_⟩ <;> intros <;> simp [tk, fM, areaTo, nxt, List.range, List.range.loop] <;> grind
theorem area_nxt (ps : List (Int × Int)) (hl : ps.length ≤ 8) : areaTo (tk (fN ps) ps.length) ps.length = areaTo ps ps.length := by
  refine of_eight (P := fun ps => areaTo (tk (fN ps) ps.length) ps.length = areaTo ps ps.length) ?_ ps hl
  refine ⟨?_, ?_, ?_, ?_, ?_, ?_, ?_, ?_, ?_⟩ <;> intros <;> simp [tk, fN, areaTo, nxt, List.range, List.range.loop] <;> grind
theorem pok_at {ps : List (Int × Int)} (h : allok ps = true) (k : Nat) (hk : k < ps.length) : pok (ps.getD k (0, 0)).1 (ps.getD k (0, 0)).2 = true := by
  rw [allok, List.all_eq_true] at h
  refine h _ ?_
  rw [List.getD_eq_getElem?_getD, List.getElem?_eq_getElem hk]
  exact List.getElem_mem hk
theorem area_of (f : Nat → Int × Int) (n : Nat) (hn : n ≤ 1000) (h : ∀ j, j < n → pok (f j).1 (f j).2 = true) : area2 (tk f n) = areaTo (tk f n) n := by
  have ha : allok (tk f n) = true := by
    refine allok_yes _ fun j hj => ?_
    rw [tk_len] at hj
    rw [tk_getD f n j hj]
    exact h j hj
  unfold area2
  rw [tk_len, if_pos ⟨hn, ha⟩]
theorem area_law {ps : List (Int × Int)} (dx dy : Int) (hl : ps.length ≤ 8) (h : ∀ j, j < ps.length → pok (ps.getD j (0, 0)).1 (ps.getD j (0, 0)).2 = true) (hm : ∀ j, j < ps.length → pok (fM ps dx dy j).1 (fM ps dx dy j).2 = true) :
    area2 (tk (fR ps) ps.length) = - area2 ps ∧ area2 (tk (fM ps dx dy) ps.length) = area2 ps ∧ area2 (tk (fN ps) ps.length) = area2 ps := by
  have h0 : area2 ps = areaTo ps ps.length := by
    unfold area2; rw [if_pos ⟨by omega, allok_yes _ h⟩]
  rw [h0, area_of (fR ps) _ (by omega) (fun j hj => h _ (by omega)), area_of (fM ps dx dy) _ (by omega) hm, area_of (fN ps) _ (by omega) (fun j hj => h _ (Nat.mod_lt _ (by omega)))]
  exact ⟨area_rev ps hl, area_mov ps dx dy hl, area_nxt ps hl⟩
theorem area2_bd (ps : List (Int × Int)) : -7300000000000 ≤ area2 ps ∧ area2 ps ≤ 7300000000000 := by
  unfold area2
  split
  · next h => have := area_bd h.2 ps.length (Nat.le_refl _); omega
  · omega
end Go.Proofs.YtenlhgnobfadgaaGreatDoor
