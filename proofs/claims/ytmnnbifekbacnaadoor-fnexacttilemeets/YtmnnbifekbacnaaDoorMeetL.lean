/- For the law on shapes that meet. -/
import Derived.Test.YtmnnbifekbacnaaDoorMeet4
import Derived.Test.YtmnnbifekbacnaaDoorSym
import Derived.Test.YtmnnbifekbacnaaDoorBoxM
import Derived.Test.YtmnnbifekbacnaaDoorShBox
import Derived.Test.YtmnnbifekbacnaaDoorHas4
import Derived.Test.YtmnnbifekbacnaaDoorMeet5
namespace Go.Proofs.YtmnnbifekbacnaaDoor
open Go.RowKit
theorem rowM_iff (p : Sd) (Y : List Sd) : ∀ n, rowM p Y n = true ↔ ∃ j, j < n ∧ meetq p (Y.getD j (0, 0, 0, 0)) = true
  | 0 => by simp [rowM]
  | n + 1 => by
    rw [rowM, Bool.or_eq_true, rowM_iff p Y n]
    constructor
    · rintro (⟨j, hj, h⟩ | h)
      · exact ⟨j, by omega, h⟩
      · exact ⟨n, by omega, h⟩
    · rintro ⟨j, hj, h⟩
      by_cases e : j = n
      · subst e; exact .inr h
      · exact .inl ⟨j, by omega, h⟩
theorem allM_iff (X Y : List Sd) : ∀ n, allM X Y n = true ↔ ∃ i, i < n ∧ ∃ j, j < Y.length ∧ meetq (X.getD i (0, 0, 0, 0)) (Y.getD j (0, 0, 0, 0)) = true
  | 0 => by simp [allM]
  | n + 1 => by
    rw [allM, Bool.or_eq_true, allM_iff X Y n, rowM_iff]
    constructor
    · rintro (⟨j, hj, h⟩ | h)
      · exact ⟨j, by omega, h⟩
      · exact ⟨n, by omega, h⟩
    · rintro ⟨j, hj, h⟩
      by_cases e : j = n
      · subst e; exact .inr h
      · exact .inl ⟨j, by omega, h⟩
theorem smeet_comm (ax ay bx bY cx cy dx dy : Int) : smeet cx cy dx dy ax ay bx bY = smeet ax ay bx bY cx cy dx dy := by
  unfold smeet
  rw [crossb_comm]
  cases crossb ax ay bx bY cx cy dx dy <;> cases onb cx cy ax ay bx bY <;> cases onb dx dy ax ay bx bY <;> cases onb ax ay cx cy dx dy <;> cases onb bx bY cx cy dx dy <;> rfl
theorem meetq_comm (p q : Sd) : meetq q p = meetq p q := smeet_comm _ _ _ _ _ _ _ _
theorem allM_comm (X Y : List Sd) : allM Y X Y.length = allM X Y X.length := by
  rw [Bool.eq_iff_iff, allM_iff, allM_iff]
  constructor <;> (rintro ⟨i, hi, j, hj, h⟩; exact ⟨j, hj, i, hi, by rw [meetq_comm]; exact h⟩)
theorem smP_comm (k1 : Int) (ps : List (Int × Int)) (k2 : Int) (qs : List (Int × Int)) : smP k2 qs k1 ps = smP k1 ps k2 qs := by
  unfold smP
  rw [allM_comm (sdl k1 ps) (sdl k2 qs), Bool.and_comm (shok k2 qs), Bool.or_comm (hasP k2 qs _ _)]
/-- Within the least box around points. -/
def inB (ps : List (Int × Int)) (x y : Int) : Prop := aX ps ≤ x ∧ x ≤ bX ps ∧ aY ps ≤ y ∧ y ≤ bY' ps
theorem inB_at {ps : List (Int × Int)} (h : aok ps = true) (k : Nat) (hk : k < ps.length) : inB ps (ps.getD k (0, 0)).1 (ps.getD k (0, 0)).2 := by
  have := around_has h k hk
  unfold hv hasbx at this
  simp only [Bool.and_eq_true, decide_eq_true_eq] at this
  unfold inB; omega
theorem bok_around {ps : List (Int × Int)} (h : aok ps = true) (hl : 0 < ps.length) : bok (aX ps) (aY ps) (bX ps) (bY' ps) = true := by
  have := around_has h 0 hl
  unfold hv at this
  simp only [Bool.and_eq_true] at this
  exact this.1.1
theorem shok_pos {k : Int} {ps : List (Int × Int)} (hs : shok k ps = true) : 0 < ps.length := by
  rcases shok_kind hs with h | h | h | h <;> omega
theorem aok_of {k : Int} {ps : List (Int × Int)} (hs : shok k ps = true) : aok ps = true := by
  have ha := shok_allok hs
  have l := shok_pos hs
  unfold aok
  rw [ha]
  cases ps with
  | nil => simp at l
  | cons _ _ => rfl
theorem corners_at (x y u v : Int) : (ringSides (corners x y u v)).getD 0 (0, 0, 0, 0) = (x, y, u, y) ∧ (ringSides (corners x y u v)).getD 1 (0, 0, 0, 0) = (u, y, u, v) ∧ (ringSides (corners x y u v)).getD 2 (0, 0, 0, 0) = (u, v, x, v) ∧ (ringSides (corners x y u v)).getD 3 (0, 0, 0, 0) = (x, v, x, y) := by
  refine ⟨rfl, rfl, rfl, ?_⟩
  rw [ringSides_at _ 3 (by unfold corners; simp)]
  have h4 : (3 + 1) % (corners x y u v).length = 0 := by unfold corners; simp
  unfold nxt
  rw [h4]
  rfl
theorem corners_any {P : Sd → Prop} {x y u v : Int} (h0 : P (x, y, u, y)) (h1 : P (u, y, u, v)) (h2 : P (u, v, x, v)) (h3 : P (x, v, x, y)) (j : Nat) (hj : j < (ringSides (corners x y u v)).length) : P ((ringSides (corners x y u v)).getD j (0, 0, 0, 0)) := by
  rw [corners_len] at hj
  obtain ⟨e0, e1, e2, e3⟩ := corners_at x y u v
  match j, hj with
  | 0, _ => rw [e0]; exact h0
  | 1, _ => rw [e1]; exact h1
  | 2, _ => rw [e2]; exact h2
  | 3, _ => rw [e3]; exact h3
theorem nxt_lt (ps : List (Int × Int)) (k : Nat) (h : 0 < ps.length) : (k + 1) % ps.length < ps.length := Nat.mod_lt _ h
theorem sdl_box {k : Int} {ps : List (Int × Int)} (hs : shok k ps = true) (j : Nat) (hj : j < (sdl k ps).length) : inB ps ((sdl k ps).getD j (0, 0, 0, 0)).1 ((sdl k ps).getD j (0, 0, 0, 0)).2.1 ∧ inB ps ((sdl k ps).getD j (0, 0, 0, 0)).2.2.1 ((sdl k ps).getD j (0, 0, 0, 0)).2.2.2 := by
  have ha := aok_of hs
  rcases shok_kind hs with ⟨rfl, hl⟩ | ⟨rfl, hl, hl2⟩ | ⟨rfl, hl⟩ | ⟨rfl, hl, hl2⟩
  · have := inB_at ha 0 (by omega)
    have e : sdl 0 ps = [((ps.getD 0 (0, 0)).1, (ps.getD 0 (0, 0)).2, (ps.getD 0 (0, 0)).1, (ps.getD 0 (0, 0)).2)] := rfl
    rw [e] at hj ⊢
    obtain rfl : j = 0 := by simpa using hj
    exact ⟨this, this⟩
  · have e : sdl 1 ps = alongSides ps := rfl
    rw [e] at hj ⊢
    rw [along_len] at hj
    rw [along_at ps j hj]
    exact ⟨inB_at ha j (by omega), inB_at ha (j + 1) (by omega)⟩
  · obtain ⟨x, y, u, v, rfl⟩ := two_of hl
    have h0 := inB_at ha 0 (by simp)
    have h1 := inB_at ha 1 (by simp)
    simp only [List.getD_cons_zero, List.getD_cons_succ] at h0 h1
    have e : sdl 2 [(x, y), (u, v)] = ringSides (corners x y u v) := rfl
    rw [e] at hj ⊢
    refine corners_any (P := fun q => inB [(x, y), (u, v)] q.1 q.2.1 ∧ inB [(x, y), (u, v)] q.2.2.1 q.2.2.2) ?_ ?_ ?_ ?_ j hj <;> (unfold inB at *; dsimp only; omega)
  · have e : sdl 3 ps = ringSides ps := rfl
    rw [e] at hj ⊢
    rw [ringSides_len] at hj
    rw [ringSides_at ps j hj]
    exact ⟨inB_at ha j hj, inB_at ha _ (nxt_lt ps j (by omega))⟩
theorem onb_in {px py ax ay bx bY : Int} (h : onb px py ax ay bx bY = true) : min ax bx ≤ px ∧ px ≤ max ax bx ∧ min ay bY ≤ py ∧ py ≤ max ay bY := by
  unfold onb hasb at h
  simp only [Bool.and_eq_true, decide_eq_true_eq] at h
  omega
theorem onb_inB {ps : List (Int × Int)} {px py ax ay bx bY : Int} (h : onb px py ax ay bx bY = true) (h1 : inB ps ax ay) (h2 : inB ps bx bY) : inB ps px py := by
  have := onb_in h
  unfold inB at *; omega
theorem cr_split (ax ay bx bY px py : Int) : cr ax ay bx bY px py = (bx - px) * (py - ay) + (ax - px) * (bY - py) := by
  unfold cr; grind
theorem two_pos {a b s t : Int} (ha : 0 < a) (hb : 0 < b) (hs : 0 ≤ s) (ht : 0 < t) : 0 < a * s + b * t := by
  have h1 := Int.mul_nonneg (Int.le_of_lt ha) hs
  have h2 := Int.mul_pos hb ht
  omega
theorem two_neg {a b s t : Int} (ha : a < 0) (hb : b < 0) (hs : 0 ≤ s) (ht : 0 < t) : a * s + b * t < 0 := by
  have h := two_pos (a := -a) (b := -b) (by omega) (by omega) hs ht
  rw [Int.neg_mul, Int.neg_mul] at h
  omega
theorem wayb_left {px py ax ay bx bY : Int} (h1 : px < ax) (h2 : px < bx) : wayb px py ax ay bx bY = (decide (py < ay) != decide (py < bY)) := by
  unfold wayb
  split
  · by_cases c1 : py < ay
    · by_cases c2 : py < bY
      · rw [decide_eq_false (show ¬ bY ≤ py by omega), decide_eq_true c1, decide_eq_true c2]; rfl
      · have := two_pos (a := ax - px) (b := bx - px) (s := py - bY) (t := ay - py) (by omega) (by omega) (by omega) (by omega)
        rw [← cr_split bx bY ax ay px py] at this
        rw [decide_eq_true (show bY ≤ py by omega), decide_eq_true c1, decide_eq_true this, decide_eq_false c2]; rfl
    · rw [decide_eq_false c1, decide_eq_false (show ¬ py < bY by omega)]; simp
  · by_cases c1 : py < ay
    · rw [decide_eq_false (show ¬ ay ≤ py by omega), decide_eq_true c1, decide_eq_true (show py < bY by omega)]; rfl
    · by_cases c2 : py < bY
      · have := two_pos (a := bx - px) (b := ax - px) (s := py - ay) (t := bY - py) (by omega) (by omega) (by omega) (by omega)
        rw [← cr_split ax ay bx bY px py] at this
        rw [decide_eq_true (show ay ≤ py by omega), decide_eq_true c2, decide_eq_true this, decide_eq_false c1]; rfl
      · rw [decide_eq_false c1, decide_eq_false c2]; simp
theorem wayb_right {px py ax ay bx bY : Int} (h1 : ax < px) (h2 : bx < px) : wayb px py ax ay bx bY = false := by
  rw [Bool.eq_false_iff]
  intro h
  unfold wayb at h
  split at h
  · simp only [Bool.and_eq_true, decide_eq_true_eq] at h
    have := two_neg (a := ax - px) (b := bx - px) (s := py - bY) (t := ay - py) (by omega) (by omega) (by omega) (by omega)
    rw [← cr_split bx bY ax ay px py] at this
    omega
  · simp only [Bool.and_eq_true, decide_eq_true_eq] at h
    have := two_neg (a := bx - px) (b := ax - px) (s := py - ay) (t := bY - py) (by omega) (by omega) (by omega) (by omega)
    rw [← cr_split ax ay bx bY px py] at this
    omega
theorem wayb_span {px py ax ay bx bY : Int} (h : wayb px py ax ay bx bY = true) : min ay bY ≤ py ∧ py ≤ max ay bY := by
  unfold wayb at h
  split at h <;> (simp only [Bool.and_eq_true, decide_eq_true_eq] at h; omega)
theorem odd_none {px py : Int} {ps : List (Int × Int)} (h : ∀ k, k < ps.length → sideCr px py ps k = false) : ∀ k, k ≤ ps.length → oddTo px py ps k = false
  | 0, _ => rfl
  | k + 1, hk => by rw [oddTo, odd_none h k (by omega), h k (by omega)]; rfl
def abv (py : Int) (ps : List (Int × Int)) (k : Nat) : Bool := decide (py < (ps.getD k (0, 0)).2)
theorem cr_abv {px py : Int} {ps : List (Int × Int)} (h : ∀ k, k < ps.length → px < (ps.getD k (0, 0)).1) (k : Nat) (hk : k < ps.length) : sideCr px py ps k = (abv py ps k != abv py ps ((k + 1) % ps.length)) :=
  wayb_left (h k hk) (h _ (nxt_lt ps k (by omega)))
theorem odd_left {px py : Int} {ps : List (Int × Int)} (h : ∀ k, k < ps.length → px < (ps.getD k (0, 0)).1) : ∀ k, k < ps.length → oddTo px py ps k = (abv py ps 0 != abv py ps k)
  | 0, _ => by simp [oddTo]
  | k + 1, hk => by
    rw [oddTo, odd_left h k (by omega), cr_abv h k (by omega), Nat.mod_eq_of_lt hk]
    cases abv py ps 0 <;> cases abv py ps k <;> cases abv py ps (k + 1) <;> rfl
theorem odd_round {px py : Int} {ps : List (Int × Int)} (h : ∀ k, k < ps.length → px < (ps.getD k (0, 0)).1) : oddTo px py ps ps.length = false := by
  cases hn : ps.length with
  | zero => rfl
  | succ n =>
    rw [oddTo, odd_left h n (by omega), cr_abv h n (by omega), hn, Nat.mod_self]
    cases abv py ps 0 <;> cases abv py ps n <;> rfl
theorem ring_inB {px py : Int} {ps : List (Int × Int)} (ha : aok ps = true) (hl : 0 < ps.length) (h : ringv px py ps ≠ 0) : inB ps px py := by
  have hat : ∀ k, k < ps.length → inB ps (ps.getD k (0, 0)).1 (ps.getD k (0, 0)).2 := fun k hk => inB_at ha k hk
  have hnx : ∀ k, inB ps (nxt ps k).1 (nxt ps k).2 := fun k => inB_at ha _ (nxt_lt ps k hl)
  unfold ringv at h
  split at h
  · rename_i hon
    rw [List.any_eq_true] at hon
    obtain ⟨k, hk, hon⟩ := hon
    exact onb_inB hon (hat k (by simpa using hk)) (hnx k)
  · have ho : oddTo px py ps ps.length = true := by
      cases e : oddTo px py ps ps.length
      · rw [e] at h; exact absurd rfl h
      · rfl
    have no : ∀ (P : Prop), ¬ P → (P ∨ oddTo px py ps ps.length = false) → False := by
      rintro P hP (hp | hp)
      · exact hP hp
      · rw [hp] at ho; cases ho
    refine ⟨?_, ?_, ?_, ?_⟩
    · refine Int.not_lt.1 fun hlt => ?_
      rw [odd_round (fun k hk => by have := hat k hk; unfold inB at this; omega)] at ho
      cases ho
    · refine Int.not_lt.1 fun hlt => ?_
      rw [odd_none (fun k hk => wayb_right (by have := hat k hk; unfold inB at this; omega) (by have := hnx k; unfold inB at this; omega)) _ (Nat.le_refl _)] at ho
      cases ho
    · refine Int.not_lt.1 fun hlt => ?_
      rw [odd_none (fun k hk => by
        rw [Bool.eq_false_iff]; intro hw
        have := wayb_span hw
        have h1 := hat k hk
        have h2 := hnx k
        unfold inB at h1 h2; omega) _ (Nat.le_refl _)] at ho
      cases ho
    · refine Int.not_lt.1 fun hlt => ?_
      rw [odd_none (fun k hk => by
        rw [Bool.eq_false_iff]; intro hw
        have := wayb_span hw
        have h1 := hat k hk
        have h2 := hnx k
        unfold inB at h1 h2; omega) _ (Nat.le_refl _)] at ho
      cases ho
theorem any_iff (px py : Int) (qs : List Sd) : ∀ n, anyOn px py qs n = true ↔ ∃ k, k < n ∧ onb px py (qs.getD k (0, 0, 0, 0)).1 (qs.getD k (0, 0, 0, 0)).2.1 (qs.getD k (0, 0, 0, 0)).2.2.1 (qs.getD k (0, 0, 0, 0)).2.2.2 = true
  | 0 => by simp [anyOn]
  | n + 1 => by
    rw [anyOn, Bool.or_eq_true, any_iff px py qs n]
    constructor
    · rintro (⟨j, hj, h⟩ | h)
      · exact ⟨j, by omega, h⟩
      · exact ⟨n, by omega, h⟩
    · rintro ⟨j, hj, h⟩
      by_cases e : j = n
      · subst e; exact .inr h
      · exact .inl ⟨j, by omega, h⟩
theorem rect_of {x y u v : Int} (h : shok 2 [(x, y), (u, v)] = true) : x ≤ u ∧ y ≤ v := by
  have h' : (rectb [(x, y), (u, v)] && allok [(x, y), (u, v)]) = true := h
  rw [Bool.and_eq_true] at h'
  have h2 := h'.1
  unfold rectb at h2
  simp only [Bool.and_eq_true, decide_eq_true_eq, List.getD_cons_zero, List.getD_cons_succ] at h2
  omega
/-- What a shape has lies in its box. -/
theorem hasP_inB {k px py : Int} {ps : List (Int × Int)} (hs : shok k ps = true) (h : hasP k ps px py = true) : inB ps px py := by
  have ha := aok_of hs
  rcases shok_kind hs with ⟨rfl, hl⟩ | ⟨rfl, hl, hl2⟩ | ⟨rfl, hl⟩ | ⟨rfl, hl, hl2⟩
  · obtain ⟨x, y, rfl⟩ := one_of hl
    have h0 := inB_at ha 0 (by simp)
    have h' : (x == px && y == py) = true := h
    simp only [Bool.and_eq_true, beq_iff_eq] at h'
    rw [← h'.1, ← h'.2]; exact h0
  · have h' : anyOn px py (alongSides ps) (alongSides ps).length = true := h
    obtain ⟨j, hj, ho⟩ := (any_iff _ _ _ _).1 h'
    have := sdl_box hs j hj
    exact onb_inB ho this.1 this.2
  · obtain ⟨x, y, u, v, rfl⟩ := two_of hl
    have h0 := inB_at ha 0 (by simp)
    have h1 := inB_at ha 1 (by simp)
    have h' : hasb x y u v px py = true := h
    unfold hasb at h'
    simp only [Bool.and_eq_true, decide_eq_true_eq] at h'
    simp only [List.getD_cons_zero, List.getD_cons_succ] at h0 h1
    unfold inB at *; omega
  · have h' : (ringv px py ps != 0) = true := h
    exact ring_inB ha (by omega) (by simpa using h')
theorem meet_box {ax ay bx bY cx cy dx dy : Int} (h : smeet ax ay bx bY cx cy dx dy = true) (h1 : In ax ∧ In ay ∧ In bx ∧ In bY) (h2 : In cx ∧ In cy ∧ In dx ∧ In dy) : meetb (min ax bx) (min ay bY) (max ax bx) (max ay bY) (min cx dx) (min cy dy) (max cx dx) (max cy dy) = true := by
  refine smv_meet ?_
  unfold smv
  rw [h]
  unfold In at h1 h2
  simp only [allok, pok, cok, List.all_cons, List.all_nil, Bool.and_true, Bool.and_eq_true, decide_eq_true_eq]
  omega
/-- Shapes that meet have boxes that meet. -/
theorem smP_box {k1 k2 : Int} {ps qs : List (Int × Int)} (h : smP k1 ps k2 qs = true) : shok k1 ps = true ∧ shok k2 qs = true ∧ mv (aX ps) (aY ps) (bX ps) (bY' ps) (aX qs) (aY qs) (bX qs) (bY' qs) = true := by
  unfold smP at h
  simp only [Bool.and_eq_true, Bool.or_eq_true] at h
  obtain ⟨⟨h1, h2⟩, h⟩ := h
  have a1 := aok_of h1
  have a2 := aok_of h2
  refine ⟨h1, h2, ?_⟩
  unfold mv
  rw [bok_around a1 (shok_pos h1), bok_around a2 (shok_pos h2)]
  have fin : ∀ x y, inB ps x y → inB qs x y → (true && true && meetb (aX ps) (aY ps) (bX ps) (bY' ps) (aX qs) (aY qs) (bX qs) (bY' qs)) = true := by
    intro x y i1 i2
    unfold inB at i1 i2
    unfold meetb
    simp only [Bool.true_and, Bool.and_eq_true, decide_eq_true_eq]
    omega
  rcases h with h | h | h
  · obtain ⟨i, hi, j, hj, hm⟩ := (allM_iff _ _ _).1 h
    obtain ⟨b1, b2⟩ := sdl_box h1 i hi
    obtain ⟨b3, b4⟩ := sdl_box h2 j hj
    have hb := meet_box hm (sdl_in h1 i hi) (sdl_in h2 j hj)
    unfold meetb at hb ⊢
    unfold inB at b1 b2 b3 b4
    simp only [Bool.true_and, Bool.and_eq_true, decide_eq_true_eq] at hb ⊢
    omega
  · exact fin _ _ (hasP_inB h1 h) (inB_at a2 0 (shok_pos h2))
  · exact fin _ _ (inB_at a1 0 (shok_pos h1)) (hasP_inB h2 h)
theorem onb_pt {px py qx qy : Int} (h : onb px py qx qy qx qy = true) : px = qx ∧ py = qy := by
  have := onb_in h; omega
theorem sg_sq (z : Int) : ¬ sg z * sg z < 0 := by
  unfold sg; split
  · decide
  · split <;> decide
theorem meet_pt {ax ay bx bY px py : Int} (h : smeet ax ay bx bY px py px py = true) : onb px py ax ay bx bY = true := by
  unfold smeet crossb at h
  rw [decide_eq_false (sg_sq _)] at h
  simp only [Bool.false_and, Bool.false_or, Bool.or_eq_true] at h
  rcases h with ((h | h) | h) | h
  · exact h
  · exact h
  · obtain ⟨e1, e2⟩ := onb_pt h
    rw [← e1, ← e2]; exact onb_self _ _ _ _
  · obtain ⟨e1, e2⟩ := onb_pt h
    rw [← e1, ← e2]; exact onb_self2 _ _ _ _
/-- What is on a side of a shape the shape has. -/
theorem sd_has {k px py : Int} {ps : List (Int × Int)} (hs : shok k ps = true) (j : Nat) (hj : j < (sdl k ps).length) (h : onb px py ((sdl k ps).getD j (0, 0, 0, 0)).1 ((sdl k ps).getD j (0, 0, 0, 0)).2.1 ((sdl k ps).getD j (0, 0, 0, 0)).2.2.1 ((sdl k ps).getD j (0, 0, 0, 0)).2.2.2 = true) : hasP k ps px py = true := by
  rcases shok_kind hs with ⟨rfl, hl⟩ | ⟨rfl, hl, hl2⟩ | ⟨rfl, hl⟩ | ⟨rfl, hl, hl2⟩
  · obtain ⟨x, y, rfl⟩ := one_of hl
    have e : sdl 0 [(x, y)] = [(x, y, x, y)] := rfl
    rw [e] at hj h
    obtain rfl : j = 0 := by simpa using hj
    obtain ⟨e1, e2⟩ := onb_pt h
    show (x == px && y == py) = true
    rw [e1, e2]; simp
  · exact (any_iff _ _ _ _).2 ⟨j, hj, h⟩
  · obtain ⟨x, y, u, v, rfl⟩ := two_of hl
    have hr := rect_of hs
    have e : sdl 2 [(x, y), (u, v)] = ringSides (corners x y u v) := rfl
    rw [e] at hj h
    show hasb x y u v px py = true
    revert h
    refine corners_any (P := fun q => onb px py q.1 q.2.1 q.2.2.1 q.2.2.2 = true → hasb x y u v px py = true) ?_ ?_ ?_ ?_ j hj <;>
      (intro h; have := onb_in h; dsimp only at this; unfold hasb; simp only [Bool.and_eq_true, decide_eq_true_eq]; omega)
  · have e : sdl 3 ps = ringSides ps := rfl
    rw [e] at hj h
    rw [ringSides_len] at hj
    rw [ringSides_at ps j hj] at h
    show (ringv px py ps != 0) = true
    rw [ringv_on hj h]; rfl
/-- A shape has its own points. -/
theorem own_has {k : Int} {ps : List (Int × Int)} (hs : shok k ps = true) (i : Nat) (hi : i < ps.length) : hasP k ps (ps.getD i (0, 0)).1 (ps.getD i (0, 0)).2 = true := by
  rcases shok_kind hs with ⟨rfl, hl⟩ | ⟨rfl, hl, hl2⟩ | ⟨rfl, hl⟩ | ⟨rfl, hl, hl2⟩
  · obtain rfl : i = 0 := by omega
    refine sd_has hs 0 (by simp [sdl]) ?_
    exact onb_self _ _ _ _
  · have e : sdl 1 ps = alongSides ps := rfl
    by_cases hlt : i < ps.length - 1
    · refine sd_has hs i (by rw [e, along_len]; exact hlt) ?_
      rw [e, along_at ps i hlt]
      exact onb_self _ _ _ _
    · refine sd_has hs (i - 1) (by rw [e, along_len]; omega) ?_
      rw [e, along_at ps (i - 1) (by omega), show i - 1 + 1 = i by omega]
      exact onb_self2 _ _ _ _
  · obtain ⟨x, y, u, v, rfl⟩ := two_of hl
    have hr := rect_of hs
    show hasb x y u v _ _ = true
    unfold hasb
    match i, hi with
    | 0, _ => simp only [List.getD_cons_zero, Bool.and_eq_true, decide_eq_true_eq]; omega
    | 1, _ => simp only [List.getD_cons_zero, List.getD_cons_succ, Bool.and_eq_true, decide_eq_true_eq]; omega
  · have e : sdl 3 ps = ringSides ps := rfl
    refine sd_has hs i (by rw [e, ringSides_len]; exact hi) ?_
    rw [e, ringSides_at ps i hi]
    exact onb_self _ _ _ _
theorem shok_pt (px py : Int) : shok 0 [(px, py)] = pok px py := by
  show (decide ([(px, py)].length = 1) && allok [(px, py)]) = pok px py
  simp [allok]
/-- A shape has a point just where it meets it. -/
theorem has_meet (k px py : Int) (ps : List (Int × Int)) : smP k ps 0 [(px, py)] = (pok px py && shok k ps && hasP k ps px py) := by
  unfold smP
  rw [shok_pt]
  cases hs : shok k ps
  · simp
  cases hp : pok px py
  · simp
  rw [Bool.true_and, Bool.true_and]
  rw [Bool.eq_iff_iff, Bool.or_eq_true, Bool.or_eq_true, allM_iff]
  have e : sdl 0 [(px, py)] = [(px, py, px, py)] := rfl
  rw [e]
  constructor
  · rintro (⟨i, hi, j, hj, h⟩ | h | h)
    · obtain rfl : j = 0 := by simpa using hj
      exact sd_has hs i hi (meet_pt h)
    · exact h
    · have h' : (px == (ps.getD 0 (0, 0)).1 && py == (ps.getD 0 (0, 0)).2) = true := h
      simp only [Bool.and_eq_true, beq_iff_eq] at h'
      rw [h'.1, h'.2]
      exact own_has hs 0 (shok_pos hs)
  · exact fun h => .inr (.inl h)
theorem meetq_self (q : Sd) : meetq q q = true := by
  unfold meetq smeet
  rw [onb_self]; simp
theorem smP_self {k : Int} {ps : List (Int × Int)} (hs : shok k ps = true) : smP k ps k ps = true := by
  have hl := (sdl_len hs).1
  unfold smP
  rw [hs, (allM_iff (sdl k ps) (sdl k ps) (sdl k ps).length).2 ⟨0, hl, 0, hl, meetq_self _⟩]
  rfl
theorem own_in {k : Int} {ps : List (Int × Int)} (hs : shok k ps = true) : hasv (aX ps) (aY ps) (bX ps) (bY' ps) (aX ps) (aY ps) (bX ps) (bY' ps) = true := by
  unfold hasv hasbx
  rw [bok_around (aok_of hs) (shok_pos hs)]
  simp
theorem ok_aok (k : Int) (ps : List (Int × Int)) : (shok k ps && aok ps) = shok k ps := by
  cases h : shok k ps
  · rfl
  · rw [aok_of h]; rfl
theorem sv_ok {f : List (Int × Int) → Int} {k : Int} {ps : List (Int × Int)} (h : shok k ps = true) : sv f k ps = f ps := by unfold sv; rw [h]; rfl
theorem box_law {k1 k2 : Int} {ps qs : List (Int × Int)} (h : smP k1 ps k2 qs = true) : shok k1 ps = true ∧ shok k2 qs = true ∧ mv (sv aX k1 ps) (sv aY k1 ps) (sv bX k1 ps) (sv bY' k1 ps) (sv aX k2 qs) (sv aY k2 qs) (sv bX k2 qs) (sv bY' k2 qs) = true := by
  obtain ⟨h1, h2, h3⟩ := smP_box h
  refine ⟨h1, h2, ?_⟩
  rw [sv_ok h1, sv_ok h1, sv_ok h1, sv_ok h1, sv_ok h2, sv_ok h2, sv_ok h2, sv_ok h2]
  exact h3
theorem own_law {k : Int} {ps : List (Int × Int)} (h : shok k ps = true) : smP k ps k ps = true ∧ (true && aok ps && hasv (sv aX k ps) (sv aY k ps) (sv bX k ps) (sv bY' k ps) (sv aX k ps) (sv aY k ps) (sv bX k ps) (sv bY' k ps)) = true := by
  refine ⟨smP_self h, ?_⟩
  rw [sv_ok h, sv_ok h, sv_ok h, sv_ok h, own_in h, aok_of h]; rfl
end Go.Proofs.YtmnnbifekbacnaaDoor
