/- What the turns and sides have of themselves: the same from each point on, whichever side is told first, and boxes that meet where sides do. -/
import Derived.Test.YtmnnbifekbacnaaDoorGeo6
import Derived.Test.YtmnnbifekbacnaaDoorAround
import Derived.Test.YtmnnbifekbacnaaDoorGeo7
import Derived.Test.YtmnnbifekbacnaaDoorGeo8
namespace Go.Proofs.YtmnnbifekbacnaaDoor
open Go.RowKit
theorem cr_rot (ax ay bx bY cx cy : Int) : cr bx bY cx cy ax ay = cr ax ay bx bY cx cy := by
  unfold cr; grind
theorem cr_swap (ax ay bx bY cx cy : Int) : cr bx bY ax ay cx cy = - cr ax ay bx bY cx cy := by
  unfold cr; grind
theorem sg_neg (z : Int) : sg (-z) = - sg z := by
  unfold sg; split <;> split <;> (try split) <;> omega
theorem cr_self (ax ay bx bY : Int) : cr ax ay bx bY ax ay = 0 := by unfold cr; grind
theorem cr_self2 (ax ay bx bY : Int) : cr ax ay bx bY bx bY = 0 := by unfold cr; grind
theorem onb_swap (px py ax ay bx bY : Int) : onb px py bx bY ax ay = onb px py ax ay bx bY := by
  unfold onb
  rw [cr_swap ax ay bx bY px py, Int.min_comm bx ax, Int.min_comm bY ay, Int.max_comm bx ax, Int.max_comm bY ay]
  congr 1
  rw [decide_eq_decide]
  omega
theorem onb_self (ax ay bx bY : Int) : onb ax ay ax ay bx bY = true := by
  unfold onb hasb
  rw [cr_self]
  simp
  omega
theorem onb_self2 (ax ay bx bY : Int) : onb bx bY ax ay bx bY = true := by rw [onb_swap, onb_self]
theorem allok_rot3 (a b c : Int × Int) : allok [b, c, a] = allok [a, b, c] := by
  simp only [allok, List.all_cons, List.all_nil, Bool.and_true]
  cases pok a.1 a.2 <;> cases pok b.1 b.2 <;> cases pok c.1 c.2 <;> rfl
theorem allok_swp3 (a b c : Int × Int) : allok [b, a, c] = allok [a, b, c] := by
  simp only [allok, List.all_cons, List.all_nil, Bool.and_true]
  cases pok a.1 a.2 <;> cases pok b.1 b.2 <;> cases pok c.1 c.2 <;> rfl
theorem tv_rot (ax ay bx bY cx cy : Int) : tv bx bY cx cy ax ay = tv ax ay bx bY cx cy := by
  unfold tv; rw [allok_rot3 (ax, ay) (bx, bY) (cx, cy), cr_rot]
theorem tv_swap (ax ay bx bY cx cy : Int) : tv bx bY ax ay cx cy = - tv ax ay bx bY cx cy := by
  unfold tv; rw [allok_swp3 (ax, ay) (bx, bY) (cx, cy), cr_swap, sg_neg]
  split <;> omega
def onv (px py ax ay bx bY : Int) : Bool := allok [(px, py), (ax, ay), (bx, bY)] && onb px py ax ay bx bY
theorem onv_swap (px py ax ay bx bY : Int) : onv px py bx bY ax ay = onv px py ax ay bx bY := by
  unfold onv; rw [onb_swap]
  congr 1
  simp only [allok, List.all_cons, List.all_nil, Bool.and_true]
  cases pok px py <;> cases pok ax ay <;> cases pok bx bY <;> rfl
theorem onv_zero {px py ax ay bx bY : Int} (h : onv px py ax ay bx bY = true) : tv px py ax ay bx bY = 0 := by
  unfold onv onb at h
  simp only [Bool.and_eq_true, decide_eq_true_eq] at h
  have h2 : cr px py ax ay bx bY = 0 := by rw [← cr_rot]; exact h.2.1
  unfold tv; rw [h2]
  split <;> rfl
theorem onv_self {ax ay bx bY : Int} (h1 : pok ax ay = true) (h2 : pok bx bY = true) : onv ax ay ax ay bx bY = true := by
  unfold onv; rw [onb_self]
  simp [allok, h1, h2]
def smv (ax ay bx bY cx cy dx dy : Int) : Bool := allok [(ax, ay), (bx, bY), (cx, cy), (dx, dy)] && smeet ax ay bx bY cx cy dx dy
theorem crossb_comm (ax ay bx bY cx cy dx dy : Int) : crossb cx cy dx dy ax ay bx bY = crossb ax ay bx bY cx cy dx dy := by
  unfold crossb; rw [Bool.and_comm]
theorem crossb_swap (ax ay bx bY cx cy dx dy : Int) : crossb bx bY ax ay cx cy dx dy = crossb ax ay bx bY cx cy dx dy := by
  unfold crossb
  rw [cr_swap ax ay bx bY cx cy, cr_swap ax ay bx bY dx dy, sg_neg, sg_neg, Int.neg_mul_neg, Int.mul_comm (sg (cr cx cy dx dy bx bY))]
theorem smv_comm (ax ay bx bY cx cy dx dy : Int) : smv cx cy dx dy ax ay bx bY = smv ax ay bx bY cx cy dx dy := by
  unfold smv smeet
  rw [crossb_comm]
  have h : allok [(cx, cy), (dx, dy), (ax, ay), (bx, bY)] = allok [(ax, ay), (bx, bY), (cx, cy), (dx, dy)] := by
    simp only [allok, List.all_cons, List.all_nil, Bool.and_true]
    cases pok ax ay <;> cases pok bx bY <;> cases pok cx cy <;> cases pok dx dy <;> rfl
  rw [h]
  congr 2
  cases onb ax ay cx cy dx dy <;> cases onb bx bY cx cy dx dy <;> cases onb cx cy ax ay bx bY <;> cases onb dx dy ax ay bx bY <;> rfl
theorem smv_swap (ax ay bx bY cx cy dx dy : Int) : smv bx bY ax ay cx cy dx dy = smv ax ay bx bY cx cy dx dy := by
  unfold smv smeet
  rw [crossb_swap, onb_swap cx cy ax ay bx bY, onb_swap dx dy ax ay bx bY]
  have h : allok [(bx, bY), (ax, ay), (cx, cy), (dx, dy)] = allok [(ax, ay), (bx, bY), (cx, cy), (dx, dy)] := by
    simp only [allok, List.all_cons, List.all_nil, Bool.and_true]
    cases pok ax ay <;> cases pok bx bY <;> cases pok cx cy <;> cases pok dx dy <;> rfl
  rw [h]
  congr 2
  cases onb ax ay cx cy dx dy <;> cases onb bx bY cx cy dx dy <;> cases onb cx cy ax ay bx bY <;> cases onb dx dy ax ay bx bY <;> rfl
theorem smv_swap2 (ax ay bx bY cx cy dx dy : Int) : smv ax ay bx bY dx dy cx cy = smv ax ay bx bY cx cy dx dy := by
  rw [smv_comm, smv_swap, smv_comm]
theorem smv_on {ax ay bx bY cx cy dx dy : Int} (h : allok [(ax, ay), (bx, bY), (cx, cy), (dx, dy)] = true) (h2 : onb cx cy ax ay bx bY = true) : smv ax ay bx bY cx cy dx dy = true := by
  unfold smv smeet; rw [h, h2]; simp
theorem smv_self {ax ay bx bY : Int} (h1 : pok ax ay = true) (h2 : pok bx bY = true) : smv ax ay bx bY ax ay bx bY = true := smv_on (by simp [allok, h1, h2]) (onb_self _ _ _ _)
theorem smv_self2 {ax ay bx bY : Int} (h1 : pok ax ay = true) (h2 : pok bx bY = true) : smv ax ay bx bY bx bY bx bY = true := smv_on (by simp [allok, h1, h2]) (onb_self2 _ _ _ _)
theorem smv_self3 {ax ay bx bY : Int} (h1 : pok ax ay = true) (h2 : pok bx bY = true) : smv ax ay ax ay ax ay bx bY = true := smv_on (by simp [allok, h1, h2]) (onb_self _ _ _ _)
theorem sg_neg_iff (x y : Int) (h : sg x * sg y < 0) : (x < 0 ∧ 0 < y) ∨ (0 < x ∧ y < 0) := by
  unfold sg at h
  split at h <;> split at h <;> (try split at h) <;> (try split at h) <;> first | omega | skip
/-- Two weighted means are the same number: the spans that they lie in meet. -/
theorem span_lt {A B C D ax bx cx dx m : Int} (hA : 0 < A) (hB : 0 < B) (hC : 0 < C) (hD : 0 < D) (hs : A + B = C + D) (he : A * bx + B * ax = C * dx + D * cx) (h1 : ax ≤ m) (h2 : bx ≤ m) (h3 : m < cx) (h4 : m < dx) : False := by
  have e1 : A * bx ≤ A * m := Int.mul_le_mul_of_nonneg_left h2 (by omega)
  have e2 : B * ax ≤ B * m := Int.mul_le_mul_of_nonneg_left h1 (by omega)
  have e3 : C * (m + 1) ≤ C * dx := Int.mul_le_mul_of_nonneg_left (by omega) (by omega)
  have e4 : D * (m + 1) ≤ D * cx := Int.mul_le_mul_of_nonneg_left (by omega) (by omega)
  have e5 : A * m + B * m = C * m + D * m := by rw [← Int.add_mul, ← Int.add_mul, hs]
  rw [Int.mul_add] at e3 e4
  omega
theorem cross_id (ax ay bx bY cx cy dx dy : Int) : cr cx cy dx dy ax ay * bx - cr cx cy dx dy bx bY * ax + cr ax ay bx bY cx cy * dx - cr ax ay bx bY dx dy * cx = 0 := by
  unfold cr; grind
theorem cross_idy (ax ay bx bY cx cy dx dy : Int) : cr cx cy dx dy ax ay * bY - cr cx cy dx dy bx bY * ay + cr ax ay bx bY cx cy * dy - cr ax ay bx bY dx dy * cy = 0 := by
  unfold cr; grind
theorem cross_sum (ax ay bx bY cx cy dx dy : Int) : cr cx cy dx dy ax ay - cr cx cy dx dy bx bY + cr ax ay bx bY cx cy - cr ax ay bx bY dx dy = 0 := by
  unfold cr; grind
theorem span_meet {A B C D ax bx cx dx : Int} (hA : 0 < A) (hB : 0 < B) (hC : 0 < C) (hD : 0 < D) (hs : A + B = C + D) (he : A * bx + B * ax = C * dx + D * cx) : min ax bx ≤ max cx dx ∧ min cx dx ≤ max ax bx := by
  constructor
  · refine Int.not_lt.1 fun h => span_lt (m := max cx dx) hC hD hA hB hs.symm he.symm ?_ ?_ ?_ ?_ <;> omega
  · refine Int.not_lt.1 fun h => span_lt (m := max ax bx) hA hB hC hD hs he ?_ ?_ ?_ ?_ <;> omega
theorem cross_meet {ax ay bx bY cx cy dx dy : Int} (h : crossb ax ay bx bY cx cy dx dy = true) : meetb (min ax bx) (min ay bY) (max ax bx) (max ay bY) (min cx dx) (min cy dy) (max cx dx) (max cy dy) = true := by
  unfold crossb at h
  simp only [Bool.and_eq_true, decide_eq_true_eq] at h
  have h1 := sg_neg_iff _ _ h.1
  have h2 := sg_neg_iff _ _ h.2
  have i1 := cross_id ax ay bx bY cx cy dx dy
  have i2 := cross_idy ax ay bx bY cx cy dx dy
  have i3 := cross_sum ax ay bx bY cx cy dx dy
  clear h
  generalize cr cx cy dx dy ax ay = A at *
  generalize cr cx cy dx dy bx bY = B at *
  generalize cr ax ay bx bY cx cy = C at *
  generalize cr ax ay bx bY dx dy = D at *
  have key : ∀ a b c d : Int, A * b - B * a + C * d - D * c = 0 → min a b ≤ max c d ∧ min c d ≤ max a b := by
    intro a b c d e
    rcases h2 with ⟨a1, a2⟩ | ⟨a1, a2⟩
    · have c1 : 0 < C ∧ D < 0 := by omega
      refine span_meet (A := -A) (B := B) (C := C) (D := -D) (by omega) (by omega) (by omega) (by omega) (by omega) ?_
      rw [Int.neg_mul, Int.neg_mul]; omega
    · have c1 : C < 0 ∧ 0 < D := by omega
      refine span_meet (A := A) (B := -B) (C := -C) (D := D) (by omega) (by omega) (by omega) (by omega) (by omega) ?_
      rw [Int.neg_mul, Int.neg_mul]; omega
  have kx := key ax bx cx dx i1
  have ky := key ay bY cy dy i2
  unfold meetb
  simp only [Bool.and_eq_true, decide_eq_true_eq]
  omega
theorem on_meet {ax ay bx bY cx cy dx dy : Int} (h : onb cx cy ax ay bx bY = true) : meetb (min ax bx) (min ay bY) (max ax bx) (max ay bY) (min cx dx) (min cy dy) (max cx dx) (max cy dy) = true := by
  unfold onb hasb at h
  unfold meetb
  simp only [Bool.and_eq_true, decide_eq_true_eq] at h ⊢
  omega
theorem meetb_comm (a b c d e f g h : Int) : meetb e f g h a b c d = meetb a b c d e f g h := by
  unfold meetb
  cases decide (a ≤ g) <;> cases decide (e ≤ c) <;> cases decide (b ≤ h) <;> cases decide (f ≤ d) <;> rfl
theorem smv_meet {ax ay bx bY cx cy dx dy : Int} (h : smv ax ay bx bY cx cy dx dy = true) : meetb (min ax bx) (min ay bY) (max ax bx) (max ay bY) (min cx dx) (min cy dy) (max cx dx) (max cy dy) = true := by
  unfold smv smeet at h
  simp only [Bool.and_eq_true, Bool.or_eq_true] at h
  obtain ⟨_, h | ((h | h) | h) | h⟩ := h
  · exact cross_meet h
  · exact on_meet h
  · have := on_meet (dx := cx) (dy := cy) h
    rwa [Int.min_comm dx cx, Int.min_comm dy cy, Int.max_comm dx cx, Int.max_comm dy cy] at this
  · rw [meetb_comm]; exact on_meet h
  · rw [meetb_comm]
    have := on_meet (dx := ax) (dy := ay) h
    rwa [Int.min_comm bx ax, Int.min_comm bY ay, Int.max_comm bx ax, Int.max_comm bY ay] at this
theorem around2 (ax ay bx bY : Int) (h1 : pok ax ay = true) (h2 : pok bx bY = true) : aok [(ax, ay), (bx, bY)] = true ∧ aX [(ax, ay), (bx, bY)] = min ax bx ∧ aY [(ax, ay), (bx, bY)] = min ay bY ∧ bX [(ax, ay), (bx, bY)] = max ax bx ∧ bY' [(ax, ay), (bx, bY)] = max ay bY := by
  have h : aok [(ax, ay), (bx, bY)] = true := by simp [aok, allok, h1, h2]
  unfold aX aY bX bY'
  rw [if_pos h, if_pos h, if_pos h, if_pos h]
  exact ⟨h, rfl, rfl, rfl, rfl⟩
theorem bok2 {ax ay bx bY : Int} (h1 : pok ax ay = true) (h2 : pok bx bY = true) : bok (min ax bx) (min ay bY) (max ax bx) (max ay bY) = true := by
  unfold pok cok at h1 h2
  unfold bok cok
  simp only [Bool.and_eq_true, decide_eq_true_eq] at h1 h2 ⊢
  omega
theorem aok2 (ax ay bx bY : Int) : aok [(ax, ay), (bx, bY)] = (pok ax ay && pok bx bY) := by simp [aok, allok]
theorem smv_ok {ax ay bx bY cx cy dx dy : Int} (h : smv ax ay bx bY cx cy dx dy = true) : pok ax ay = true ∧ pok bx bY = true ∧ pok cx cy = true ∧ pok dx dy = true := by
  unfold smv at h
  simp only [allok, List.all_cons, List.all_nil, Bool.and_true, Bool.and_eq_true] at h
  exact ⟨h.1.1, h.1.2.1, h.1.2.2.1, h.1.2.2.2⟩
theorem tv_bd (ax ay bx bY cx cy : Int) : -1 ≤ tv ax ay bx bY cx cy ∧ tv ax ay bx bY cx cy ≤ 1 := by
  unfold tv; split
  · exact sg_bd _
  · omega
theorem spec_pointok_b (x y : Int) (w : World) : Calls Tryd.prog 44 #[.agg #[.int .i64 x, .int .i64 y]] w fun e w' => e = .returned (.bool (pok x y)) ∧ Below w.heap.size w w' :=
  (spec_pointok x y w).mono (by rintro e w' ⟨rfl, rfl⟩; exact ⟨rfl, balloc (Below.refl _ _) _⟩)
theorem spec_SM (ax ay bx bY cx cy dx dy : Int) (w : World) : Calls Tryd.prog 32 #[.agg #[.int .i64 ax, .int .i64 ay], .agg #[.int .i64 bx, .int .i64 bY], .agg #[.int .i64 cx, .int .i64 cy], .agg #[.int .i64 dx, .int .i64 dy]] w fun e w' => e = .returned (.bool (smv ax ay bx bY cx cy dx dy)) ∧ Below w.heap.size w w' := spec_SidesMeet ax ay bx bY cx cy dx dy w
theorem sides_law {ax ay bx bY cx cy dx dy : Int} (h : smv ax ay bx bY cx cy dx dy = true) : aok [(ax, ay), (bx, bY)] = true ∧ aok [(cx, cy), (dx, dy)] = true ∧ (bok (aX [(ax, ay), (bx, bY)]) (aY [(ax, ay), (bx, bY)]) (bX [(ax, ay), (bx, bY)]) (bY' [(ax, ay), (bx, bY)]) && bok (aX [(cx, cy), (dx, dy)]) (aY [(cx, cy), (dx, dy)]) (bX [(cx, cy), (dx, dy)]) (bY' [(cx, cy), (dx, dy)]) && meetb (aX [(ax, ay), (bx, bY)]) (aY [(ax, ay), (bx, bY)]) (bX [(ax, ay), (bx, bY)]) (bY' [(ax, ay), (bx, bY)]) (aX [(cx, cy), (dx, dy)]) (aY [(cx, cy), (dx, dy)]) (bX [(cx, cy), (dx, dy)]) (bY' [(cx, cy), (dx, dy)])) = true := by
  obtain ⟨h1, h2, h3, h4⟩ := smv_ok h
  obtain ⟨o1, e1, e2, e3, e4⟩ := around2 ax ay bx bY h1 h2
  obtain ⟨o2, f1, f2, f3, f4⟩ := around2 cx cy dx dy h3 h4
  rw [e1, e2, e3, e4, f1, f2, f3, f4, bok2 h1 h2, bok2 h3 h4, smv_meet h]
  exact ⟨o1, o2, rfl⟩
theorem sides_self {ax ay bx bY : Int} (h : aok [(ax, ay), (bx, bY)] = true) : smv ax ay bx bY ax ay bx bY = true ∧ smv ax ay bx bY bx bY bx bY = true ∧ smv ax ay ax ay ax ay bx bY = true := by
  rw [aok2, Bool.and_eq_true] at h
  exact ⟨smv_self h.1 h.2, smv_self2 h.1 h.2, smv_self3 h.1 h.2⟩
end Go.Proofs.YtmnnbifekbacnaaDoor
