/- A rectangle and a shape: they meet just where a side comes near the square or the shape has its least corner. -/
import Derived.Test.YtmnnbifekbacnaaDoorMeetL
namespace Go.Proofs.YtmnnbifekbacnaaDoor
set_option linter.unusedVariables false
set_option linter.unusedSimpArgs false
theorem smeet_ends (ax ay bx bY cx cy dx dy : Int) : smeet bx bY ax ay cx cy dx dy = smeet ax ay bx bY cx cy dx dy := by
  unfold smeet
  rw [crossb_swap, onb_swap cx cy, onb_swap dx dy]
  cases crossb ax ay bx bY cx cy dx dy <;> cases onb cx cy ax ay bx bY <;> cases onb dx dy ax ay bx bY <;> cases onb ax ay cx cy dx dy <;> cases onb bx bY cx cy dx dy <;> rfl
/-! ### Mirrored in x, and x and y changed for each other -/
theorem cr_mir (ax ay bx bY cx cy : Int) : cr (-ax) ay (-bx) bY (-cx) cy = - cr ax ay bx bY cx cy := by unfold cr; grind
theorem cr_tr (ax ay bx bY cx cy : Int) : cr ay ax bY bx cy cx = - cr ax ay bx bY cx cy := by unfold cr; grind
theorem onb_mir (px py ax ay bx bY : Int) : onb (-px) py (-ax) ay (-bx) bY = onb px py ax ay bx bY := by
  unfold onb hasb
  rw [cr_mir, Bool.eq_iff_iff]
  simp only [Bool.and_eq_true, decide_eq_true_eq]
  omega
theorem onb_tr (px py ax ay bx bY : Int) : onb py px ay ax bY bx = onb px py ax ay bx bY := by
  unfold onb hasb
  rw [cr_tr, Bool.eq_iff_iff]
  simp only [Bool.and_eq_true, decide_eq_true_eq]
  omega
theorem crossb_mir (ax ay bx bY cx cy dx dy : Int) : crossb (-ax) ay (-bx) bY (-cx) cy (-dx) dy = crossb ax ay bx bY cx cy dx dy := by
  unfold crossb
  rw [cr_mir, cr_mir, cr_mir, cr_mir, sg_neg, sg_neg, sg_neg, sg_neg, Int.neg_mul_neg, Int.neg_mul_neg]
theorem crossb_tr (ax ay bx bY cx cy dx dy : Int) : crossb ay ax bY bx cy cx dy dx = crossb ax ay bx bY cx cy dx dy := by
  unfold crossb
  rw [cr_tr ax ay bx bY cx cy, cr_tr ax ay bx bY dx dy, cr_tr cx cy dx dy ax ay, cr_tr cx cy dx dy bx bY, sg_neg, sg_neg, sg_neg, sg_neg, Int.neg_mul_neg, Int.neg_mul_neg]
theorem smeet_mir (ax ay bx bY cx cy dx dy : Int) : smeet (-ax) ay (-bx) bY (-cx) cy (-dx) dy = smeet ax ay bx bY cx cy dx dy := by
  unfold smeet
  rw [crossb_mir, onb_mir, onb_mir, onb_mir, onb_mir]
theorem smeet_tr (ax ay bx bY cx cy dx dy : Int) : smeet ay ax bY bx cy cx dy dx = smeet ax ay bx bY cx cy dx dy := by
  unfold smeet
  rw [crossb_tr ax ay bx bY cx cy dx dy, onb_tr cx cy ax ay bx bY, onb_tr dx dy ax ay bx bY, onb_tr ax ay cx cy dx dy, onb_tr bx bY cx cy dx dy]
/-- A side meets one of the four edges of a box. -/
def EM (x0 y0 x1 y1 ux uy vx vy : Int) : Prop := smeet x0 y0 x1 y0 ux uy vx vy = true ∨ smeet x1 y0 x1 y1 ux uy vx vy = true ∨ smeet x1 y1 x0 y1 ux uy vx vy = true ∨ smeet x0 y1 x0 y0 ux uy vx vy = true
theorem EM_mir {x0 y0 x1 y1 ux uy vx vy : Int} (h : EM (-x1) y0 (-x0) y1 (-ux) uy (-vx) vy) : EM x0 y0 x1 y1 ux uy vx vy := by
  unfold EM at h ⊢
  rw [smeet_mir, smeet_mir, smeet_mir, smeet_mir] at h
  rcases h with h | h | h | h
  · left; rw [← smeet_ends]; exact h
  · right; right; right; rw [← smeet_ends]; exact h
  · right; right; left; rw [← smeet_ends]; exact h
  · right; left; rw [← smeet_ends]; exact h
theorem EM_tr {x0 y0 x1 y1 ux uy vx vy : Int} (h : EM y0 x0 y1 x1 uy ux vy vx) : EM x0 y0 x1 y1 ux uy vx vy := by
  unfold EM at h ⊢
  rw [smeet_tr x0 y0 x0 y1 ux uy vx vy, smeet_tr x0 y1 x1 y1 ux uy vx vy, smeet_tr x1 y1 x1 y0 ux uy vx vy, smeet_tr x1 y0 x0 y0 ux uy vx vy] at h
  rcases h with h | h | h | h
  · right; right; right; rw [← smeet_ends]; exact h
  · right; right; left; rw [← smeet_ends]; exact h
  · right; left; rw [← smeet_ends]; exact h
  · left; rw [← smeet_ends]; exact h
theorem EM_ends {x0 y0 x1 y1 ux uy vx vy : Int} (h : EM x0 y0 x1 y1 vx vy ux uy) : EM x0 y0 x1 y1 ux uy vx vy := by
  have e : ∀ a b c d, smeet a b c d vx vy ux uy = smeet a b c d ux uy vx vy := by
    intro a b c d
    unfold smeet crossb
    rw [onb_swap a b, onb_swap c d, cr_swap ux uy vx vy a b, cr_swap ux uy vx vy c d, sg_neg, sg_neg, Int.neg_mul_neg, Int.mul_comm (sg (cr a b c d vx vy))]
    cases onb ux uy a b c d <;> cases onb vx vy a b c d <;> simp
  unfold EM at h ⊢
  rw [e, e, e, e] at h
  exact h
theorem pos_of {A z : Int} (hA : 0 < A) (h : 0 < A * z) : 0 < z := by
  rcases Int.lt_or_le 0 z with h' | h'
  · exact h'
  · have := Int.mul_nonpos_of_nonneg_of_nonpos (Int.le_of_lt hA) h'; omega
theorem neg_of {A z : Int} (hA : 0 < A) (h : A * z < 0) : z < 0 := by
  rcases Int.lt_or_le z 0 with h' | h'
  · exact h'
  · have := Int.mul_nonneg (Int.le_of_lt hA) h'; omega
theorem cross_mk {ax ay bx bY cx cy dx dy : Int} (h1 : (cr ax ay bx bY cx cy < 0 ∧ 0 < cr ax ay bx bY dx dy) ∨ (0 < cr ax ay bx bY cx cy ∧ cr ax ay bx bY dx dy < 0)) (h2 : (cr cx cy dx dy ax ay < 0 ∧ 0 < cr cx cy dx dy bx bY) ∨ (0 < cr cx cy dx dy ax ay ∧ cr cx cy dx dy bx bY < 0)) : smeet ax ay bx bY cx cy dx dy = true := by
  have key : ∀ x y : Int, (x < 0 ∧ 0 < y) ∨ (0 < x ∧ y < 0) → sg x * sg y < 0 := by
    intro x y h
    unfold sg
    rcases h with ⟨h, h'⟩ | ⟨h, h'⟩
    · rw [if_pos h, if_neg (by omega), if_pos h']; decide
    · rw [if_neg (by omega), if_pos h, if_pos h']; decide
  unfold smeet crossb
  rw [decide_eq_true (key _ _ h1), decide_eq_true (key _ _ h2)]; rfl
theorem on_mk {px py ax ay bx bY : Int} (h : cr ax ay bx bY px py = 0) (h1 : min ax bx ≤ px) (h2 : px ≤ max ax bx) (h3 : min ay bY ≤ py) (h4 : py ≤ max ay bY) : onb px py ax ay bx bY = true := by
  unfold onb hasb
  simp only [Bool.and_eq_true, decide_eq_true_eq]
  exact ⟨h, ⟨⟨h1, h2⟩, h3⟩, h4⟩
theorem meet_a {ax ay bx bY cx cy dx dy : Int} (h : onb ax ay cx cy dx dy = true) : smeet ax ay bx bY cx cy dx dy = true := by unfold smeet; rw [h]; simp
theorem meet_b {ax ay bx bY cx cy dx dy : Int} (h : onb bx bY cx cy dx dy = true) : smeet ax ay bx bY cx cy dx dy = true := by unfold smeet; rw [h]; simp
theorem meet_d {ax ay bx bY cx cy dx dy : Int} (h : onb dx dy ax ay bx bY = true) : smeet ax ay bx bY cx cy dx dy = true := by unfold smeet; rw [h]; simp
/-- A point on the line of a side that goes right, between its ends' x, is on the side. -/
theorem on_x {ux uy vx vy px py : Int} (h : cr ux uy vx vy px py = 0) (h1 : ux < px) (h2 : px ≤ vx) : onb px py ux uy vx vy = true := by
  have hA : 0 < vx - ux := by omega
  have e : (vx - ux) * (py - uy) = (px - ux) * (vy - uy) := by unfold cr at h; omega
  rcases Int.le_total 0 (vy - uy) with hB | hB
  · have u1 : 0 ≤ (px - ux) * (vy - uy) := Int.mul_nonneg (by omega) hB
    have u2 : (px - ux) * (vy - uy) ≤ (vx - ux) * (vy - uy) := Int.mul_le_mul_of_nonneg_right (by omega) hB
    rw [← e] at u1 u2
    have z1 : 0 ≤ py - uy := Int.le_of_mul_le_mul_left (by rw [Int.mul_zero]; exact u1) hA
    have z2 : py - uy ≤ vy - uy := Int.le_of_mul_le_mul_left u2 hA
    exact on_mk h (by omega) (by omega) (by omega) (by omega)
  · have u1 : (px - ux) * (vy - uy) ≤ 0 := Int.mul_nonpos_of_nonneg_of_nonpos (by omega) hB
    have u2 : (vx - ux) * (vy - uy) ≤ (px - ux) * (vy - uy) := Int.mul_le_mul_of_nonpos_right (by omega) hB
    rw [← e] at u1 u2
    have z1 : py - uy ≤ 0 := Int.le_of_mul_le_mul_left (by rw [Int.mul_zero]; exact u1) hA
    have z2 : vy - uy ≤ py - uy := Int.le_of_mul_le_mul_left u2 hA
    exact on_mk h (by omega) (by omega) (by omega) (by omega)
/-- The side begins left of the box, and the line goes through the left edge. -/
theorem left_edge {x0 y0 y1 ux uy vx vy : Int} (hy : y0 ≤ y1) (h1 : ux < x0) (h2 : x0 ≤ vx) (d1 : cr ux uy vx vy x0 y0 ≤ 0) (d4 : 0 ≤ cr ux uy vx vy x0 y1) : smeet x0 y1 x0 y0 ux uy vx vy = true := by
  rcases Int.lt_or_eq_of_le d1 with d1' | d1'
  · rcases Int.lt_or_eq_of_le d4 with d4' | d4'
    · rcases Int.lt_or_eq_of_le h2 with h2' | h2'
      · have hyy : y0 < y1 := by
          rcases Int.lt_or_eq_of_le hy with h | h
          · exact h
          · subst h; omega
        refine cross_mk (.inl ⟨?_, ?_⟩) (.inr ⟨d4', d1'⟩)
        · have : cr x0 y1 x0 y0 ux uy = -((x0 - ux) * (y1 - y0)) := by unfold cr; grind
          have := Int.mul_pos (show 0 < x0 - ux by omega) (show 0 < y1 - y0 by omega)
          omega
        · have : cr x0 y1 x0 y0 vx vy = (vx - x0) * (y1 - y0) := by unfold cr; grind
          have := Int.mul_pos (show 0 < vx - x0 by omega) (show 0 < y1 - y0 by omega)
          omega
      · subst h2'
        have e1 : cr ux uy x0 vy x0 y0 = (x0 - ux) * (y0 - vy) := by unfold cr; grind
        have e4 : cr ux uy x0 vy x0 y1 = (x0 - ux) * (y1 - vy) := by unfold cr; grind
        have g1 := neg_of (show 0 < x0 - ux by omega) (by rw [← e1]; exact d1')
        have g4 := pos_of (show 0 < x0 - ux by omega) (by rw [← e4]; exact d4')
        exact meet_d (on_mk (by unfold cr; grind) (by omega) (by omega) (by omega) (by omega))
    · exact meet_a (on_x d4'.symm h1 h2)
  · exact meet_b (on_x d1' h1 h2)
/-- The side begins left of the box, below its lower edge, and the line goes through that edge. -/
theorem low_edge {x0 y0 x1 ux uy vx vy : Int} (hx : x0 ≤ x1) (h1 : ux < x0) (h2 : x0 ≤ vx) (ho : y0 ≤ max uy vy) (d1 : 0 < cr ux uy vx vy x0 y0) (d2 : cr ux uy vx vy x1 y0 ≤ 0) : smeet x0 y0 x1 y0 ux uy vx vy = true := by
  have hA : 0 < vx - ux := by omega
  have e12 : cr ux uy vx vy x0 y0 - cr ux uy vx vy x1 y0 = (x1 - x0) * (vy - uy) := by unfold cr; grind
  have hxx : x0 < x1 := by
    rcases Int.lt_or_eq_of_le hx with h | h
    · exact h
    · subst h; omega
  have hB : 0 < vy - uy := pos_of (show 0 < x1 - x0 by omega) (by omega)
  have e1 : cr ux uy vx vy x0 y0 = (vx - ux) * (y0 - uy) - (x0 - ux) * (vy - uy) := rfl
  have m1 := Int.mul_pos (show 0 < x0 - ux by omega) hB
  have hu : 0 < y0 - uy := pos_of hA (by omega)
  have hv : y0 ≤ vy := by omega
  rcases Int.lt_or_eq_of_le d2 with d2' | d2'
  · rcases Int.lt_or_eq_of_le hv with hv' | hv'
    · refine cross_mk (.inl ⟨?_, ?_⟩) (.inr ⟨d1, d2'⟩)
      · have : cr x0 y0 x1 y0 ux uy = -((x1 - x0) * (y0 - uy)) := by unfold cr; grind
        have := Int.mul_pos (show 0 < x1 - x0 by omega) hu
        omega
      · have : cr x0 y0 x1 y0 vx vy = (x1 - x0) * (vy - y0) := by unfold cr; grind
        have := Int.mul_pos (show 0 < x1 - x0 by omega) (show 0 < vy - y0 by omega)
        omega
    · have e2 : cr ux uy vx vy x1 y0 = (vy - uy) * (vx - x1) := by rw [hv']; unfold cr; grind
      have := neg_of hB (by rw [← e2]; exact d2')
      exact meet_d (on_mk (by rw [hv']; unfold cr; grind) (by omega) (by omega) (by omega) (by omega))
  · have e : (x1 - ux) * (vy - uy) = (vx - ux) * (y0 - uy) := by unfold cr at d2'; omega
    have g : (vy - uy) * (x1 - ux) ≤ (vy - uy) * (vx - ux) := by
      rw [Int.mul_comm, e, Int.mul_comm (vy - uy)]
      exact Int.mul_le_mul_of_nonneg_left (by omega) (by omega)
    have := Int.le_of_mul_le_mul_left g hB
    exact meet_b (on_x d2' (by omega) (by omega))
/-- The four corners are not all to one side of the line of a side. -/
def Parts (x0 y0 x1 y1 ux uy vx vy : Int) : Prop :=
  (cr ux uy vx vy x0 y0 ≤ 0 ∨ cr ux uy vx vy x1 y1 ≤ 0 ∨ cr ux uy vx vy x0 y1 ≤ 0 ∨ cr ux uy vx vy x1 y0 ≤ 0) ∧ (0 ≤ cr ux uy vx vy x0 y0 ∨ 0 ≤ cr ux uy vx vy x1 y1 ∨ 0 ≤ cr ux uy vx vy x0 y1 ∨ 0 ≤ cr ux uy vx vy x1 y0)
theorem Parts_mir {x0 y0 x1 y1 ux uy vx vy : Int} (h : Parts x0 y0 x1 y1 ux uy vx vy) : Parts (-x1) y0 (-x0) y1 (-ux) uy (-vx) vy := by
  unfold Parts at h ⊢
  rw [cr_mir, cr_mir, cr_mir, cr_mir]
  omega
theorem Parts_tr {x0 y0 x1 y1 ux uy vx vy : Int} (h : Parts x0 y0 x1 y1 ux uy vx vy) : Parts y0 x0 y1 x1 uy ux vy vx := by
  unfold Parts at h ⊢
  rw [cr_tr ux uy vx vy x0 y0, cr_tr ux uy vx vy x1 y1, cr_tr ux uy vx vy x1 y0, cr_tr ux uy vx vy x0 y1]
  omega
theorem Parts_ends {x0 y0 x1 y1 ux uy vx vy : Int} (h : Parts x0 y0 x1 y1 ux uy vx vy) : Parts x0 y0 x1 y1 vx vy ux uy := by
  unfold Parts at h ⊢
  rw [cr_swap ux uy vx vy, cr_swap ux uy vx vy, cr_swap ux uy vx vy, cr_swap ux uy vx vy]
  omega
theorem EM_miy {x0 y0 x1 y1 ux uy vx vy : Int} (h : EM x0 (-y1) x1 (-y0) ux (-uy) vx (-vy)) : EM x0 y0 x1 y1 ux uy vx vy := EM_tr (EM_mir (EM_tr h))
theorem cr_miy (ax ay bx bY cx cy : Int) : cr ax (-ay) bx (-bY) cx (-cy) = - cr ax ay bx bY cx cy := by unfold cr; grind
theorem out_left {x0 y0 x1 y1 ux uy vx vy : Int} (hx : x0 ≤ x1) (hy : y0 ≤ y1) (h1 : ux < x0) (h2 : x0 ≤ vx) (o1 : y0 ≤ max uy vy) (o2 : min uy vy ≤ y1) (hp : Parts x0 y0 x1 y1 ux uy vx vy) : EM x0 y0 x1 y1 ux uy vx vy := by
  have hA : 0 < vx - ux := by omega
  have e14 : cr ux uy vx vy x0 y1 - cr ux uy vx vy x0 y0 = (vx - ux) * (y1 - y0) := by unfold cr; grind
  have e23 : cr ux uy vx vy x1 y1 - cr ux uy vx vy x1 y0 = (vx - ux) * (y1 - y0) := by unfold cr; grind
  have hm := Int.mul_nonneg (Int.le_of_lt hA) (show 0 ≤ y1 - y0 by omega)
  unfold Parts at hp
  rcases Int.lt_or_le 0 (cr ux uy vx vy x0 y0) with d1 | d1
  · exact .inl (low_edge hx h1 h2 o1 d1 (by omega))
  · rcases Int.lt_or_le (cr ux uy vx vy x0 y1) 0 with d4 | d4
    · refine EM_miy (.inl (low_edge hx h1 h2 (by omega) ?_ ?_))
      · rw [cr_miy]; omega
      · rw [cr_miy]; omega
    · exact .inr (.inr (.inr (left_edge hy h1 h2 d1 d4)))
/-- A side that begins outside of a box, comes near it, and does not leave all corners to one side meets an edge. -/
theorem out_meets {x0 y0 x1 y1 ux uy vx vy : Int} (hx : x0 ≤ x1) (hy : y0 ≤ y1) (o1 : y0 ≤ max uy vy) (o2 : min uy vy ≤ y1) (o3 : x0 ≤ max ux vx) (o4 : min ux vx ≤ x1) (hp : Parts x0 y0 x1 y1 ux uy vx vy) (ho : ux < x0 ∨ x1 < ux ∨ uy < y0 ∨ y1 < uy) : EM x0 y0 x1 y1 ux uy vx vy := by
  rcases ho with h | h | h | h
  · exact out_left hx hy h (by omega) o1 o2 hp
  · exact EM_mir (out_left (by omega) hy (by omega) (by omega) o1 o2 (Parts_mir hp))
  · exact EM_tr (out_left hy hx h (by omega) o3 o4 (Parts_tr hp))
  · exact EM_tr (EM_mir (out_left (by omega) hx (by omega) (by omega) o3 o4 (Parts_mir (Parts_tr hp))))
/-- A side that begins in a box does not leave all corners to one side. -/
theorem in_parts {x0 y0 x1 y1 ux uy vx vy : Int} (h1 : x0 ≤ ux) (h2 : ux ≤ x1) (h3 : y0 ≤ uy) (h4 : uy ≤ y1) : Parts x0 y0 x1 y1 ux uy vx vy := by
  have p : ∀ a b : Int, 0 ≤ a → 0 ≤ b → 0 ≤ a * b := fun a b ha hb => Int.mul_nonneg ha hb
  have n : ∀ a b : Int, 0 ≤ a → b ≤ 0 → a * b ≤ 0 := fun a b ha hb => Int.mul_nonpos_of_nonneg_of_nonpos ha hb
  have n' : ∀ a b : Int, a ≤ 0 → 0 ≤ b → a * b ≤ 0 := fun a b ha hb => Int.mul_nonpos_of_nonpos_of_nonneg ha hb
  have p' : ∀ a b : Int, a ≤ 0 → b ≤ 0 → 0 ≤ a * b := fun a b ha hb => Int.mul_nonneg_of_nonpos_of_nonpos ha hb
  unfold Parts cr
  rcases Int.le_total 0 (vx - ux) with hA | hA <;> rcases Int.le_total 0 (vy - uy) with hB | hB
  · have a1 := n _ _ hA (show y0 - uy ≤ 0 by omega)
    have a2 := p _ _ (show 0 ≤ x1 - ux by omega) hB
    have a3 := p _ _ hA (show 0 ≤ y1 - uy by omega)
    have a4 := n' _ _ (show x0 - ux ≤ 0 by omega) hB
    omega
  · have a1 := n _ _ hA (show y0 - uy ≤ 0 by omega)
    have a2 := p' _ _ (show x0 - ux ≤ 0 by omega) hB
    have a3 := p _ _ hA (show 0 ≤ y1 - uy by omega)
    have a4 := n _ _ (show 0 ≤ x1 - ux by omega) hB
    omega
  · have a1 := n' _ _ hA (show 0 ≤ y1 - uy by omega)
    have a2 := p _ _ (show 0 ≤ x1 - ux by omega) hB
    have a3 := p' _ _ hA (show y0 - uy ≤ 0 by omega)
    have a4 := n' _ _ (show x0 - ux ≤ 0 by omega) hB
    omega
  · have a1 := n' _ _ hA (show 0 ≤ y1 - uy by omega)
    have a2 := p' _ _ (show x0 - ux ≤ 0 by omega) hB
    have a3 := p' _ _ hA (show y0 - uy ≤ 0 by omega)
    have a4 := n _ _ (show 0 ≤ x1 - ux by omega) hB
    omega
/-- The near test of a side and a box, as the landed program makes it. -/
def satq (q : Sd) (x0 y0 x1 y1 : Int) : Bool := meetb (min q.1 q.2.2.1) (min q.2.1 q.2.2.2) (max q.1 q.2.2.1) (max q.2.1 q.2.2.2) x0 y0 x1 y1 &&
  (decide (min (min (min (min 1 (sg (cr q.1 q.2.1 q.2.2.1 q.2.2.2 x0 y0))) (sg (cr q.1 q.2.1 q.2.2.1 q.2.2.2 x1 y1))) (sg (cr q.1 q.2.1 q.2.2.1 q.2.2.2 x0 y1))) (sg (cr q.1 q.2.1 q.2.2.1 q.2.2.2 x1 y0)) ≤ 0) &&
  decide (0 ≤ max (max (max (max (-1) (sg (cr q.1 q.2.1 q.2.2.1 q.2.2.2 x0 y0))) (sg (cr q.1 q.2.1 q.2.2.1 q.2.2.2 x1 y1))) (sg (cr q.1 q.2.1 q.2.2.1 q.2.2.2 x0 y1))) (sg (cr q.1 q.2.1 q.2.2.1 q.2.2.2 x1 y0))))
theorem sg_le (z : Int) : (sg z ≤ 0 ↔ z ≤ 0) ∧ (0 ≤ sg z ↔ 0 ≤ z) := by
  unfold sg; split <;> (try split) <;> omega
theorem min_le0 (a b : Int) : min a b ≤ 0 ↔ a ≤ 0 ∨ b ≤ 0 := by omega
theorem le0_max (a b : Int) : 0 ≤ max a b ↔ 0 ≤ a ∨ 0 ≤ b := by omega
theorem satq_iff (q : Sd) (x0 y0 x1 y1 : Int) : satq q x0 y0 x1 y1 = true ↔ (min q.1 q.2.2.1 ≤ x1 ∧ x0 ≤ max q.1 q.2.2.1 ∧ min q.2.1 q.2.2.2 ≤ y1 ∧ y0 ≤ max q.2.1 q.2.2.2) ∧ Parts x0 y0 x1 y1 q.1 q.2.1 q.2.2.1 q.2.2.2 := by
  obtain ⟨ux, uy, vx, vy⟩ := q
  unfold satq meetb Parts
  simp only [Bool.and_eq_true, decide_eq_true_eq, min_le0, le0_max, (sg_le _).1, (sg_le _).2]
  generalize min ux vx = a
  generalize max ux vx = b
  generalize min uy vy = c
  generalize max uy vy = d
  have e1 : ¬ ((1 : Int) ≤ 0) := by omega
  have e2 : ¬ ((0 : Int) ≤ -1) := by omega
  simp only [e1, e2, false_or, or_assoc, and_assoc]
theorem sat_from {q : Sd} {x0 y0 x1 y1 : Int} (h1 : x0 ≤ q.1) (h2 : q.1 ≤ x1) (h3 : y0 ≤ q.2.1) (h4 : q.2.1 ≤ y1) : satq q x0 y0 x1 y1 = true :=
  (satq_iff q x0 y0 x1 y1).2 ⟨by omega, in_parts h1 h2 h3 h4⟩
theorem sat_to {q : Sd} {x0 y0 x1 y1 : Int} (h1 : x0 ≤ q.2.2.1) (h2 : q.2.2.1 ≤ x1) (h3 : y0 ≤ q.2.2.2) (h4 : q.2.2.2 ≤ y1) : satq q x0 y0 x1 y1 = true :=
  (satq_iff q x0 y0 x1 y1).2 ⟨by omega, Parts_ends (in_parts h1 h2 h3 h4)⟩
theorem sat_out {q : Sd} {x0 y0 x1 y1 : Int} (hx : x0 ≤ x1) (hy : y0 ≤ y1) (h : satq q x0 y0 x1 y1 = true) (ho : q.1 < x0 ∨ x1 < q.1 ∨ q.2.1 < y0 ∨ y1 < q.2.1) : EM x0 y0 x1 y1 q.1 q.2.1 q.2.2.1 q.2.2.2 := by
  obtain ⟨⟨a, b, c, d⟩, hp⟩ := (satq_iff q x0 y0 x1 y1).1 h
  exact out_meets hx hy d c b a hp ho
theorem sat_outTo {q : Sd} {x0 y0 x1 y1 : Int} (hx : x0 ≤ x1) (hy : y0 ≤ y1) (h : satq q x0 y0 x1 y1 = true) (ho : q.2.2.1 < x0 ∨ x1 < q.2.2.1 ∨ q.2.2.2 < y0 ∨ y1 < q.2.2.2) : EM x0 y0 x1 y1 q.1 q.2.1 q.2.2.1 q.2.2.2 := by
  obtain ⟨⟨a, b, c, d⟩, hp⟩ := (satq_iff q x0 y0 x1 y1).1 h
  exact EM_ends (out_meets hx hy (by omega) (by omega) (by omega) (by omega) (Parts_ends hp) ho)
theorem onb_box {px py ax ay bx bY : Int} (h : onb px py ax ay bx bY = true) : cr ax ay bx bY px py = 0 ∧ min ax bx ≤ px ∧ px ≤ max ax bx ∧ min ay bY ≤ py ∧ py ≤ max ay bY := by
  unfold onb hasb at h
  simp only [Bool.and_eq_true, decide_eq_true_eq] at h
  omega
/-- An edge between two corners of a box that a side meets. -/
theorem edge_sat {q : Sd} {x0 y0 x1 y1 ax ay bx bY : Int} (hx : x0 ≤ x1) (hy : y0 ≤ y1) (ha : (ax = x0 ∨ ax = x1) ∧ (ay = y0 ∨ ay = y1)) (hb : (bx = x0 ∨ bx = x1) ∧ (bY = y0 ∨ bY = y1)) (h : smeet ax ay bx bY q.1 q.2.1 q.2.2.1 q.2.2.2 = true)
    (hm : meetb (min ax bx) (min ay bY) (max ax bx) (max ay bY) (min q.1 q.2.2.1) (min q.2.1 q.2.2.2) (max q.1 q.2.2.1) (max q.2.1 q.2.2.2) = true) : satq q x0 y0 x1 y1 = true := by
  obtain ⟨ux, uy, vx, vy⟩ := q
  have box : min ux vx ≤ x1 ∧ x0 ≤ max ux vx ∧ min uy vy ≤ y1 ∧ y0 ≤ max uy vy := by
    unfold meetb at hm
    simp only [Bool.and_eq_true, decide_eq_true_eq] at hm
    omega
  unfold smeet at h
  simp only [Bool.or_eq_true] at h
  have corner : ∀ cx cy, (cx = x0 ∨ cx = x1) ∧ (cy = y0 ∨ cy = y1) → cr ux uy vx vy cx cy = 0 → satq (ux, uy, vx, vy) x0 y0 x1 y1 = true := by
    intro cx cy hc h0
    refine (satq_iff _ _ _ _ _).2 ⟨box, ?_⟩
    show Parts x0 y0 x1 y1 ux uy vx vy
    unfold Parts
    obtain ⟨hc | hc, hd | hd⟩ := hc <;> subst hc <;> subst hd <;> omega
  rcases h with h | ((h | h) | h) | h
  · refine (satq_iff _ _ _ _ _).2 ⟨box, ?_⟩
    show Parts x0 y0 x1 y1 ux uy vx vy
    unfold crossb at h
    simp only [Bool.and_eq_true, decide_eq_true_eq] at h
    have := sg_neg_iff _ _ h.2
    unfold Parts
    obtain ⟨ha1 | ha1, ha2 | ha2⟩ := ha <;> obtain ⟨hb1 | hb1, hb2 | hb2⟩ := hb <;> subst ha1 <;> subst ha2 <;> subst hb1 <;> subst hb2 <;> omega
  · have g := onb_box h
    exact sat_from (q := (ux, uy, vx, vy)) (by dsimp only at g ⊢; omega) (by dsimp only at g ⊢; omega) (by dsimp only at g ⊢; omega) (by dsimp only at g ⊢; omega)
  · have g := onb_box h
    exact sat_to (q := (ux, uy, vx, vy)) (by dsimp only at g ⊢; omega) (by dsimp only at g ⊢; omega) (by dsimp only at g ⊢; omega) (by dsimp only at g ⊢; omega)
  · exact corner _ _ ha (onb_box h).1
  · exact corner _ _ hb (onb_box h).1
theorem sdl_chain {k : Int} {ps : List (Int × Int)} (hs : shok k ps = true) (j : Nat) (hj : j + 1 < (sdl k ps).length) : ((sdl k ps).getD (j + 1) (0, 0, 0, 0)).1 = ((sdl k ps).getD j (0, 0, 0, 0)).2.2.1 ∧ ((sdl k ps).getD (j + 1) (0, 0, 0, 0)).2.1 = ((sdl k ps).getD j (0, 0, 0, 0)).2.2.2 := by
  have ring : ∀ L : List (Int × Int), j + 1 < (ringSides L).length → ((ringSides L).getD (j + 1) (0, 0, 0, 0)).1 = ((ringSides L).getD j (0, 0, 0, 0)).2.2.1 ∧ ((ringSides L).getD (j + 1) (0, 0, 0, 0)).2.1 = ((ringSides L).getD j (0, 0, 0, 0)).2.2.2 := by
    intro L hL
    rw [ringSides_len] at hL
    rw [ringSides_at L _ hL, ringSides_at L j (by omega)]
    unfold nxt
    rw [Nat.mod_eq_of_lt hL]
    exact ⟨rfl, rfl⟩
  rcases shok_kind hs with ⟨rfl, _⟩ | ⟨rfl, _⟩ | ⟨rfl, _⟩ | ⟨rfl, _⟩
  · simp [sdl] at hj
  · have e : sdl 1 ps = alongSides ps := by simp [sdl]
    rw [e] at hj ⊢
    rw [along_len] at hj
    rw [along_at ps _ hj, along_at ps j (by omega)]
    exact ⟨rfl, rfl⟩
  · exact ring _ (by simpa [sdl] using hj)
  · have e : sdl 3 ps = ringSides ps := by simp [sdl]
    rw [e] at hj ⊢
    exact ring _ hj
/-- A side that begins in the box: what comes ahead of it begins in the box, too, or meets an edge. -/
theorem chain_in {k : Int} {ps : List (Int × Int)} (hs : shok k ps = true) {x0 y0 x1 y1 : Int} (hx : x0 ≤ x1) (hy : y0 ≤ y1) : ∀ j, j < (sdl k ps).length → hasb x0 y0 x1 y1 ((sdl k ps).getD j (0, 0, 0, 0)).1 ((sdl k ps).getD j (0, 0, 0, 0)).2.1 = true →
    hasb x0 y0 x1 y1 (ps.getD 0 (0, 0)).1 (ps.getD 0 (0, 0)).2 = true ∨ ∃ i, i < (sdl k ps).length ∧ EM x0 y0 x1 y1 ((sdl k ps).getD i (0, 0, 0, 0)).1 ((sdl k ps).getD i (0, 0, 0, 0)).2.1 ((sdl k ps).getD i (0, 0, 0, 0)).2.2.1 ((sdl k ps).getD i (0, 0, 0, 0)).2.2.2
  | 0, _, h => by
    obtain ⟨e1, e2⟩ := sdl_first hs
    rw [e1, e2] at h
    exact .inl h
  | j + 1, hj, h => by
    obtain ⟨c1, c2⟩ := sdl_chain hs j hj
    rw [c1, c2] at h
    unfold hasb at h
    simp only [Bool.and_eq_true, decide_eq_true_eq] at h
    have hsat : satq ((sdl k ps).getD j (0, 0, 0, 0)) x0 y0 x1 y1 = true := sat_to (by omega) (by omega) (by omega) (by omega)
    by_cases hin : hasb x0 y0 x1 y1 ((sdl k ps).getD j (0, 0, 0, 0)).1 ((sdl k ps).getD j (0, 0, 0, 0)).2.1 = true
    · exact chain_in hs hx hy j (by omega) hin
    · refine .inr ⟨j, by omega, sat_out hx hy hsat ?_⟩
      unfold hasb at hin
      simp only [Bool.and_eq_true, decide_eq_true_eq] at hin
      omega
theorem rect_all {x0 y0 x1 y1 : Int} (X : List Sd) : allM (sdl 2 [(x0, y0), (x1, y1)]) X (sdl 2 [(x0, y0), (x1, y1)]).length = true ↔ ∃ i, i < X.length ∧ EM x0 y0 x1 y1 (X.getD i (0, 0, 0, 0)).1 (X.getD i (0, 0, 0, 0)).2.1 (X.getD i (0, 0, 0, 0)).2.2.1 (X.getD i (0, 0, 0, 0)).2.2.2 := by
  have e : sdl 2 [(x0, y0), (x1, y1)] = ringSides (corners x0 y0 x1 y1) := by simp [sdl]
  rw [e, allM_iff]
  obtain ⟨e0, e1, e2, e3⟩ := corners_at x0 y0 x1 y1
  constructor
  · rintro ⟨i, hi, j, hj, h⟩
    refine ⟨j, hj, ?_⟩
    rw [corners_len] at hi
    unfold EM
    rcases (show i = 0 ∨ i = 1 ∨ i = 2 ∨ i = 3 by omega) with hh | hh | hh | hh <;> subst hh
    · rw [e0] at h; exact .inl h
    · rw [e1] at h; exact .inr (.inl h)
    · rw [e2] at h; exact .inr (.inr (.inl h))
    · rw [e3] at h; exact .inr (.inr (.inr h))
  · rintro ⟨j, hj, h⟩
    unfold EM at h
    rcases h with h | h | h | h
    · exact ⟨0, by rw [corners_len]; omega, j, hj, by rw [e0]; exact h⟩
    · exact ⟨1, by rw [corners_len]; omega, j, hj, by rw [e1]; exact h⟩
    · exact ⟨2, by rw [corners_len]; omega, j, hj, by rw [e2]; exact h⟩
    · exact ⟨3, by rw [corners_len]; omega, j, hj, by rw [e3]; exact h⟩
def anySat (X : List Sd) (x0 y0 x1 y1 : Int) : Bool := X.any fun q => satq q x0 y0 x1 y1
theorem anySat_iff (X : List Sd) (x0 y0 x1 y1 : Int) : anySat X x0 y0 x1 y1 = true ↔ ∃ i, i < X.length ∧ satq (X.getD i (0, 0, 0, 0)) x0 y0 x1 y1 = true := by
  unfold anySat
  rw [List.any_eq_true]
  constructor
  · rintro ⟨q, hq, h⟩
    obtain ⟨i, hi, rfl⟩ := List.mem_iff_getElem.1 hq
    exact ⟨i, hi, by rw [List.getD_eq_getElem?_getD, List.getElem?_eq_getElem hi]; exact h⟩
  · rintro ⟨i, hi, h⟩
    rw [List.getD_eq_getElem?_getD, List.getElem?_eq_getElem hi] at h
    exact ⟨_, List.getElem_mem hi, h⟩
/-- A rectangle meets a shape just where a side of it comes near the rectangle's square, or the shape has its least corner. -/
theorem rect_meet {x0 y0 x1 y1 k : Int} {ps : List (Int × Int)} (hr : shok 2 [(x0, y0), (x1, y1)] = true) (hs : shok k ps = true) : smP 2 [(x0, y0), (x1, y1)] k ps = (anySat (sdl k ps) x0 y0 x1 y1 || hasP k ps x0 y0) := by
  obtain ⟨hx, hy⟩ := rect_of hr
  have hin := sdl_in hs
  have hrk := shok_allok hr
  have hr1 : In x0 ∧ In y0 ∧ In x1 ∧ In y1 := by
    simp [allok, pok, cok] at hrk
    unfold In
    omega
  unfold smP
  rw [hr, hs]
  simp only [Bool.true_and]
  have e2 : hasP 2 [(x0, y0), (x1, y1)] (ps.getD 0 (0, 0)).1 (ps.getD 0 (0, 0)).2 = hasb x0 y0 x1 y1 (ps.getD 0 (0, 0)).1 (ps.getD 0 (0, 0)).2 := by simp [hasP]
  rw [e2]
  show (allM _ _ _ || (_ || hasP k ps x0 y0)) = _
  rw [← Bool.or_assoc]
  congr 1
  rw [Bool.eq_iff_iff, Bool.or_eq_true, rect_all, anySat_iff]
  constructor
  · rintro (⟨i, hi, h⟩ | h)
    · refine ⟨i, hi, ?_⟩
      have g := hin i hi
      generalize (sdl k ps).getD i (0, 0, 0, 0) = q at *
      obtain ⟨q1, q2, q3, q4⟩ := g
      unfold EM at h
      obtain ⟨r1, r2, r3, r4⟩ := hr1
      rcases h with h | h | h | h
      · exact edge_sat hx hy ⟨.inl rfl, .inl rfl⟩ ⟨.inr rfl, .inl rfl⟩ h (meet_box h ⟨r1, r2, r3, r2⟩ ⟨q1, q2, q3, q4⟩)
      · exact edge_sat hx hy ⟨.inr rfl, .inl rfl⟩ ⟨.inr rfl, .inr rfl⟩ h (meet_box h ⟨r3, r2, r3, r4⟩ ⟨q1, q2, q3, q4⟩)
      · exact edge_sat hx hy ⟨.inr rfl, .inr rfl⟩ ⟨.inl rfl, .inr rfl⟩ h (meet_box h ⟨r3, r4, r1, r4⟩ ⟨q1, q2, q3, q4⟩)
      · exact edge_sat hx hy ⟨.inl rfl, .inr rfl⟩ ⟨.inl rfl, .inl rfl⟩ h (meet_box h ⟨r1, r4, r1, r2⟩ ⟨q1, q2, q3, q4⟩)
    · obtain ⟨f1, f2⟩ := sdl_first hs
      refine ⟨0, (sdl_len hs).1, ?_⟩
      unfold hasb at h
      simp only [Bool.and_eq_true, decide_eq_true_eq] at h
      exact sat_from (by omega) (by omega) (by omega) (by omega)
  · rintro ⟨i, hi, h⟩
    by_cases hb : hasb x0 y0 x1 y1 ((sdl k ps).getD i (0, 0, 0, 0)).1 ((sdl k ps).getD i (0, 0, 0, 0)).2.1 = true
    · rcases chain_in hs hx hy i hi hb with g | g
      · exact .inr g
      · exact .inl g
    · refine .inl ⟨i, hi, sat_out hx hy h ?_⟩
      unfold hasb at hb
      simp only [Bool.and_eq_true, decide_eq_true_eq] at hb
      omega
end Go.Proofs.YtmnnbifekbacnaaDoor
