/- What the law on tiles says of whole numbers: a tile and the one above it, the four below it, the one of a point. -/
import Derived.Test.YtncnppkpkemajaaDoorDrawTl
import Derived.Test.YtncnppkpkemajaaDoorCode
namespace Go.Proofs.YtncnppkpkemajaaDoor
open Go.RowKit
set_option linter.unusedVariables false
set_option linter.unusedSimpArgs false
theorem next_level (k : Nat) (hk : k ≤ 7) : cols ((k + 1 : Nat) : Int) = 2 * cols k ∧ sid k = 2 * sid ((k + 1 : Nat) : Int) := by
  rcases (show k = 0 ∨ k = 1 ∨ k = 2 ∨ k = 3 ∨ k = 4 ∨ k = 5 ∨ k = 6 ∨ k = 7 by omega) with h | h | h | h | h | h | h | h <;> subst h <;> decide
theorem tok_mk {k : Nat} {c r : Int} (hk : k ≤ 8) (c0 : 0 ≤ c) (c1 : c < cols k) (r0 : 0 ≤ r) (r1 : r < cols k) : tok k c r = true := by
  simp only [tok, plok, lok, Bool.and_eq_true, decide_eq_true_eq]
  exact ⟨⟨⟨by omega, by omega⟩, c0, c1⟩, r0, r1⟩
/-- The four tiles below one: each has it above. -/
theorem kid_up {l c r : Int} (h : dnok l c r = true) (j : Nat) (hj : j < 4) : upok ((dn4 l c r).getD (j * 3) 0) ((dn4 l c r).getD (j * 3 + 1) 0) ((dn4 l c r).getD (j * 3 + 2) 0) = true ∧
    upl ((dn4 l c r).getD (j * 3) 0) ((dn4 l c r).getD (j * 3 + 1) 0) ((dn4 l c r).getD (j * 3 + 2) 0) = l ∧ upc ((dn4 l c r).getD (j * 3) 0) ((dn4 l c r).getD (j * 3 + 1) 0) ((dn4 l c r).getD (j * 3 + 2) 0) = c ∧ upr ((dn4 l c r).getD (j * 3) 0) ((dn4 l c r).getD (j * 3 + 1) 0) ((dn4 l c r).getD (j * 3 + 2) 0) = r := by
  simp only [dnok, Bool.and_eq_true, Bool.not_eq_true', decide_eq_false_iff_not] at h
  obtain ⟨ht, h8⟩ := h
  obtain ⟨k, rfl, hk, c0, c1, r0, r1⟩ := tok_parts ht
  have hk7 : k ≤ 7 := by omega
  obtain ⟨n1, _⟩ := next_level k hk7
  have key : ∀ a b : Int, (a = 0 ∨ a = 1) → (b = 0 ∨ b = 1) → upok ((k : Int) + 1) (2 * c + a) (2 * r + b) = true ∧ upl ((k : Int) + 1) (2 * c + a) (2 * r + b) = k ∧ upc ((k : Int) + 1) (2 * c + a) (2 * r + b) = c ∧ upr ((k : Int) + 1) (2 * c + a) (2 * r + b) = r := by
    intro a b ha hb
    have hu : upok ((k : Int) + 1) (2 * c + a) (2 * r + b) = true := by
      have := tok_mk (k := k + 1) (c := 2 * c + a) (r := 2 * r + b) (by omega) (by omega) (by omega) (by omega) (by omega)
      rw [show ((k + 1 : Nat) : Int) = (k : Int) + 1 by omega] at this
      simp only [upok, this, Bool.true_and, Bool.not_eq_true', decide_eq_false_iff_not]
      omega
    refine ⟨hu, ?_, ?_, ?_⟩
    · simp [upl, hu]
    · simp only [upc, hu, if_true]; omega
    · simp only [upr, hu, if_true]; omega
  have z := key 0 0 (.inl rfl) (.inl rfl)
  have o := key 1 0 (.inr rfl) (.inl rfl)
  have t := key 0 1 (.inl rfl) (.inr rfl)
  have f := key 1 1 (.inr rfl) (.inr rfl)
  rw [Int.add_zero, Int.add_zero] at z
  rw [Int.add_zero] at o t
  rcases (show j = 0 ∨ j = 1 ∨ j = 2 ∨ j = 3 by omega) with h | h | h | h <;> subst h
  · exact z
  · exact o
  · exact t
  · exact f
/-- What is above a tile: its four have the tile once; its square has the tile's. -/
theorem up_parts {l c r : Int} (h : upok l c r = true) : ∃ k : Nat, l = (k : Int) + 1 ∧ k ≤ 7 ∧ upl l c r = k ∧ upc l c r = c / 2 ∧ upr l c r = r / 2 ∧ 0 ≤ c ∧ c < 2 * cols k ∧ 0 ≤ r ∧ r < 2 * cols k ∧ sid k = 2 * sid l ∧ tok l c r = true ∧ tok k (c / 2) (r / 2) = true := by
  have hu := h
  simp only [upok, Bool.and_eq_true, Bool.not_eq_true', decide_eq_false_iff_not] at h
  obtain ⟨ht, h0⟩ := h
  obtain ⟨m, rfl, hm, c0, c1, r0, r1⟩ := tok_parts ht
  obtain ⟨k, rfl⟩ : ∃ k, m = k + 1 := ⟨m - 1, by omega⟩
  obtain ⟨n1, n2⟩ := next_level k (by omega)
  refine ⟨k, by omega, by omega, ?_, by unfold upc; rw [hu]; rfl, by unfold upr; rw [hu]; rfl, c0, by omega, r0, by omega, n2, ht, tok_mk (by omega) (by omega) (by omega) (by omega) (by omega)⟩
  simp only [upl, hu, if_true]; omega
theorem up_kids {l c r : Int} (h : upok l c r = true) : dnok (upl l c r) (upc l c r) (upr l c r) = true ∧ ∃ i : Nat, i < 4 ∧ ∀ j : Nat, j < 4 → ((dn4 (upl l c r) (upc l c r) (upr l c r)).getD (j * 3) 0 = l ∧ (j = i → (dn4 (upl l c r) (upc l c r) (upr l c r)).getD (j * 3 + 1) 0 = c ∧ (dn4 (upl l c r) (upc l c r) (upr l c r)).getD (j * 3 + 2) 0 = r) ∧ (j ≠ i → (dn4 (upl l c r) (upc l c r) (upr l c r)).getD (j * 3 + 1) 0 ≠ c ∨ (dn4 (upl l c r) (upc l c r) (upr l c r)).getD (j * 3 + 2) 0 ≠ r)) := by
  obtain ⟨k, rfl, hk, e1, e2, e3, c0, c1, r0, r1, _, _, ht⟩ := up_parts h
  rw [e1, e2, e3]
  refine ⟨by simp only [dnok, ht, Bool.true_and, Bool.not_eq_true', decide_eq_false_iff_not]; omega, (c % 2).toNat + 2 * (r % 2).toNat, by omega, ?_⟩
  intro j hj
  rcases (show j = 0 ∨ j = 1 ∨ j = 2 ∨ j = 3 by omega) with h | h | h | h <;> subst h <;> refine ⟨rfl, fun e => ?_, fun e => ?_⟩
  · show 2 * (c / 2) = c ∧ 2 * (r / 2) = r; omega
  · show 2 * (c / 2) ≠ c ∨ 2 * (r / 2) ≠ r; omega
  · show 2 * (c / 2) + 1 = c ∧ 2 * (r / 2) = r; omega
  · show 2 * (c / 2) + 1 ≠ c ∨ 2 * (r / 2) ≠ r; omega
  · show 2 * (c / 2) = c ∧ 2 * (r / 2) + 1 = r; omega
  · show 2 * (c / 2) ≠ c ∨ 2 * (r / 2) + 1 ≠ r; omega
  · show 2 * (c / 2) + 1 = c ∧ 2 * (r / 2) + 1 = r; omega
  · show 2 * (c / 2) + 1 ≠ c ∨ 2 * (r / 2) + 1 ≠ r; omega
theorem up_box {l c r : Int} (h : upok l c r = true) : -32768 ≤ tbx (upl l c r) (upc l c r) (upr l c r) ∧ tbu (upl l c r) (upc l c r) (upr l c r) ≤ 32767 ∧ tbx (upl l c r) (upc l c r) (upr l c r) ≤ tbx l c r ∧ tby (upl l c r) (upc l c r) (upr l c r) ≤ tby l c r ∧ tbu l c r ≤ tbu (upl l c r) (upc l c r) (upr l c r) ∧ tbv l c r ≤ tbv (upl l c r) (upc l c r) (upr l c r) ∧
    tbu (upl l c r) (upc l c r) (upr l c r) - tbx (upl l c r) (upc l c r) (upr l c r) = 2 * (tbu l c r - tbx l c r) + 1 := by
  obtain ⟨k, rfl, hk, e1, e2, e3, c0, c1, r0, r1, hs, ht, htu⟩ := up_parts h
  rw [e1, e2, e3]
  simp only [tbx, tby, tbu, tbv, ht, htu, if_true]
  have hsp := sid_bounds (k + 1) (by omega)
  rw [show ((k + 1 : Nat) : Int) = (k : Int) + 1 by omega] at hsp
  obtain ⟨s1, s2, _, _, _, _, _⟩ := hsp
  obtain ⟨m1, m2⟩ := mul_in (k := k) (c := c / 2) (by omega) (by omega) (by omega)
  obtain ⟨_, _, _, _, _, _, _⟩ := sid_bounds k (by omega)
  have hsum := mul_in (k := k) (c := c / 2) (by omega) (by omega) (by omega)
  have a1 : c / 2 * sid k = 2 * (c / 2) * sid ((k : Int) + 1) := by rw [hs, ← Int.mul_assoc, Int.mul_comm (c / 2) 2]
  have a2 : r / 2 * sid k = 2 * (r / 2) * sid ((k : Int) + 1) := by rw [hs, ← Int.mul_assoc, Int.mul_comm (r / 2) 2]
  have b1 : c * sid ((k : Int) + 1) = 2 * (c / 2) * sid ((k : Int) + 1) + (c % 2) * sid ((k : Int) + 1) := by rw [← Int.add_mul]; congr 1; omega
  have b2 : r * sid ((k : Int) + 1) = 2 * (r / 2) * sid ((k : Int) + 1) + (r % 2) * sid ((k : Int) + 1) := by rw [← Int.add_mul]; congr 1; omega
  have p1 : c % 2 = 0 ∨ c % 2 = 1 := by omega
  have p2 : r % 2 = 0 ∨ r % 2 = 1 := by omega
  have hcs : c / 2 * sid k + sid k ≤ 65536 := by
    obtain ⟨_, _, t3, _, _, _, _⟩ := sid_bounds k (by omega)
    have : (c / 2 + 1) * sid k ≤ cols k * sid k := Int.mul_le_mul_of_nonneg_right (by omega) (by omega)
    rw [Int.add_mul, Int.mul_comm (cols k) _, t3] at this
    omega
  rw [a1] at m1 m2 hcs ⊢
  rw [hs] at hcs
  rw [a2, b1, b2, hs]
  generalize 2 * (c / 2) * sid ((k : Int) + 1) = A at *
  generalize 2 * (r / 2) * sid ((k : Int) + 1) = B at *
  generalize sid ((k : Int) + 1) = s at *
  rcases p1 with p1 | p1 <;> rcases p2 with p2 | p2 <;> rw [p1, p2] <;> simp only [Int.zero_mul, Int.one_mul, Int.add_zero] <;> omega
/-- The tile of a point: it has the point; what is above it is the one of the level ahead. -/
theorem of_parts {x y l : Int} (h : ofok x y l = true) : ofl x y l = l ∧ tok l (ofc x y l) (ofr x y l) = true ∧ tbx l (ofc x y l) (ofr x y l) ≤ x ∧ x ≤ tbu l (ofc x y l) (ofr x y l) ∧ tby l (ofc x y l) (ofr x y l) ≤ y ∧ y ≤ tbv l (ofc x y l) (ofr x y l) ∧
    (upok l (ofc x y l) (ofr x y l) = true → upl l (ofc x y l) (ofr x y l) = ofl x y (l - 1) ∧ upc l (ofc x y l) (ofr x y l) = ofc x y (l - 1) ∧ upr l (ofc x y l) (ofr x y l) = ofr x y (l - 1)) := by
  have h0 := h
  simp only [ofok, Bool.and_eq_true] at h
  obtain ⟨hp, hl⟩ := h
  obtain ⟨k, rfl, hk⟩ := lok_nat hl
  have hp' : -30000 ≤ x ∧ x ≤ 30000 ∧ -30000 ≤ y ∧ y ≤ 30000 := by simp [pok, cok] at hp; omega
  obtain ⟨s1, s2, s3, q1, q2, _, _⟩ := sid_bounds k hk
  have ec : ofc x y k = (x + 32768) / sid k := by simp [ofc, h0]
  have er : ofr x y k = (y + 32768) / sid k := by simp [ofr, h0]
  have lim : ∀ z : Int, -30000 ≤ z → z ≤ 30000 → 0 ≤ (z + 32768) / sid k ∧ (z + 32768) / sid k < cols k := by
    intro z z0 z1
    refine ⟨Int.ediv_nonneg (by omega) (by omega), Int.ediv_lt_of_lt_mul (by omega) ?_⟩
    rw [Int.mul_comm, s3]; omega
  have ht : tok k (ofc x y k) (ofr x y k) = true := by
    rw [ec, er]
    exact tok_mk hk (lim x (by omega) (by omega)).1 (lim x (by omega) (by omega)).2 (lim y (by omega) (by omega)).1 (lim y (by omega) (by omega)).2
  have dv : ∀ z : Int, (z + 32768) / sid k * sid k ≤ z + 32768 ∧ z + 32768 < (z + 32768) / sid k * sid k + sid k := by
    intro z
    have e := Int.mul_ediv_add_emod (z + 32768) (sid k)
    have m0 := Int.emod_nonneg (z + 32768) (show sid k ≠ 0 by omega)
    have m1 := Int.emod_lt_of_pos (z + 32768) (show 0 < sid k by omega)
    rw [Int.mul_comm] at e
    omega
  obtain ⟨d1, d2⟩ := dv x
  obtain ⟨d3, d4⟩ := dv y
  refine ⟨by simp [ofl, h0], ht, ?_, ?_, ?_, ?_, ?_⟩
  · simp only [tbx, ht, if_true]; rw [ec]; omega
  · simp only [tbu, ht, if_true]; rw [ec]; omega
  · simp only [tby, ht, if_true]; rw [er]; omega
  · simp only [tbv, ht, if_true]; rw [er]; omega
  · intro hu
    obtain ⟨j, e1, hj, u1, u2, u3, _, _, _, _, hs, _, _⟩ := up_parts hu
    have hk1 : k = j + 1 := by omega
    subst hk1
    rw [u1, u2, u3]
    have ej : ((j + 1 : Nat) : Int) - 1 = (j : Int) := by omega
    rw [ej]
    have hok : ofok x y j = true := by
      simp only [ofok, hp, Bool.true_and, lok, Bool.and_eq_true, decide_eq_true_eq]; omega
    refine ⟨by simp [ofl, hok], ?_, ?_⟩
    · rw [ec]; simp only [ofc, hok, if_true]; rw [hs, Int.ediv_ediv_of_nonneg (by omega)]; congr 1; omega
    · rw [er]; simp only [ofr, hok, if_true]; rw [hs, Int.ediv_ediv_of_nonneg (by omega)]; congr 1; omega
theorem dn_up (l c r : Int) (j : Nat) (hj : j < dnn l c r) : upok ((dn l c r).getD (j * 3) 0) ((dn l c r).getD (j * 3 + 1) 0) ((dn l c r).getD (j * 3 + 2) 0) = true ∧
    upl ((dn l c r).getD (j * 3) 0) ((dn l c r).getD (j * 3 + 1) 0) ((dn l c r).getD (j * 3 + 2) 0) = l ∧ upc ((dn l c r).getD (j * 3) 0) ((dn l c r).getD (j * 3 + 1) 0) ((dn l c r).getD (j * 3 + 2) 0) = c ∧ upr ((dn l c r).getD (j * 3) 0) ((dn l c r).getD (j * 3 + 1) 0) ((dn l c r).getD (j * 3 + 2) 0) = r := by
  unfold dnn at hj
  split at hj
  · rename_i h
    have e : dn l c r = dn4 l c r := by simp [dn, h]
    rw [e]
    exact kid_up h j hj
  · omega
theorem up_dn {l c r : Int} (h : upok l c r = true) : dnn (upl l c r) (upc l c r) (upr l c r) = 4 ∧ ∃ i : Nat, i < 4 ∧ ∀ j : Nat, j < 4 → ((dn (upl l c r) (upc l c r) (upr l c r)).getD (j * 3) 0 = l ∧ (j = i → (dn (upl l c r) (upc l c r) (upr l c r)).getD (j * 3 + 1) 0 = c ∧ (dn (upl l c r) (upc l c r) (upr l c r)).getD (j * 3 + 2) 0 = r) ∧ (j ≠ i → (dn (upl l c r) (upc l c r) (upr l c r)).getD (j * 3 + 1) 0 ≠ c ∨ (dn (upl l c r) (upc l c r) (upr l c r)).getD (j * 3 + 2) 0 ≠ r)) := by
  obtain ⟨h1, h2⟩ := up_kids h
  refine ⟨by simp [dnn, h1], ?_⟩
  rw [show dn (upl l c r) (upc l c r) (upr l c r) = dn4 (upl l c r) (upc l c r) (upr l c r) by simp [dn, h1]]
  exact h2
theorem up_none {l c r : Int} (h : upok l c r = false) : upl l c r = 0 := by simp [upl, h]
/-- A world that only grew since y. -/
def BF (y w : World) : Prop := Below y.heap.size y w
theorem BF.below {y w w' : World} (h : BF y w) (hb : Below w.heap.size w w') : BF y w' := btrans h hb
theorem BF.refl (y : World) : BF y y := Below.refl _ _
theorem keepheap' {w w' : World} (hb : Below w.heap.size w w') {b : Nat} {o : Obj} (h : w.heap[b]? = some o) : w'.heap[b]? = some o := keepheapT hb h
theorem tileokB (l c r : Int) (w : World) : Calls Tryd.prog 20 #[.agg #[.int .i64 l, .int .i64 c, .int .i64 r]] w fun e w' => e = .returned (.bool (tok l c r)) ∧ Below w.heap.size w w' :=
  (spec_tileok l c r w).mono fun e w' ⟨he, hw⟩ => ⟨he, by rw [hw]; exact balloc (Below.refl _ _) _⟩
theorem tileokI (l c r : Int) (w : World) (h : Tab w) : Calls Tryd.prog 19 #[.agg #[.int .i64 l, .int .i64 c, .int .i64 r]] w fun e w' => e = .returned (.bool (tok l c r)) ∧ Below w.heap.size w w' :=
  (impl_tileok l c r w h).mono fun e w' ⟨he, hw⟩ => ⟨he, by rw [hw]; exact balloc (Below.refl _ _) _⟩
end Go.Proofs.YtncnppkpkemajaaDoor
