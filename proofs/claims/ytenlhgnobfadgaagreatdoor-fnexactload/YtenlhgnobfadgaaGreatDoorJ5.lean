/- Texts of stores, joined: DecM. -/
import Derived.Lib.ItoaMem
import Derived.Lib.AtoiAll
set_option linter.unusedSimpArgs false
set_option linter.unusedVariables false
namespace Go.Proofs.YtenlhgnobfadgaaGreatDoor
def Dig (c : UInt8) : Prop := 48 ≤ c.toNat ∧ c.toNat ≤ 57
def dvl : Nat → List UInt8 → Nat
  | acc, [] => acc
  | acc, c :: r => dvl (10 * acc + (c.toNat - 48)) r
theorem dvl_snoc : ∀ (l : List UInt8) (acc : Nat) (c : UInt8), dvl acc (l ++ [c]) = 10 * dvl acc l + (c.toNat - 48)
  | [], _, _ => rfl
  | _ :: l, _, c => dvl_snoc l _ c
theorem dig_of (d : Nat) (h : d < 10) : (UInt8.ofNat (48 + d)).toNat = 48 + d := by
  rw [UInt8.toNat_ofNat']; omega
theorem dec_lt (u : Nat) (h : u < 10) : Lib.decDigits u = [UInt8.ofNat (48 + u)] := Lib.decDigits_one h
theorem dec_ge (u : Nat) (h : ¬ u < 10) : Lib.decDigits u = Lib.decDigits (u / 10) ++ [UInt8.ofNat (48 + u % 10)] := by rw [Lib.decDigits, dif_neg h]
theorem dec_dig : ∀ (f u : Nat), u < f → ∀ c ∈ Lib.decDigits u, Dig c
  | 0, _, h => absurd h (Nat.not_lt_zero _)
  | f + 1, u, h => by
    intro c hc
    by_cases h1 : u < 10
    · rw [dec_lt u h1, List.mem_singleton] at hc
      subst hc
      have := dig_of u h1
      unfold Dig; omega
    · rw [dec_ge u h1] at hc
      rcases List.mem_append.1 hc with hc | hc
      · exact dec_dig f (u / 10) (by omega) c hc
      · rw [List.mem_singleton] at hc
        subst hc
        have := dig_of (u % 10) (by omega)
        unfold Dig; omega
theorem dvl_one (c : UInt8) : dvl 0 [c] = c.toNat - 48 := by
  show 10 * 0 + (c.toNat - 48) = c.toNat - 48
  omega
theorem dec_val_step (u q : Nat) (l : List UInt8) (hl : dvl 0 l = q) (hq : q = u / 10) : dvl 0 (l ++ [UInt8.ofNat (48 + u % 10)]) = u := by
  have e := dig_of (u % 10) (by omega)
  have s := dvl_snoc l 0 (UInt8.ofNat (48 + u % 10))
  rw [hl, e] at s
  rw [s]; omega
theorem dec_val (f : Nat) : ∀ u : Nat, u < f → dvl 0 (Lib.decDigits u) = u := by
  induction f with
  | zero => intro u h; exact absurd h (Nat.not_lt_zero _)
  | succ f ih =>
    intro u h
    by_cases h1 : u < 10
    · have e := dec_lt u h1
      rw [e, dvl_one]
      have := dig_of u h1
      omega
    · have e := dec_ge u h1
      rw [e]
      exact dec_val_step u (u / 10) _ (ih (u / 10) (by omega)) rfl
theorem dec_len : ∀ (k u : Nat), u < 10 ^ (k + 1) → (Lib.decDigits u).length ≤ k + 1
  | 0, u, h => by rw [dec_lt u (by simpa using h)]; simp
  | k + 1, u, h => by
    by_cases h1 : u < 10
    · rw [dec_lt u h1]; simp
    · rw [dec_ge u h1]
      have := dec_len k (u / 10) (by rw [Nat.pow_succ] at h; omega)
      simp; omega
theorem dec_some (u : Nat) : Lib.decDigits u ≠ [] := by
  by_cases h1 : u < 10
  · rw [dec_lt u h1]; simp
  · rw [dec_ge u h1]; simp
theorem parse_step (acc : Nat) (c : UInt8) (r : List UInt8) (hc : Dig c) (hb : acc * 10 + (c.toNat - 48) < 1000000000000000000) : Lib.parseUint10 acc (c :: r) = Lib.parseUint10 (10 * acc + (c.toNat - 48)) r := by
  unfold Dig at hc
  rw [Lib.parseUint10, if_pos hc, if_neg (by omega), if_neg (by omega), Nat.mul_comm acc 10]
theorem parse_dec (l : List UInt8) : ∀ acc : Nat, (∀ c ∈ l, Dig c) → (acc + 1) * 10 ^ l.length ≤ 1000000000000000000 → Lib.parseUint10 acc l = .ok (dvl acc l) := by
  induction l with
  | nil => intro acc _ _; rfl
  | cons c r ih =>
    intro acc hd hb
    have hc := hd c (by simp)
    have hc2 : c.toNat ≤ 57 := hc.2
    have hp : 1 ≤ 10 ^ r.length := Nat.pos_of_ne_zero (by simp)
    have hb1 : (acc + 1) * 10 * 10 ^ r.length ≤ 1000000000000000000 := by
      rw [List.length_cons, Nat.pow_succ, Nat.mul_comm (10 ^ r.length) 10, ← Nat.mul_assoc] at hb; exact hb
    have hb2 : (acc + 1) * 10 * 1 ≤ (acc + 1) * 10 * 10 ^ r.length := Nat.mul_le_mul (Nat.le_refl _) hp
    have hb3 : (10 * acc + (c.toNat - 48) + 1) * 10 ^ r.length ≤ (acc + 1) * 10 * 10 ^ r.length := Nat.mul_le_mul (by omega) (Nat.le_refl _)
    rw [parse_step acc c r hc (by omega)]
    exact ih _ (fun x hx => hd x (by simp [hx])) (Nat.le_trans hb3 hb1)
theorem atoi_itoa (v : Int) (h0 : -999999999 ≤ v) (h1 : v ≤ 999999999) : Lib.atoiAll (Lib.itoa v) = .ok v := by
  have key : ∀ u : Nat, u ≤ 999999999 → Lib.parseMag (Lib.decDigits u) = .ok u := by
    intro u hu
    have hl := dec_len 8 u (by omega)
    have hpw : (10 : Nat) ^ (Lib.decDigits u).length ≤ 10 ^ 9 := Nat.pow_le_pow_right (by omega) hl
    unfold Lib.parseMag
    rw [if_neg (dec_some u), parse_dec _ 0 (dec_dig (u + 1) u (by omega)) (by omega), dec_val (u + 1) u (by omega)]
  by_cases hv : 0 ≤ v
  · obtain ⟨u, rfl⟩ := Int.eq_ofNat_of_zero_le hv
    rw [Lib.itoa_nonneg]
    cases hd : Lib.decDigits u with
    | nil => exact absurd hd (dec_some u)
    | cons c r =>
      have hc := dec_dig (u + 1) u (by omega) c (by rw [hd]; simp)
      obtain ⟨c1, c2⟩ := hc
      simp only [Lib.atoiAll]
      rw [if_neg (by omega), ← hd, key u (by omega)]
      simp only
      rw [if_neg (by omega), if_neg (by omega), if_neg (by omega)]
  · obtain ⟨u, hu⟩ := Int.eq_ofNat_of_zero_le (show 0 ≤ -v by omega)
    have hv' : v = -(u : Int) := by omega
    subst hv'
    rw [Lib.itoa_neg u (by omega)]
    simp only [Lib.atoiAll]
    rw [if_pos (by decide), key u (by omega)]
    simp only
    rw [if_neg (by simp), if_neg (by omega), if_pos (by decide)]
end Go.Proofs.YtenlhgnobfadgaaGreatDoor
