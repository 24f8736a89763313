/- The specification's ReadInt tells a number just where the text is its decimal text and the number has nine digits at most: its contract. -/
import Derived.Test.YtfmchkagdaaeeaaGreatDoorDecM
import Derived.Test.YtfmchkagdaaeeaaGreatDoorDec
import Derived.Lib.Strings
import Derived.Lib.RabinKarpLaws
namespace Go.Proofs.YtfmchkagdaaeeaaGreatDoor
open Go.RowKit
def Ans (l : List UInt8) (a : Int) (b : Bool) : Prop :=
  (b = true ∧ l = Lib.itoa a ∧ -999999999 ≤ a ∧ a ≤ 999999999) ∨ (b = false ∧ a = 0 ∧ ∀ v, -999999999 ≤ v → v ≤ 999999999 → l ≠ Lib.itoa v)
theorem Ans.same {l : List UInt8} {a a' : Int} {b b' : Bool} (h : Ans l a b) (h' : Ans l a' b') : a = a' ∧ b = b' := by
  rcases h with ⟨rfl, h1, h2, h3⟩ | ⟨rfl, rfl, h1⟩ <;> rcases h' with ⟨rfl, k1, k2, k3⟩ | ⟨rfl, rfl, k1⟩
  · have e1 := atoi_itoa a h2 h3
    have e2 := atoi_itoa a' k2 k3
    rw [← h1] at e1
    rw [← k1, e1] at e2
    injection e2 with e2
    exact ⟨e2, rfl⟩
  · exact absurd h1 (k1 a h2 h3)
  · exact absurd k1 (h1 a' k2 k3)
  · exact ⟨rfl, rfl⟩
theorem in_calls (x a b : Int) (w : World) : Calls Tryz.prog 27 #[.int .i64 x, .int .i64 a, .int .i64 b] w fun e w' => e = .returned (.bool (decide (a ≤ x) && decide (x ≤ b))) ∧ w' = w := by
  by_cases h : a ≤ x
  · go_enter Tryz.func27, Tryz.ntmps27
    go_wp2
    go_ret
    exact ⟨by simp [h], rfl⟩
  · have hd : decide (a ≤ x) = false := by simpa using h
    go_enter Tryz.func27, Tryz.ntmps27
    go_wp2
    go_ret
    exact ⟨by simp, rfl⟩
theorem dvl_lt (l : List UInt8) : ∀ acc : Nat, (∀ c ∈ l, Dig c) → dvl acc l < (acc + 1) * 10 ^ l.length := by
  induction l with
  | nil => intro acc _; show acc < (acc + 1) * 1; omega
  | cons c r ih =>
    intro acc hd
    have hc2 : c.toNat ≤ 57 := (hd c (by simp)).2
    have h1 := ih (10 * acc + (c.toNat - 48)) (fun x hx => hd x (by simp [hx]))
    have h2 : (10 * acc + (c.toNat - 48) + 1) * 10 ^ r.length ≤ (acc + 1) * 10 * 10 ^ r.length := Nat.mul_le_mul (by omega) (Nat.le_refl _)
    have e : (acc + 1) * 10 * 10 ^ r.length = (acc + 1) * 10 ^ (c :: r).length := by rw [List.length_cons, Nat.pow_succ, Nat.mul_comm (10 ^ r.length) 10, Nat.mul_assoc]
    rw [← e]
    exact Nat.lt_of_lt_of_le h1 h2
theorem take_next (t : ByteArray) (i : Nat) (h : i < t.size) : t.data.toList.take (i + 1) = t.data.toList.take i ++ [t[i]'h] := by
  rw [List.take_add_one, byte_at t i h]; rfl
theorem bad_of (l : List UInt8) (tl : List UInt8) (neg : Bool) (hl : l = if neg then 45 :: tl else tl) (hn : neg = false → ∀ c r, tl = c :: r → c.toNat ≠ 45)
    (hbad : tl = [] ∨ 9 < tl.length ∨ ∃ c ∈ tl, ¬ Dig c) : Ans l 0 false := by
  refine .inr ⟨rfl, rfl, fun v h0 h1 e => ?_⟩
  have main : ∀ u : Nat, u ≤ 999999999 → tl = Lib.decDigits u → False := by
    intro u hu he
    rcases hbad with h | h | ⟨c, hc, hd⟩
    · exact dec_some u (he ▸ h)
    · have := dec_len 8 u (by omega)
      rw [← he] at this; omega
    · rw [he] at hc
      exact hd (dec_dig (u + 1) u (by omega) c hc)
  by_cases hv : 0 ≤ v
  · obtain ⟨u, rfl⟩ := Int.eq_ofNat_of_zero_le hv
    rw [Lib.itoa_nonneg] at e
    cases neg with
    | false => exact main u (by omega) (by rw [← e, hl]; rfl)
    | true =>
      have h45 : Lib.decDigits u = 45 :: tl := by rw [← e, hl]; rfl
      have := dec_dig (u + 1) u (by omega) 45 (by rw [h45]; simp)
      exact absurd this.1 (by decide)
  · obtain ⟨u, hu⟩ := Int.eq_ofNat_of_zero_le (show 0 ≤ -v by omega)
    obtain rfl : v = -(u : Int) := by omega
    rw [Lib.itoa_neg u (by omega)] at e
    cases neg with
    | false =>
      have h45 : tl = 45 :: Lib.decDigits u := by rw [← e, hl]; rfl
      exact hn rfl _ _ h45 (by decide)
    | true =>
      have : 45 :: tl = 45 :: Lib.decDigits u := by rw [← e, hl]; rfl
      injection this with _ this
      exact main u (by omega) this
theorem good_of (l : List UInt8) (tl : List UInt8) (neg : Bool) (n : Nat) (hl : l = if neg then 45 :: tl else tl) (hn : neg = false → ∀ c r, tl = c :: r → c.toNat ≠ 45)
    (hd : ∀ c ∈ tl, Dig c) (h9 : tl.length ≤ 9) (hv : n = dvl 0 tl) :
    (l = Lib.itoa (if neg then -(n : Int) else n) → Ans l (if neg then -(n : Int) else n) true) ∧ (l ≠ Lib.itoa (if neg then -(n : Int) else n) → Ans l 0 false) := by
  have hlt := dvl_lt tl 0 hd
  have hpw : (10 : Nat) ^ tl.length ≤ 10 ^ 9 := Nat.pow_le_pow_right (by omega) h9
  have hn9 : n ≤ 999999999 := by rw [hv]; omega
  refine ⟨fun h => .inl ⟨rfl, h, by split <;> omega, by split <;> omega⟩, fun h => .inr ⟨rfl, rfl, fun v h0 h1 e => h ?_⟩⟩
  have main : ∀ u : Nat, u ≤ 999999999 → tl = Lib.decDigits u → n = u := by
    intro u hu he
    rw [hv, he, dec_val (u + 1) u (by omega)]
  by_cases hv0 : 0 ≤ v
  · obtain ⟨u, rfl⟩ := Int.eq_ofNat_of_zero_le hv0
    rw [Lib.itoa_nonneg] at e
    cases neg with
    | false =>
      have := main u (by omega) (by rw [← e, hl]; rfl)
      subst this
      rw [e]; exact (Lib.itoa_nonneg n).symm
    | true =>
      have h45 : Lib.decDigits u = 45 :: tl := by rw [← e, hl]; rfl
      have := dec_dig (u + 1) u (by omega) 45 (by rw [h45]; simp)
      exact absurd this.1 (by decide)
  · obtain ⟨u, hu⟩ := Int.eq_ofNat_of_zero_le (show 0 ≤ -v by omega)
    obtain rfl : v = -(u : Int) := by omega
    rw [Lib.itoa_neg u (by omega)] at e
    cases neg with
    | false =>
      have h45 : tl = 45 :: Lib.decDigits u := by rw [← e, hl]; rfl
      exact absurd (by decide) (hn rfl _ _ h45)
    | true =>
      have : 45 :: tl = 45 :: Lib.decDigits u := by rw [← e, hl]; rfl
      injection this with _ this
      have := main u (by omega) this
      subst this
      rw [e]; exact (Lib.itoa_neg n (by omega)).symm
end Go.Proofs.YtfmchkagdaaeeaaGreatDoor
