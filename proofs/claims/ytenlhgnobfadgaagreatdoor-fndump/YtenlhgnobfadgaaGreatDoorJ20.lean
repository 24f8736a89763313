/- Texts of stores, joined: DecM, Read, Read2, Read3. -/
import Derived.Lib.ItoaMem
import Derived.Lib.AtoiAll
import Derived.Test.YtenlhgnobfadgaaGreatDoorJ17
import Derived.Lib.Strings
import Derived.Lib.RabinKarpLaws
set_option maxRecDepth 100000
set_option maxHeartbeats 4000000
set_option linter.unusedSimpArgs false
set_option linter.unusedVariables false
namespace Go.Proofs.YtenlhgnobfadgaaGreatDoor
def Dig (c : UInt8) : Prop := 48 ≤ c.toNat ∧ c.toNat ≤ 57
def dvl : Nat → List UInt8 → Nat
 | acc, [] => acc
 | acc, c :: r => dvl (10 * acc + (c.toNat - 48)) r
theorem dvl_snoc : ∀ (l : List UInt8) (acc : Nat) (c : UInt8), dvl acc (l ++ [c]) = 10 * dvl acc l + (c.toNat - 48)
 | [], _, _ => rfl
 | _ :: l, _, c => dvl_snoc l _ c
theorem dig_of (d : Nat) (h : d < 10) : (UInt8.ofNat (48 + d)).toNat = 48 + d := by
 rw [UInt8.toNat_ofNat']; omega
theorem dec_lt (u : Nat) (h : u < 10) : Lib.decDigits u = [UInt8.ofNat (48 + u)] := Lib.decDigits_one h
theorem dec_ge (u : Nat) (h : ¬ u < 10) : Lib.decDigits u = Lib.decDigits (u / 10) ++ [UInt8.ofNat (48 + u % 10)] := by rw [Lib.decDigits, dif_neg h]
theorem dec_dig : ∀ (f u : Nat), u < f → ∀ c ∈ Lib.decDigits u, Dig c
 | 0, _, h => absurd h (Nat.not_lt_zero _)
 | f + 1, u, h => by
  intro c hc
  by_cases h1 : u < 10
  ·rw [dec_lt u h1, List.mem_singleton] at hc
   subst hc
   have := dig_of u h1
   unfold Dig; omega
  ·rw [dec_ge u h1] at hc
   rcases List.mem_append.1 hc with hc | hc
   ·exact dec_dig f (u / 10) (by omega) c hc
   ·rw [List.mem_singleton] at hc
    subst hc
    have := dig_of (u % 10) (by omega)
    unfold Dig; omega
theorem dvl_one (c : UInt8) : dvl 0 [c] = c.toNat - 48 := by
 show 10 * 0 + (c.toNat - 48) = c.toNat - 48
 omega
theorem dec_val_step (u q : Nat) (l : List UInt8) (hl : dvl 0 l = q) (hq : q = u / 10) : dvl 0 (l ++ [UInt8.ofNat (48 + u % 10)]) = u := by
 have e := dig_of (u % 10) (by omega)
 have s := dvl_snoc l 0 (UInt8.ofNat (48 + u % 10))
 rw [hl, e] at s
 rw [s]; omega
theorem dec_val (f : Nat) : ∀ u : Nat, u < f → dvl 0 (Lib.decDigits u) = u := by
 induction f with
 | zero => intro u h; exact absurd h (Nat.not_lt_zero _)
 | succ f ih =>
  intro u h
  by_cases h1 : u < 10
  ·have e := dec_lt u h1
   rw [e, dvl_one]
   have := dig_of u h1
   omega
  ·have e := dec_ge u h1
   rw [e]
   exact dec_val_step u (u / 10) _ (ih (u / 10) (by omega)) rfl
theorem dec_len : ∀ (k u : Nat), u < 10 ^ (k + 1) → (Lib.decDigits u).length ≤ k + 1
 | 0, u, h => by rw [dec_lt u (by simpa using h)]; simp
 | k + 1, u, h => by
  by_cases h1 : u < 10
  ·rw [dec_lt u h1]; simp
  ·rw [dec_ge u h1]
   have := dec_len k (u / 10) (by rw [Nat.pow_succ] at h; omega)
   simp; omega
theorem dec_some (u : Nat) : Lib.decDigits u ≠ [] := by
 by_cases h1 : u < 10
 ·rw [dec_lt u h1]; simp
 ·rw [dec_ge u h1]; simp
theorem parse_step (acc : Nat) (c : UInt8) (r : List UInt8) (hc : Dig c) (hb : acc * 10 + (c.toNat - 48) < 1000000000000000000) : Lib.parseUint10 acc (c :: r) = Lib.parseUint10 (10 * acc + (c.toNat - 48)) r := by
 unfold Dig at hc
 rw [Lib.parseUint10, if_pos hc, if_neg (by omega), if_neg (by omega), Nat.mul_comm acc 10]
theorem parse_dec (l : List UInt8) : ∀ acc : Nat, (∀ c ∈ l, Dig c) → (acc + 1) * 10 ^ l.length ≤ 1000000000000000000 → Lib.parseUint10 acc l = .ok (dvl acc l) := by
 induction l with
 | nil => intro acc _ _; rfl
 | cons c r ih =>
  intro acc hd hb
  have hc := hd c (by simp)
  have hc2 : c.toNat ≤ 57 := hc.2
  have hp : 1 ≤ 10 ^ r.length := Nat.pos_of_ne_zero (by simp)
  have hb1 : (acc + 1) * 10 * 10 ^ r.length ≤ 1000000000000000000 := by
   rw [List.length_cons, Nat.pow_succ, Nat.mul_comm (10 ^ r.length) 10, ← Nat.mul_assoc] at hb; exact hb
  have hb2 : (acc + 1) * 10 * 1 ≤ (acc + 1) * 10 * 10 ^ r.length := Nat.mul_le_mul (Nat.le_refl _) hp
  have hb3 : (10 * acc + (c.toNat - 48) + 1) * 10 ^ r.length ≤ (acc + 1) * 10 * 10 ^ r.length := Nat.mul_le_mul (by omega) (Nat.le_refl _)
  rw [parse_step acc c r hc (by omega)]
  exact ih _ (fun x hx => hd x (by simp [hx])) (Nat.le_trans hb3 hb1)
theorem atoi_itoa (v : Int) (h0 : -999999999 ≤ v) (h1 : v ≤ 999999999) : Lib.atoiAll (Lib.itoa v) = .ok v := by
 have key : ∀ u : Nat, u ≤ 999999999 → Lib.parseMag (Lib.decDigits u) = .ok u := by
  intro u hu
  have hl := dec_len 8 u (by omega)
  have hpw : (10 : Nat) ^ (Lib.decDigits u).length ≤ 10 ^ 9 := Nat.pow_le_pow_right (by omega) hl
  unfold Lib.parseMag
  rw [if_neg (dec_some u), parse_dec _ 0 (dec_dig (u + 1) u (by omega)) (by omega), dec_val (u + 1) u (by omega)]
 by_cases hv : 0 ≤ v
 ·obtain ⟨u, rfl⟩ := Int.eq_ofNat_of_zero_le hv
  rw [Lib.itoa_nonneg]
  cases hd : Lib.decDigits u with
  | nil => exact absurd hd (dec_some u)
  | cons c r =>
   have hc := dec_dig (u + 1) u (by omega) c (by rw [hd]; simp)
   obtain ⟨c1, c2⟩ := hc
   simp only [Lib.atoiAll]
   rw [if_neg (by omega), ← hd, key u (by omega)]
   simp only
   rw [if_neg (by omega), if_neg (by omega), if_neg (by omega)]
 ·obtain ⟨u, hu⟩ := Int.eq_ofNat_of_zero_le (show 0 ≤ -v by omega)
  have hv' : v = -(u : Int) := by omega
  subst hv'
  rw [Lib.itoa_neg u (by omega)]
  simp only [Lib.atoiAll]
  rw [if_pos (by decide), key u (by omega)]
  simp only
  rw [if_neg (by simp), if_neg (by omega), if_pos (by decide)]
end Go.Proofs.YtenlhgnobfadgaaGreatDoor
namespace Go.Proofs.YtenlhgnobfadgaaGreatDoor
open Go.RowKit
def Ans (l : List UInt8) (a : Int) (b : Bool) : Prop :=
 (b = true ∧ l = Lib.itoa a ∧ -999999999 ≤ a ∧ a ≤ 999999999) ∨ (b = false ∧ a = 0 ∧ ∀ v, -999999999 ≤ v → v ≤ 999999999 → l ≠ Lib.itoa v)
theorem Ans.same {l : List UInt8} {a a' : Int} {b b' : Bool} (h : Ans l a b) (h' : Ans l a' b') : a = a' ∧ b = b' := by
 rcases h with ⟨rfl, h1, h2, h3⟩ | ⟨rfl, rfl, h1⟩ <;> rcases h' with ⟨rfl, k1, k2, k3⟩ | ⟨rfl, rfl, k1⟩
 ·have e1 := atoi_itoa a h2 h3
  have e2 := atoi_itoa a' k2 k3
  rw [← h1] at e1
  rw [← k1, e1] at e2
  injection e2 with e2
  exact ⟨e2, rfl⟩
 ·exact absurd h1 (k1 a h2 h3)
 ·exact absurd k1 (h1 a' k2 k3)
 ·exact ⟨rfl, rfl⟩
theorem in_calls (x a b : Int) (w : World) : Calls Tryz.prog 54 #[.int .i64 x, .int .i64 a, .int .i64 b] w fun e w' => e = .returned (.bool (decide (a ≤ x) && decide (x ≤ b))) ∧ w' = w := by
 by_cases h : a ≤ x
 ·go_enter Tryz.func54, Tryz.ntmps54
  go_wp2
  go_ret
  exact ⟨by simp [h], rfl⟩
 ·have hd : decide (a ≤ x) = false := by simpa using h
  go_enter Tryz.func54, Tryz.ntmps54
  go_wp2
  go_ret
  exact ⟨by simp, rfl⟩
theorem dvl_lt (l : List UInt8) : ∀ acc : Nat, (∀ c ∈ l, Dig c) → dvl acc l < (acc + 1) * 10 ^ l.length := by
 induction l with
 | nil => intro acc _; show acc < (acc + 1) * 1; omega
 | cons c r ih =>
  intro acc hd
  have hc2 : c.toNat ≤ 57 := (hd c (by simp)).2
  have h1 := ih (10 * acc + (c.toNat - 48)) (fun x hx => hd x (by simp [hx]))
  have h2 : (10 * acc + (c.toNat - 48) + 1) * 10 ^ r.length ≤ (acc + 1) * 10 * 10 ^ r.length := Nat.mul_le_mul (by omega) (Nat.le_refl _)
  have e : (acc + 1) * 10 * 10 ^ r.length = (acc + 1) * 10 ^ (c :: r).length := by rw [List.length_cons, Nat.pow_succ, Nat.mul_comm (10 ^ r.length) 10, Nat.mul_assoc]
  rw [← e]
  exact Nat.lt_of_lt_of_le h1 h2
theorem take_next (t : ByteArray) (i : Nat) (h : i < t.size) : t.data.toList.take (i + 1) = t.data.toList.take i ++ [t[i]'h] := by
 rw [List.take_add_one, byte_at t i h]; rfl
theorem bad_of (l : List UInt8) (tl : List UInt8) (neg : Bool) (hl : l = if neg then 45 :: tl else tl) (hn : neg = false → ∀ c r, tl = c :: r → c.toNat ≠ 45)
  (hbad : tl = [] ∨ 9 < tl.length ∨ ∃ c ∈ tl, ¬ Dig c) : Ans l 0 false := by
 refine .inr ⟨rfl, rfl, fun v h0 h1 e => ?_⟩
 have main : ∀ u : Nat, u ≤ 999999999 → tl = Lib.decDigits u → False := by
  intro u hu he
  rcases hbad with h | h | ⟨c, hc, hd⟩
  ·exact dec_some u (he ▸ h)
  ·have := dec_len 8 u (by omega)
   rw [← he] at this; omega
  ·rw [he] at hc
   exact hd (dec_dig (u + 1) u (by omega) c hc)
 by_cases hv : 0 ≤ v
 ·obtain ⟨u, rfl⟩ := Int.eq_ofNat_of_zero_le hv
  rw [Lib.itoa_nonneg] at e
  cases neg with
  | false => exact main u (by omega) (by rw [← e, hl]; rfl)
  | true =>
   have h45 : Lib.decDigits u = 45 :: tl := by rw [← e, hl]; rfl
   have := dec_dig (u + 1) u (by omega) 45 (by rw [h45]; simp)
   exact absurd this.1 (by decide)
 ·obtain ⟨u, hu⟩ := Int.eq_ofNat_of_zero_le (show 0 ≤ -v by omega)
  obtain rfl : v = -(u : Int) := by omega
  rw [Lib.itoa_neg u (by omega)] at e
  cases neg with
  | false =>
   have h45 : tl = 45 :: Lib.decDigits u := by rw [← e, hl]; rfl
   exact hn rfl _ _ h45 (by decide)
  | true =>
   have : 45 :: tl = 45 :: Lib.decDigits u := by rw [← e, hl]; rfl
   injection this with _ this
   exact main u (by omega) this
theorem good_of (l : List UInt8) (tl : List UInt8) (neg : Bool) (n : Nat) (hl : l = if neg then 45 :: tl else tl) (hn : neg = false → ∀ c r, tl = c :: r → c.toNat ≠ 45)
  (hd : ∀ c ∈ tl, Dig c) (h9 : tl.length ≤ 9) (hv : n = dvl 0 tl) :
  (l = Lib.itoa (if neg then -(n : Int) else n) → Ans l (if neg then -(n : Int) else n) true) ∧ (l ≠ Lib.itoa (if neg then -(n : Int) else n) → Ans l 0 false) := by
 have hlt := dvl_lt tl 0 hd
 have hpw : (10 : Nat) ^ tl.length ≤ 10 ^ 9 := Nat.pow_le_pow_right (by omega) h9
 have hn9 : n ≤ 999999999 := by rw [hv]; omega
 refine ⟨fun h => .inl ⟨rfl, h, by split <;> omega, by split <;> omega⟩, fun h => .inr ⟨rfl, rfl, fun v h0 h1 e => h ?_⟩⟩
 have main : ∀ u : Nat, u ≤ 999999999 → tl = Lib.decDigits u → n = u := by
  intro u hu he
  rw [hv, he, dec_val (u + 1) u (by omega)]
 by_cases hv0 : 0 ≤ v
 ·obtain ⟨u, rfl⟩ := Int.eq_ofNat_of_zero_le hv0
  rw [Lib.itoa_nonneg] at e
  cases neg with
  | false =>
   have := main u (by omega) (by rw [← e, hl]; rfl)
   subst this
   rw [e]; exact (Lib.itoa_nonneg n).symm
  | true =>
   have h45 : Lib.decDigits u = 45 :: tl := by rw [← e, hl]; rfl
   have := dec_dig (u + 1) u (by omega) 45 (by rw [h45]; simp)
   exact absurd this.1 (by decide)
 ·obtain ⟨u, hu⟩ := Int.eq_ofNat_of_zero_le (show 0 ≤ -v by omega)
  obtain rfl : v = -(u : Int) := by omega
  rw [Lib.itoa_neg u (by omega)] at e
  cases neg with
  | false =>
   have h45 : tl = 45 :: Lib.decDigits u := by rw [← e, hl]; rfl
   exact absurd (by decide) (hn rfl _ _ h45)
  | true =>
   have : 45 :: tl = 45 :: Lib.decDigits u := by rw [← e, hl]; rfl
   injection this with _ this
   have := main u (by omega) this
   subst this
   rw [e]; exact (Lib.itoa_neg n (by omega)).symm
def Told (e : Ending) (l : List UInt8) : Prop := ∃ (a : Int) (b : Bool), e = .returned (.tuple #[.int .i64 a, .bool b]) ∧ Ans l a b
def Signed (l tl : List UInt8) (neg : Bool) : Prop := (l = if neg then 45 :: tl else tl) ∧ (neg = false → ∀ c r, tl = c :: r → c.toNat ≠ 45)
theorem mem_at (t : ByteArray) (i : Nat) (h : i < t.size) : t[i]'h ∈ t.data.toList := List.mem_of_getElem? (byte_at t i h)
theorem nil_of (t : ByteArray) (h : t.size = 0) : t.data.toList = [] := List.length_eq_zero_iff.1 (by simpa using h)
theorem empty_of (t : ByteArray) (h : t.size = 0) : t.toList.isEmpty = true := by rw [ByteArray.toList_eq, nil_of t h]; rfl
theorem some_of (t : ByteArray) (h : ¬ t.size = 0) : t.toList.isEmpty = false := by
 rw [ByteArray.toList_eq]
 cases hl : t.data.toList with
 | nil => exact absurd (by have := congrArg List.length hl; simpa using this) h
 | cons a r => rfl
theorem dvl_next (t : ByteArray) (i : Nat) (h : i < t.size) (n : Nat) (hd : 48 ≤ (t[i]'h).toNat ∧ (t[i]'h).toNat ≤ 57) (h9 : t.size ≤ 9) (h1 : n = dvl 0 (t.data.toList.take i)) (h2 : ∀ c ∈ t.data.toList.take i, Dig c) :
  10 * n + ((t[i]'h).toNat - 48) < 1000000000 ∧ 10 * n + ((t[i]'h).toNat - 48) = dvl 0 (t.data.toList.take (i + 1)) ∧ ∀ c ∈ t.data.toList.take (i + 1), Dig c := by
 have hall : ∀ c ∈ t.data.toList.take (i + 1), Dig c := by
  rw [take_next t i h]
  intro c hc
  rcases List.mem_append.1 hc with hc | hc
  ·exact h2 c hc
  ·rw [List.mem_singleton] at hc
   subst hc; exact hd
 have hv : 10 * n + ((t[i]'h).toNat - 48) = dvl 0 (t.data.toList.take (i + 1)) := by
  rw [take_next t i h, dvl_snoc, ← h1]
 have hlt := dvl_lt _ 0 hall
 have hlen : (t.data.toList.take (i + 1)).length ≤ 9 := by simp; omega
 have hpw : (10 : Nat) ^ (t.data.toList.take (i + 1)).length ≤ 10 ^ 9 := Nat.pow_le_pow_right (by omega) hlen
 exact ⟨by rw [hv]; omega, hv, hall⟩
theorem spec_read_pos (s : ByteArray) (hs : s.size ≤ 1048576) (hp : ∀ c r, s.data.toList = c :: r → c.toNat ≠ 45) (w : World) : Calls Tryz.prog 19 #[.string s] w fun e w' => Told e s.data.toList ∧ w' = w := by
 have HS : Signed s.data.toList s.data.toList false := ⟨rfl, fun _ => hp⟩
 by_cases h0 : s.size = 0
 ·have z0 : decide ((0 : Int) < (s.size : Int)) = false := decide_eq_false (by omega)
  have z1 : decide (0 < s.size) = false := decide_eq_false (by omega)
  clear hp h0
  go_enter Tryz.func19, Tryz.ntmps19
  go_wp2
  go_loop [5, 6] (fun tn ti => ∃ n i : Nat, tn = .int .i64 n ∧ ti = .int .i64 i ∧ i ≤ s.size ∧ n < 1000000000 ∧ Hid (n = dvl 0 (s.data.toList.take i)) ∧ Hid (∀ c ∈ s.data.toList.take i, Dig c) ∧ Hid (0 < i → s.size ≤ 9)) (fun _ ti => s.size - (intOf ti).toNat)
  case atStart => exact ⟨0, 0, rfl, rfl, Nat.zero_le _, by omega, rfl, by simp [Hid], fun h => absurd h (Nat.lt_irrefl _)⟩
  case round =>
   obtain ⟨n, i, rfl, rfl, hi, hn9, H1, H2, H3⟩ := hrel
   by_cases hlt : i < s.size
   ·have c1 : (i : Int) < (s.size : Int) := by omega
    have h8 : (s[i]'hlt).toNat ≤ 255 := by have := (s[i]'hlt).toNat_lt; omega
    by_cases hdig : 48 ≤ (s[i]'hlt).toNat ∧ (s[i]'hlt).toNat ≤ 57
    ·obtain ⟨d1, d2⟩ := hdig
     have e1 : (48 : Int) ≤ ((s[i]'hlt).toNat : Int) := by omega
     have e2 : ((s[i]'hlt).toNat : Int) ≤ 57 := by omega
     by_cases h9 : s.size ≤ 9
     ·have e3 : (s.size : Int) ≤ 9 := by omega
      have hnx := dvl_next s i hlt n ⟨d1, d2⟩ h9 H1.out H2.out
      have Hnx := hidd hnx
      clear hnx H1 H2 H3
      go_wp2_with (go_at_call 54; refine (in_calls _ _ _ _).mono ?_; rintro e w' ⟨rfl, rfl⟩)
      go_round
      case rel => exact ⟨10 * n + ((s[i]'hlt).toNat - 48), i + 1, by go_num, by go_num, by omega, Hnx.out.1, Hnx.out.2.1, Hnx.out.2.2, fun _ => h9⟩
      case measure => simp [intOf]; omega
     ·have e3 : 9 < (s.size : Int) := by omega
      have hans := bad_of s.data.toList s.data.toList false HS.1 HS.2 (.inr (.inl (by simpa using (show 9 < s.size by omega))))
      have Hans := hidd hans
      clear hans H1 H2 H3
      go_wp2_with (go_at_call 54; refine (in_calls _ _ _ _).mono ?_; rintro e w' ⟨rfl, rfl⟩)
      go_ret2
      exact ⟨⟨0, false, rfl, Hans.out⟩, rfl⟩
    ·have hx : (decide ((48 : Int) ≤ ((s[i]'hlt).toNat : Int)) && decide (((s[i]'hlt).toNat : Int) ≤ 57)) = false := by simp; omega
     have hans := bad_of s.data.toList s.data.toList false HS.1 HS.2 (.inr (.inr ⟨s[i]'hlt, mem_at s i hlt, hdig⟩))
     have Hans := hidd hans
     clear hans H1 H2 H3 hdig
     go_wp2_with (go_at_call 54; refine (in_calls _ _ _ _).mono ?_; rintro e w' ⟨rfl, rfl⟩)
     all_goals first | (exfalso; omega) | (go_ret2; exact ⟨⟨0, false, rfl, Hans.out⟩, rfl⟩)
   ·have c1 : (s.size : Int) ≤ (i : Int) := by omega
    have hall : s.data.toList.take i = s.data.toList := List.take_of_length_le (by simp; omega)
    by_cases h0 : s.size = 0
    ·have hE : s.toList.isEmpty = true := empty_of s h0
     have hans := bad_of s.data.toList s.data.toList false HS.1 HS.2 (.inl (nil_of s h0))
     have Hans := hidd hans
     clear hans H1 H2 H3 hall h0
     go_wp2_with (go_at_call 54; refine (in_calls _ _ _ _).mono ?_; rintro e w' ⟨rfl, rfl⟩)
     all_goals (go_ret2; exact ⟨⟨0, false, rfl, Hans.out⟩, rfl⟩)
    ·have hE : s.toList.isEmpty = false := some_of s h0
     have h9 := H3.out (by omega)
     have hg := good_of s.data.toList s.data.toList false n HS.1 HS.2 (by rw [← hall]; exact H2.out) (by simpa using h9) (by rw [← hall]; exact H1.out)
     have Hg := hidd hg
     clear hg H1 H2 H3 hall h0
     go_wp2_with (go_at_call 54; refine (in_calls _ _ _ _).mono ?_; rintro e w' ⟨rfl, rfl⟩)
     refine (spec_dec ((n : Int)) (by omega) (by omega) _).mono ?_
     rintro e w1 ⟨rfl, hw⟩
     replace hw := hw.symm
     subst hw
     by_cases hq : s.data.toList = Lib.itoa ((n : Int))
     ·have hB : ((⟨(Lib.itoa ((n : Int))).toArray⟩ : ByteArray).toList == s.toList) = true := by rw [ByteArray.toList_eq, ByteArray.toList_eq, beq_iff_eq]; exact hq.symm
      have Hq := hidd (Hg.out.1 hq)
      generalize (⟨(Lib.itoa ((n : Int))).toArray⟩ : ByteArray) = S at hB ⊢
      clear hq Hg
      go_wp2_with fail
      all_goals (go_ret2; exact ⟨⟨_, true, rfl, Hq.out⟩, rfl⟩)
     ·have hB : ((⟨(Lib.itoa ((n : Int))).toArray⟩ : ByteArray).toList == s.toList) = false := by rw [ByteArray.toList_eq, ByteArray.toList_eq, beq_eq_false_iff_ne]; exact fun h => hq h.symm
      have Hq := hidd (Hg.out.2 hq)
      generalize (⟨(Lib.itoa ((n : Int))).toArray⟩ : ByteArray) = S at hB ⊢
      clear hq Hg
      go_wp2_with fail
      all_goals (go_ret2; exact ⟨⟨0, false, rfl, Hq.out⟩, rfl⟩)
 ·have hz : 0 < s.size := by omega
  have z0 : (0 : Int) < (s.size : Int) := by omega
  have z2 : (((s[0]'hz).toNat : Int) == 45) = false := by
   rw [beq_eq_false_iff_ne]
   have := byte_at s 0 hz
   cases hl : s.data.toList with
   | nil => rw [hl] at this; simp at this
   | cons c r =>
    rw [hl] at this
    simp at this
    have h := hp c r hl
    rw [this] at h
    omega
  clear hp h0
  go_enter Tryz.func19, Tryz.ntmps19
  go_wp2
  go_loop [5, 6] (fun tn ti => ∃ n i : Nat, tn = .int .i64 n ∧ ti = .int .i64 i ∧ i ≤ s.size ∧ n < 1000000000 ∧ Hid (n = dvl 0 (s.data.toList.take i)) ∧ Hid (∀ c ∈ s.data.toList.take i, Dig c) ∧ Hid (0 < i → s.size ≤ 9)) (fun _ ti => s.size - (intOf ti).toNat)
  case atStart => exact ⟨0, 0, rfl, rfl, Nat.zero_le _, by omega, rfl, by simp [Hid], fun h => absurd h (Nat.lt_irrefl _)⟩
  case round =>
   obtain ⟨n, i, rfl, rfl, hi, hn9, H1, H2, H3⟩ := hrel
   by_cases hlt : i < s.size
   ·have c1 : (i : Int) < (s.size : Int) := by omega
    have h8 : (s[i]'hlt).toNat ≤ 255 := by have := (s[i]'hlt).toNat_lt; omega
    by_cases hdig : 48 ≤ (s[i]'hlt).toNat ∧ (s[i]'hlt).toNat ≤ 57
    ·obtain ⟨d1, d2⟩ := hdig
     have e1 : (48 : Int) ≤ ((s[i]'hlt).toNat : Int) := by omega
     have e2 : ((s[i]'hlt).toNat : Int) ≤ 57 := by omega
     by_cases h9 : s.size ≤ 9
     ·have e3 : (s.size : Int) ≤ 9 := by omega
      have hnx := dvl_next s i hlt n ⟨d1, d2⟩ h9 H1.out H2.out
      have Hnx := hidd hnx
      clear hnx H1 H2 H3
      go_wp2_with (go_at_call 54; refine (in_calls _ _ _ _).mono ?_; rintro e w' ⟨rfl, rfl⟩)
      go_round
      case rel => exact ⟨10 * n + ((s[i]'hlt).toNat - 48), i + 1, by go_num, by go_num, by omega, Hnx.out.1, Hnx.out.2.1, Hnx.out.2.2, fun _ => h9⟩
      case measure => simp [intOf]; omega
     ·have e3 : 9 < (s.size : Int) := by omega
      have hans := bad_of s.data.toList s.data.toList false HS.1 HS.2 (.inr (.inl (by simpa using (show 9 < s.size by omega))))
      have Hans := hidd hans
      clear hans H1 H2 H3
      go_wp2_with (go_at_call 54; refine (in_calls _ _ _ _).mono ?_; rintro e w' ⟨rfl, rfl⟩)
      go_ret2
      exact ⟨⟨0, false, rfl, Hans.out⟩, rfl⟩
    ·have hx : (decide ((48 : Int) ≤ ((s[i]'hlt).toNat : Int)) && decide (((s[i]'hlt).toNat : Int) ≤ 57)) = false := by simp; omega
     have hans := bad_of s.data.toList s.data.toList false HS.1 HS.2 (.inr (.inr ⟨s[i]'hlt, mem_at s i hlt, hdig⟩))
     have Hans := hidd hans
     clear hans H1 H2 H3 hdig
     go_wp2_with (go_at_call 54; refine (in_calls _ _ _ _).mono ?_; rintro e w' ⟨rfl, rfl⟩)
     all_goals first | (exfalso; omega) | (go_ret2; exact ⟨⟨0, false, rfl, Hans.out⟩, rfl⟩)
   ·have c1 : (s.size : Int) ≤ (i : Int) := by omega
    have hall : s.data.toList.take i = s.data.toList := List.take_of_length_le (by simp; omega)
    by_cases h0 : s.size = 0
    ·have hE : s.toList.isEmpty = true := empty_of s h0
     have hans := bad_of s.data.toList s.data.toList false HS.1 HS.2 (.inl (nil_of s h0))
     have Hans := hidd hans
     clear hans H1 H2 H3 hall h0
     go_wp2_with (go_at_call 54; refine (in_calls _ _ _ _).mono ?_; rintro e w' ⟨rfl, rfl⟩)
     all_goals (go_ret2; exact ⟨⟨0, false, rfl, Hans.out⟩, rfl⟩)
    ·have hE : s.toList.isEmpty = false := some_of s h0
     have h9 := H3.out (by omega)
     have hg := good_of s.data.toList s.data.toList false n HS.1 HS.2 (by rw [← hall]; exact H2.out) (by simpa using h9) (by rw [← hall]; exact H1.out)
     have Hg := hidd hg
     clear hg H1 H2 H3 hall h0
     go_wp2_with (go_at_call 54; refine (in_calls _ _ _ _).mono ?_; rintro e w' ⟨rfl, rfl⟩)
     refine (spec_dec ((n : Int)) (by omega) (by omega) _).mono ?_
     rintro e w1 ⟨rfl, hw⟩
     replace hw := hw.symm
     subst hw
     by_cases hq : s.data.toList = Lib.itoa ((n : Int))
     ·have hB : ((⟨(Lib.itoa ((n : Int))).toArray⟩ : ByteArray).toList == s.toList) = true := by rw [ByteArray.toList_eq, ByteArray.toList_eq, beq_iff_eq]; exact hq.symm
      have Hq := hidd (Hg.out.1 hq)
      generalize (⟨(Lib.itoa ((n : Int))).toArray⟩ : ByteArray) = S at hB ⊢
      clear hq Hg
      go_wp2_with fail
      all_goals (go_ret2; exact ⟨⟨_, true, rfl, Hq.out⟩, rfl⟩)
     ·have hB : ((⟨(Lib.itoa ((n : Int))).toArray⟩ : ByteArray).toList == s.toList) = false := by rw [ByteArray.toList_eq, ByteArray.toList_eq, beq_eq_false_iff_ne]; exact fun h => hq h.symm
      have Hq := hidd (Hg.out.2 hq)
      generalize (⟨(Lib.itoa ((n : Int))).toArray⟩ : ByteArray) = S at hB ⊢
      clear hq Hg
      go_wp2_with fail
      all_goals (go_ret2; exact ⟨⟨0, false, rfl, Hq.out⟩, rfl⟩)
theorem cut_one (s : ByteArray) (hz : 0 < s.size) (h : (s[0]'hz).toNat = 45) : s.data.toList = 45 :: (s.extract 1 s.size).data.toList ∧ (s.extract 1 s.size).size + 1 = s.size := by
 have hb := byte_at s 0 hz
 have e : (s.extract 1 s.size).data.toList = s.data.toList.drop 1 := by
  rw [Lib.extract_data]; exact List.take_of_length_le (by simp)
 cases hl : s.data.toList with
 | nil => rw [hl] at hb; simp at hb
 | cons c r =>
  rw [hl] at hb e
  simp at hb
  rw [List.drop_succ_cons, List.drop_zero] at e
  have hc : c = 45 := by rw [hb]; exact UInt8.toNat_inj.1 h
  have hsz : s.size = r.length + 1 := by have := congrArg List.length hl; simpa using this
  refine ⟨by rw [e, hc], ?_⟩
  have : (s.extract 1 s.size).size = r.length := by have := congrArg List.length e; simpa using this
  omega
theorem other_of (s t : ByteArray) (h : t.size + 1 = s.size) : (t.toList == s.toList) = false := by
 rw [ByteArray.toList_eq, ByteArray.toList_eq, beq_eq_false_iff_ne]
 intro e
 have := congrArg List.length e
 simp at this
 omega
theorem spec_read_neg (s : ByteArray) (hs : s.size ≤ 1048576) (hz : 0 < s.size) (h45 : (s[0]'hz).toNat = 45) (w : World) : Calls Tryz.prog 19 #[.string s] w fun e w' => Told e s.data.toList ∧ w' = w := by
 obtain ⟨k1, k2⟩ := cut_one s hz h45
 have HS0 : Signed s.data.toList (s.extract 1 s.size).data.toList true := ⟨k1, fun h => by cases h⟩
 have z0 : (0 : Int) < (s.size : Int) := by omega
 have z2 : (((s[0]'hz).toNat : Int) == 45) = true := by rw [beq_iff_eq]; omega
 have hne := other_of s (s.extract 1 s.size) k2
 have Hk2 := hidd k2
 have Hne := hidd hne
 clear h45 k1 k2 hne
 have z3 : (1 : Int) ≤ (s.size : Int) := by omega
 go_enter Tryz.func19, Tryz.ntmps19
 go_wp2
 generalize s.extract 1 s.size = t at HS0 Hk2 Hne ⊢
 have hne := Hne.out
 have hts : t.size ≤ 1048576 := by have := Hk2.out; omega
 have HS := HS0
 go_loop [5, 6] (fun tn ti => ∃ n i : Nat, tn = .int .i64 n ∧ ti = .int .i64 i ∧ i ≤ t.size ∧ n < 1000000000 ∧ Hid (n = dvl 0 (t.data.toList.take i)) ∧ Hid (∀ c ∈ t.data.toList.take i, Dig c) ∧ Hid (0 < i → t.size ≤ 9)) (fun _ ti => t.size - (intOf ti).toNat)
 case atStart => exact ⟨0, 0, rfl, rfl, Nat.zero_le _, by omega, rfl, by simp [Hid], fun h => absurd h (Nat.lt_irrefl _)⟩
 case round =>
  obtain ⟨n, i, rfl, rfl, hi, hn9, H1, H2, H3⟩ := hrel
  by_cases hlt : i < t.size
  ·have c1 : (i : Int) < (t.size : Int) := by omega
   have h8 : (t[i]'hlt).toNat ≤ 255 := by have := (t[i]'hlt).toNat_lt; omega
   by_cases hdig : 48 ≤ (t[i]'hlt).toNat ∧ (t[i]'hlt).toNat ≤ 57
   ·obtain ⟨d1, d2⟩ := hdig
    have e1 : (48 : Int) ≤ ((t[i]'hlt).toNat : Int) := by omega
    have e2 : ((t[i]'hlt).toNat : Int) ≤ 57 := by omega
    by_cases h9 : t.size ≤ 9
    ·have e3 : (t.size : Int) ≤ 9 := by omega
     have hnx := dvl_next t i hlt n ⟨d1, d2⟩ h9 H1.out H2.out
     have Hnx := hidd hnx
     clear hnx H1 H2 H3
     go_wp2_with (go_at_call 54; refine (in_calls _ _ _ _).mono ?_; rintro e w' ⟨rfl, rfl⟩)
     go_round
     case rel => exact ⟨10 * n + ((t[i]'hlt).toNat - 48), i + 1, by go_num, by go_num, by omega, Hnx.out.1, Hnx.out.2.1, Hnx.out.2.2, fun _ => h9⟩
     case measure => simp [intOf]; omega
    ·have e3 : 9 < (t.size : Int) := by omega
     have hans := bad_of s.data.toList t.data.toList true HS.1 HS.2 (.inr (.inl (by simpa using (show 9 < t.size by omega))))
     have Hans := hidd hans
     clear hans H1 H2 H3
     go_wp2_with (go_at_call 54; refine (in_calls _ _ _ _).mono ?_; rintro e w' ⟨rfl, rfl⟩)
     go_ret2
     exact ⟨⟨0, false, rfl, Hans.out⟩, rfl⟩
   ·have hx : (decide ((48 : Int) ≤ ((t[i]'hlt).toNat : Int)) && decide (((t[i]'hlt).toNat : Int) ≤ 57)) = false := by simp; omega
    have hans := bad_of s.data.toList t.data.toList true HS.1 HS.2 (.inr (.inr ⟨t[i]'hlt, mem_at t i hlt, hdig⟩))
    have Hans := hidd hans
    clear hans H1 H2 H3 hdig
    go_wp2_with (go_at_call 54; refine (in_calls _ _ _ _).mono ?_; rintro e w' ⟨rfl, rfl⟩)
    all_goals first | (exfalso; omega) | (go_ret2; exact ⟨⟨0, false, rfl, Hans.out⟩, rfl⟩)
  ·have c1 : (t.size : Int) ≤ (i : Int) := by omega
   have hall : t.data.toList.take i = t.data.toList := List.take_of_length_le (by simp; omega)
   by_cases h0 : t.size = 0
   ·have hE : t.toList.isEmpty = true := empty_of t h0
    have hans := bad_of s.data.toList t.data.toList true HS.1 HS.2 (.inl (nil_of t h0))
    have Hans := hidd hans
    clear hans H1 H2 H3 hall h0
    go_wp2_with (go_at_call 54; refine (in_calls _ _ _ _).mono ?_; rintro e w' ⟨rfl, rfl⟩)
    all_goals (go_ret2; exact ⟨⟨0, false, rfl, Hans.out⟩, rfl⟩)
   ·have hE : t.toList.isEmpty = false := some_of t h0
    have h9 := H3.out (by omega)
    have hg := good_of s.data.toList t.data.toList true n HS.1 HS.2 (by rw [← hall]; exact H2.out) (by simpa using h9) (by rw [← hall]; exact H1.out)
    have Hg := hidd hg
    clear hg H1 H2 H3 hall h0
    go_wp2_with (go_at_call 54; refine (in_calls _ _ _ _).mono ?_; rintro e w' ⟨rfl, rfl⟩)
    refine (spec_dec (-(n : Int)) (by omega) (by omega) _).mono ?_
    rintro e w1 ⟨rfl, hw⟩
    replace hw := hw.symm
    subst hw
    by_cases hq : s.data.toList = Lib.itoa (-(n : Int))
    ·have hB : ((⟨(Lib.itoa (-(n : Int))).toArray⟩ : ByteArray).toList == s.toList) = true := by rw [ByteArray.toList_eq, ByteArray.toList_eq, beq_iff_eq]; exact hq.symm
     have Hq := hidd (Hg.out.1 hq)
     generalize (⟨(Lib.itoa (-(n : Int))).toArray⟩ : ByteArray) = S at hB ⊢
     clear hq Hg
     go_wp2_with fail
     all_goals (go_ret2; exact ⟨⟨_, true, rfl, Hq.out⟩, rfl⟩)
    ·have hB : ((⟨(Lib.itoa (-(n : Int))).toArray⟩ : ByteArray).toList == s.toList) = false := by rw [ByteArray.toList_eq, ByteArray.toList_eq, beq_eq_false_iff_ne]; exact fun h => hq h.symm
     have Hq := hidd (Hg.out.2 hq)
     generalize (⟨(Lib.itoa (-(n : Int))).toArray⟩ : ByteArray) = S at hB ⊢
     clear hq Hg
     go_wp2_with fail
     all_goals (go_ret2; exact ⟨⟨0, false, rfl, Hq.out⟩, rfl⟩)
theorem spec_read (s : ByteArray) (hs : s.size ≤ 1048576) (w : World) : Calls Tryz.prog 19 #[.string s] w fun e w' => Told e s.data.toList ∧ w' = w := by
 by_cases h : ∃ hz : 0 < s.size, (s[0]'hz).toNat = 45
 ·obtain ⟨hz, h45⟩ := h
  exact spec_read_neg s hs hz h45 w
 ·refine spec_read_pos s hs (fun c r hl hc => h ?_) w
  have hz : 0 < s.size := by have := congrArg List.length hl; simp at this; omega
  refine ⟨hz, ?_⟩
  have := byte_at s 0 hz
  rw [hl] at this
  simp at this
  rw [← this]; exact hc
theorem told_no {l : List UInt8} (h : ∀ v, Lib.atoiAll l ≠ .ok v) : Ans l 0 false :=
 .inr ⟨rfl, rfl, fun v h0 h1 e => h v (by rw [e]; exact atoi_itoa v h0 h1)⟩
theorem told_out {l : List UInt8} {v : Int} (h : Lib.atoiAll l = .ok v) (hv : v < -999999999 ∨ 999999999 < v) : Ans l 0 false :=
 .inr ⟨rfl, rfl, fun u h0 h1 e => by
  have := atoi_itoa u h0 h1
  rw [← e, h] at this
  injection this with this
  omega⟩
theorem told_other {l : List UInt8} {v : Int} (h : Lib.atoiAll l = .ok v) (hv : l ≠ Lib.itoa v) : Ans l 0 false :=
 .inr ⟨rfl, rfl, fun u h0 h1 e => by
  have := atoi_itoa u h0 h1
  rw [← e, h] at this
  injection this with this
  subst this
  exact hv e⟩
def AtoiOk (s : ByteArray) (w : World) : Prop := ∀ v, Lib.atoiAll s.data.toList = .ok v → Calls Tryz.prog 96 #[.string s] w fun e w' => e = .returned (.tuple #[.int .i64 v, .nilIface]) ∧ Below w.heap.size w w'
def AtoiNo (s : ByteArray) (w : World) : Prop := (∀ v, Lib.atoiAll s.data.toList ≠ .ok v) → Calls Tryz.prog 96 #[.string s] w fun e w' => (∃ (x : Int) (N : Nat), e = .returned (.tuple #[.int .i64 x, .iface 200 (.pointer (some ⟨N, 0, none⟩))])) ∧ Below w.heap.size w w'
def ItoaAll (w : World) : Prop := ∀ (v : Int) (w1 : World), -9223372036854775808 ≤ v → v ≤ 9223372036854775807 → Below w.heap.size w w1 → Calls Tryz.prog 67 #[.int .i64 v] w1 fun e w' => e = .returned (.string ⟨(Lib.itoa v).toArray⟩) ∧ Below w1.heap.size w1 w'
theorem impl_read (s : ByteArray) (w : World) (hA : AtoiOk s w) (hN : AtoiNo s w) (hI : ItoaAll w) : Calls Tryz.prog 58 #[.string s] w fun e w' => Told e s.data.toList ∧ Below w.heap.size w w' := by
 by_cases hok : ∃ v, Lib.atoiAll s.data.toList = .ok v
 ·obtain ⟨v, hv⟩ := hok
  have Hv := hidd hv
  clear hv hN
  go_enter Tryz.func58, Tryz.ntmps58
  go_wp2_with fail
  refine (hA v Hv.out).mono ?_
  rintro e w1 ⟨rfl, hb⟩
  clear hA
  by_cases h1 : v < -999999999
  ·have Ha := hidd (told_out Hv.out (.inl h1))
   go_wp2_with fail
   go_ret2
   exact ⟨⟨0, false, rfl, Ha.out⟩, hb⟩
  ·by_cases h2 : 999999999 < v
   ·have Ha := hidd (told_out Hv.out (.inr h2))
    have h3 : -999999999 ≤ v := by omega
    go_wp2_with fail
    go_ret2
    exact ⟨⟨0, false, rfl, Ha.out⟩, hb⟩
   ·have h3 : -999999999 ≤ v := by omega
    have h4 : v ≤ 999999999 := by omega
    go_wp2_with (go_at_call 31; go_in)
    refine (hI v w1 (by omega) (by omega) hb).mono ?_
    rintro e w2 ⟨rfl, hb2⟩
    replace hb := hb.trans (hb2.mono hb.size)
    clear hb2 hI
    by_cases hq : s.data.toList = Lib.itoa v
    ·have hB : ((⟨(Lib.itoa v).toArray⟩ : ByteArray).toList == s.toList) = true := by rw [ByteArray.toList_eq, ByteArray.toList_eq, beq_iff_eq]; exact hq.symm
     have Ha := hidd (show Ans s.data.toList v true from .inl ⟨rfl, hq, h3, h4⟩)
     generalize (⟨(Lib.itoa v).toArray⟩ : ByteArray) = S at hB ⊢
     clear hq
     go_wp2_with fail
     all_goals (go_ret2; exact ⟨⟨v, true, rfl, Ha.out⟩, hb⟩)
    ·have hB : ((⟨(Lib.itoa v).toArray⟩ : ByteArray).toList == s.toList) = false := by rw [ByteArray.toList_eq, ByteArray.toList_eq, beq_eq_false_iff_ne]; exact fun h => hq h.symm
     have Ha := hidd (told_other Hv.out hq)
     generalize (⟨(Lib.itoa v).toArray⟩ : ByteArray) = S at hB ⊢
     clear hq
     go_wp2_with fail
     all_goals (go_ret2; exact ⟨⟨0, false, rfl, Ha.out⟩, hb⟩)
 ·have hno : ∀ v, Lib.atoiAll s.data.toList ≠ .ok v := fun v h => hok ⟨v, h⟩
  have Hno := hidd hno
  have Ha := hidd (told_no hno)
  clear hno hok hA hI
  go_enter Tryz.func58, Tryz.ntmps58
  go_wp2_with fail
  refine (hN Hno.out).mono ?_
  rintro e w1 ⟨⟨x, N, rfl⟩, hb⟩
  clear hN
  go_wp2_with fail
  go_ret2
  exact ⟨⟨0, false, rfl, Ha.out⟩, hb⟩
end Go.Proofs.YtenlhgnobfadgaaGreatDoor
