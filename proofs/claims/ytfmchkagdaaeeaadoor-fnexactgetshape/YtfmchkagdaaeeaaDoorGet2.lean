/- The landed GetNum answers what is read of five bytes at most, as the specification's does: its contract. -/
import Derived.Test.YtfmchkagdaaeeaaDoorGet
namespace Go.Proofs.YtfmchkagdaaeeaaDoor
open Go.RowKit
theorem i64_or_nat (a b : Nat) (ha : a < 9223372036854775808) (hb : b < 9223372036854775808) : bits .or .i64 (a : Int) (b : Int) = ((a ||| b : Nat) : Int) := by
  have hx : a ||| b < 2 ^ 63 := Nat.or_lt_two_pow (by omega) (by omega)
  show IntKind.i64.wrap ((BitVec.ofInt 64 (a : Int) ||| BitVec.ofInt 64 (b : Int)).toNat : Int) = _
  rw [BitVec.toNat_or, ofInt_u64 a (by omega), ofInt_u64 b (by omega)]
  exact IntWalk.i64_in _ ⟨by omega, by omega⟩
theorem or_acc' (n b p : Nat) (e : Nat) (hp : p = 2 ^ e) (hn : n < p) (hle : p ≤ 268435456) (hb : b < 128) : bits .or .i64 (n : Int) (wrap64 ((b : Int) * 2 ^ e)) = ((n + b * p : Nat) : Int) := by
  have hmul : b * p ≤ 127 * 268435456 := Nat.mul_le_mul (by omega) hle
  have e3 : (b : Int) * 2 ^ e = ((b * p : Nat) : Int) := by rw [Int.natCast_mul, hp, Int.natCast_pow]; rfl
  have e4 : wrap64 ((b * p : Nat) : Int) = ((b * p : Nat) : Int) := IntWalk.wrap64_in _ ⟨by omega, by omega⟩
  rw [e3, e4]
  generalize hq : b * p = q at *
  rw [i64_or_nat n q (by omega) (by omega), Nat.or_comm, nat_join e q n (by rw [← hp, ← hq]; exact Nat.mul_mod_left _ _) (by rw [← hp]; exact hn), Nat.add_comm]
theorem or_acc (n b j : Nat) (hn : n < 128 ^ j) (hb : b ≤ 255) (hj : j ≤ 4) :
    bits .or .i64 (n : Int) (wrap64 (wrap64 (bits .and .u8 (b : Int) 127) * 2 ^ (7 * j))) = ((n + b % 128 * 128 ^ j : Nat) : Int) := by
  have hp : (128 : Nat) ^ j = 2 ^ (7 * j) := by rw [Nat.pow_mul]
  have hle := pow128_le j hj
  have e1 : bits .and .u8 (b : Int) 127 = ((b % 128 : Nat) : Int) := by
    have := u8_and_nat b 127 (by omega) (by omega)
    rw [nat_mask7] at this; exact this
  have e2 : wrap64 ((b % 128 : Nat) : Int) = ((b % 128 : Nat) : Int) := IntWalk.wrap64_in _ ⟨by omega, by omega⟩
  rw [e1, e2]
  generalize 128 ^ j = p at *
  exact or_acc' n (b % 128) p (7 * j) hp hn hle (by omega)
set_option maxRecDepth 100000 in
set_option maxHeartbeats 4000000 in
theorem impl_get (s : ByteArray) (i : Nat) (hs : s.size ≤ maxLen) (hi : i < s.size) (w : World) : Calls Tryd.prog 49 #[.string s, .int .i64 i] w fun e w' => e = .returned (.tuple #[.int .i64 (gnN (gn s i 5 0)), .int .i64 (gnK (gn s i 5 0))]) ∧ w' = w := by
  unfold maxLen at hs
  have hi' : (i : Int) < (s.size : Int) := by omega
  have hd0 : decide (s.size ≤ i) = false := by simp; omega
  have hd1 : decide ((i : Int) < 0) = false := by simp
  go_enter Tryd.func49, Tryd.ntmps49
  go_wp2
  go_loop [6, 23] (fun tn tk => ∃ n j : Nat, tn = .int .i64 n ∧ tk = .int .i64 (j : Int) ∧ j ≤ 5 ∧ i + j ≤ s.size ∧ Hid (n = acc s i j) ∧ Hid (gn s i 5 0 = gn s i (5 - j) j)) (fun _ tk => s.size - (intOf tk).toNat)
  case atStart => exact ⟨0, 0, rfl, rfl, by omega, by omega, rfl, rfl⟩
  case round =>
    obtain ⟨n, j, rfl, rfl, h5, h1, H2, H4⟩ := hrel
    by_cases hlt : i + j < s.size
    · have c2 : (i : Int) + (j : Int) < (s.size : Int) := by omega
      by_cases hj5 : j < 5
      · have h8 : (s[i + j]'hlt).toNat ≤ 255 := by have := (s[i + j]'hlt).toNat_lt; omega
        have c4 : (j : Int) < 5 := by omega
        have hE := by8_at s (i + j) hlt
        have hlt128 := acc_lt s i j
        obtain ⟨m, hm⟩ : ∃ m, m = acc s i (j + 1) := ⟨_, rfl⟩
        have hml := acc_lt s i (j + 1)
        rw [← hm] at hml
        have hpw := Nat.pow_le_pow_right (n := 128) (by omega) (show j + 1 ≤ 5 by omega)
        have hmb : m < 34359738368 := by omega
        have he : bits .or .i64 (n : Int) (wrap64 (wrap64 (bits .and .u8 ((s[i + j]'hlt).toNat : Int) 127) * 2 ^ (7 * j))) = (m : Int) := by
          rw [or_acc n _ j (by rw [H2.out]; exact hlt128) h8 (by omega), hm, H2.out, hE]; rfl
        have HE : Hid ((s[i + j]'hlt).toNat = by8 s (i + j)) := hE
        have HM : Hid (m = acc s i (j + 1)) := hm
        have HG : Hid (gn s i 5 0 = gn s i (4 - j + 1) j) := by show _ = _; rw [H4.out, show 5 - j = 4 - j + 1 by omega]
        clear hE hm hlt128 hml hpw H2 H4
        by_cases hlow : (s[i + j]'hlt).toNat < 128
        · have d1 : ((s[i + j]'hlt).toNat : Int) < 128 := by omega
          by_cases hbad : ((s[i + j]'hlt).toNat = 0 ∧ 0 < j) ∨ 4000000000 < m
          · have hg : gn s i 5 0 = none := by rw [HG.out]; exact gn_bad s i _ j hlt (by rw [← HE.out]; exact hlow) (by rw [← HE.out, ← HM.out]; exact hbad)
            have Hg : Hid _ := hg
            have Hbad : Hid _ := hbad
            clear hg hbad
            by_cases hz : (s[i + j]'hlt).toNat = 0
            · have z1 : (((s[i + j]'hlt).toNat : Int) == 0) = true := by simp; omega
              clear hz
              by_cases hj0 : 0 < j
              · have j1 : decide ((0 : Int) < (j : Int)) = true := by simp; omega
                go_wp2
                go_ret2
                exact ⟨by rw [Hg.out]; rfl, rfl⟩
              · have m1 : 4000000000 < (m : Int) := by have := Hbad.out; omega
                have j1 : decide ((0 : Int) < (j : Int)) = false := by simp; omega
                go_wp2
                go_ret2
                exact ⟨by rw [Hg.out]; rfl, rfl⟩
            · have z1 : (((s[i + j]'hlt).toNat : Int) == 0) = false := by rw [beq_eq_false_iff_ne]; omega
              have m1 : 4000000000 < (m : Int) := by have := Hbad.out; omega
              clear hz
              go_wp2
              go_ret2
              exact ⟨by rw [Hg.out]; rfl, rfl⟩
          · have hg : gn s i 5 0 = some (m, i + j + 1) := by rw [HG.out, gn_good s i _ j hlt (by rw [← HE.out]; exact hlow) (by rw [← HE.out, ← HM.out]; exact hbad), ← HM.out]
            have Hg : Hid _ := hg
            have m0 : m ≤ 4000000000 := Nat.not_lt.1 (fun h => hbad (.inr h))
            have m1 : (m : Int) ≤ 4000000000 := by omega
            have Hbad : Hid ((s[i + j]'hlt).toNat = 0 → j ≤ 0) := fun hz => Nat.not_lt.1 (fun h => hbad (.inl ⟨hz, h⟩))
            clear hg hbad m0
            by_cases hz : (s[i + j]'hlt).toNat = 0
            · have z1 : (((s[i + j]'hlt).toNat : Int) == 0) = true := by simp; omega
              have j0 : j ≤ 0 := Hbad.out hz
              have j1 : (j : Int) ≤ 0 := by omega
              clear hz
              go_wp2
              go_ret2
              exact ⟨by rw [Hg.out]; rfl, rfl⟩
            · have z1 : (((s[i + j]'hlt).toNat : Int) == 0) = false := by rw [beq_eq_false_iff_ne]; omega
              clear hz
              go_wp2
              go_ret2
              exact ⟨by rw [Hg.out]; rfl, rfl⟩
        · have d1 : 128 ≤ ((s[i + j]'hlt).toNat : Int) := by omega
          go_wp2
          go_round
          case rel =>
            refine ⟨m, j + 1, rfl, by go_num, by omega, by omega, HM, ?_⟩
            show _ = _
            rw [HG.out, gn_go s i _ j hlt (by rw [← HE.out]; omega), show 5 - (j + 1) = 4 - j by omega]
          case measure => simp [intOf]; omega
      · have c3 : 5 ≤ (j : Int) := by omega
        have hg : gn s i 5 0 = none := by rw [H4.out, show 5 - j = 0 by omega]; rfl
        have Hg : Hid _ := hg
        clear hg H2 H4
        go_wp2
        go_ret2
        exact ⟨by rw [Hg.out]; rfl, rfl⟩
    · have c2 : (s.size : Int) - (i : Int) ≤ (j : Int) := by omega
      have hg : gn s i 5 0 = none := by rw [H4.out]; exact gn_end s i _ _ (by omega)
      have Hg : Hid _ := hg
      clear hg H2 H4
      go_wp2
      go_ret2
      exact ⟨by rw [Hg.out]; rfl, rfl⟩
theorem impl_get_no (s : ByteArray) (i : Int) (hs : s.size ≤ maxLen) (h : i < 0 ∨ (s.size : Int) ≤ i) (w : World) : Calls Tryd.prog 49 #[.string s, .int .i64 i] w fun e w' => e = .returned (.tuple #[.int .i64 0, .int .i64 (-1)]) ∧ w' = w := by
  unfold maxLen at hs
  rcases h with h | h
  · go_enter Tryd.func49, Tryd.ntmps49
    go_wp2
    go_ret2
    exact ⟨rfl, rfl⟩
  · have hd : decide (i < 0) = false := by simp; omega
    go_enter Tryd.func49, Tryd.ntmps49
    go_wp2
    go_ret2
    exact ⟨rfl, rfl⟩
end Go.Proofs.YtfmchkagdaaeeaaDoor
