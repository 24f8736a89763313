/- The landed Weave and Part, and the specification's, each answer the woven (parted) number at every argument: contracts for the two statements on them. -/
import Derived.Test.YtncnppkpkemajaaDoorRows
import Derived.Test.YtncnppkpkemajaaDoorMath
import Derived.WalkKit
import Derived.Handy
import Derived.Laws.BitsAllLaws
namespace Go.Proofs.YtncnppkpkemajaaDoor
open Go.RowKit
theorem hidw {p : Prop} (h : p) : Hid p := h
theorem S_none (x : Nat) : Tm.S 0 x = 0 := rfl
theorem S_more (k x : Nat) : Tm.S (k + 1) x = x % 2 + 4 * Tm.S k (x / 2) := rfl
theorem ret_int {k : IntKind} {a b : Int} (h : a = b) : Ending.returned (.int k a) = .returned (.int k b) := by rw [h]
theorem in_calls (x a b : Int) (w : World) : Calls Tryd.prog 37 #[.int .i64 x, .int .i64 a, .int .i64 b] w fun e w' => e = .returned (.bool (decide (a ≤ x) && decide (x ≤ b))) ∧ w' = w := by
  by_cases h : a ≤ x
  · go_enter Tryd.func37, Tryd.ntmps37
    go_wp2
    go_ret
    exact ⟨by simp [h], rfl⟩
  · have hd : decide (a ≤ x) = false := by simpa using h
    go_enter Tryd.func37, Tryd.ntmps37
    go_wp2
    go_ret
    exact ⟨by simp, rfl⟩
theorem u32_step (a c m : Nat) (ha : a < 4294967296) (h : a * c < 4294967296) (hm : m < 4294967296) :
    bits .and .u32 (bits .or .u32 (a : Int) ((a : Int) * (c : Int) % 4294967296)) (m : Int) = ((Nat.land (Nat.lor a (Nat.mul a c)) m : Nat) : Int) := by
  have e : (a : Int) * (c : Int) % 4294967296 = ((a * c : Nat) : Int) := by
    rw [← Int.natCast_mul]; omega
  rw [e, u32_or_nat a (a * c) ha h, u32_and_nat _ m (Nat.or_lt_two_pow (n := 32) ha h) hm]
  rfl
theorem u32_shr_step (a c m : Nat) (ha : a < 4294967296) (hm : m < 4294967296) :
    bits .and .u32 (bits .or .u32 (a : Int) ((a : Int) / (c : Int))) (m : Int) = ((Nat.land (Nat.lor a (Nat.div a c)) m : Nat) : Int) := by
  have e : (a : Int) / (c : Int) = ((a / c : Nat) : Int) := by simp
  have h : a / c < 4294967296 := Nat.lt_of_le_of_lt (Nat.div_le_self _ _) ha
  rw [e, u32_or_nat a (a / c) ha h, u32_and_nat _ m (Nat.or_lt_two_pow (n := 32) ha h) hm]
  rfl
theorem land_le (a m : Nat) : Nat.land a m ≤ m := Nat.and_le_right
set_option maxHeartbeats 400000 in
theorem spread_calls (x : Nat) (hx : x ≤ 65535) (w : World) : Calls Tryd.prog 46 #[.int .u32 x] w fun e w' => e = .returned (.int .u32 (Tm.S 16 x : Nat)) ∧ w' = w := by
  go_enter Tryd.func46, Tryd.ntmps46
  go_wp2
  go_ret
  refine ⟨ret_int ?_, rfl⟩
  have e0 : bits .and .u32 (x : Int) 65535 = ((Nat.land x 65535 : Nat) : Int) := u32_and_nat x 65535 (by omega) (by omega)
  have h0 := land_le x 65535
  rw [e0]
  generalize hA : Nat.land x 65535 = A at *
  have e1 := u32_step A 256 16711935 (by omega) (by omega) (by omega)
  have h1 := land_le (Nat.lor A (Nat.mul A 256)) 16711935
  simp only [Int.cast_ofNat_Int] at e1
  rw [e1]
  generalize hB : Nat.land (Nat.lor A (Nat.mul A 256)) 16711935 = B at *
  have e2 := u32_step B 16 252645135 (by omega) (by omega) (by omega)
  have h2 := land_le (Nat.lor B (Nat.mul B 16)) 252645135
  simp only [Int.cast_ofNat_Int] at e2
  rw [e2]
  generalize hC : Nat.land (Nat.lor B (Nat.mul B 16)) 252645135 = C at *
  have e3 := u32_step C 4 858993459 (by omega) (by omega) (by omega)
  have h3 := land_le (Nat.lor C (Nat.mul C 4)) 858993459
  simp only [Int.cast_ofNat_Int] at e3
  rw [e3]
  generalize hD : Nat.land (Nat.lor C (Nat.mul C 4)) 858993459 = D at *
  have e4 := u32_step D 2 1431655765 (by omega) (by omega) (by omega)
  simp only [Int.cast_ofNat_Int] at e4
  rw [e4, ← Tm.spr_S x (by omega)]
  unfold Tm.spr
  rw [hA]; show _ = ((Nat.land _ _ : Nat) : Int); rw [hB, hC, hD]
theorem w_bound (a w : Nat) (B : Nat) (ha : a ≤ 3) (hw : w ≤ B) : a * w ≤ 3 * B := Nat.mul_le_mul ha hw
theorem w_step (n w d s : Nat) : n + d * w + 4 * w * s = n + w * (d + 4 * s) := by
  rw [Nat.mul_add, Nat.mul_comm d w, ← Nat.mul_assoc, Nat.mul_comm w 4]; omega
theorem pow4_le (k : Nat) (h : k < 16) : 4 ^ k ≤ 1073741824 := by
  have := Nat.pow_le_pow_right (n := 4) (by omega) (show k ≤ 15 by omega)
  simpa using this
set_option maxHeartbeats 400000 in
theorem spec_weave (x y : Nat) (hx : x ≤ 65535) (hy : y ≤ 65535) (w : World) : Calls Tryd.prog 40 #[.int .i64 x, .int .i64 y] w fun e w' => e = .returned (.int .i64 (Tm.S 16 x + 2 * Tm.S 16 y : Nat)) ∧ w' = w := by
  have d1 : (x:Int) ≤ 65535 := by omega
  have d2 : (y:Int) ≤ 65535 := by omega
  go_enter Tryd.func40, Tryd.ntmps40
  go_wp2_with (go_at_call 37; refine (in_calls _ _ _ _).mono ?_; rintro e w' ⟨rfl, rfl⟩)
  go_loop [0, 1, 5, 6, 7] (fun tx ty tn tw tk => ∃ xk yk nk wk k : Nat, k ≤ 16 ∧ xk ≤ 65535 ∧ yk ≤ 65535 ∧ tx = .int .i64 xk ∧ ty = .int .i64 yk ∧ tn = .int .i64 nk ∧ tw = .int .i64 wk ∧ tk = .int .i64 k ∧ Hid (wk = 4 ^ k) ∧ Hid (nk + wk * (Tm.S (16 - k) xk + 2 * Tm.S (16 - k) yk) = Tm.S 16 x + 2 * Tm.S 16 y)) (fun _ _ _ _ tk => 16 - (intOf tk).toNat)
  case atStart => exact ⟨x, y, 0, 1, 0, by omega, hx, hy, rfl, rfl, rfl, rfl, rfl, hidw rfl, hidw (by simp)⟩
  case round =>
    obtain ⟨xk, yk, nk, wk, k, hk, hxk, hyk, rfl, rfl, rfl, rfl, rfl, H1, H2⟩ := hrel
    by_cases hlt : k < 16
    · have hw : wk ≤ 1073741824 := by rw [H1.out]; exact pow4_le k hlt
      have hS1 := Tm.S_lt 16 x
      have hS2 := Tm.S_lt 16 y
      have hn : nk ≤ 4294967296 := by have := H2.out; omega
      have hb := w_bound (xk % 2 + yk % 2 * 2) wk 1073741824 (by omega) hw
      have hb' : ((xk : Int) % 2 + (yk : Int) % 2 * 2) * (wk : Int) = (((xk % 2 + yk % 2 * 2) * wk : Nat) : Int) := by simp
      have hb1 : 0 ≤ ((xk : Int) % 2 + (yk : Int) % 2 * 2) * (wk : Int) := by omega
      have hb2 : ((xk : Int) % 2 + (yk : Int) % 2 * 2) * (wk : Int) ≤ 3221225472 := by omega
      clear hS1 hS2
      have Hb := hidw hb'
      clear hb'
      go_wp2
      go_round
      case rel =>
        refine ⟨xk / 2, yk / 2, nk + (xk % 2 + yk % 2 * 2) * wk, 4 * wk, k + 1, by omega, by omega, by omega, by go_num, by go_num, ?_, by go_num, by go_num, hidw ?_, hidw ?_⟩
        · rw [Hb.out]; go_num
        · rw [H1.out, Nat.pow_succ]; omega
        · rw [← H2.out, w_step, show 16 - k = (16 - (k + 1)) + 1 by omega]
          rw [S_more, S_more]
          congr 2; omega
      case measure => simp [intOf]; omega
    · have hk16 : k = 16 := by omega
      subst hk16
      go_wp2
      go_ret
      refine ⟨ret_int ?_, rfl⟩
      have h := H2.out
      rw [Nat.sub_self, S_none, S_none] at h
      omega
theorem P_none (x : Nat) : Tm.P 0 x = 0 := rfl
theorem P_more (k x : Nat) : Tm.P (k + 1) x = x % 2 + 2 * Tm.P k (x / 4) := rfl
theorem p_step (n w d s : Nat) : n + d * w + 2 * w * s = n + w * (d + 2 * s) := by
  rw [Nat.mul_add, Nat.mul_comm d w, ← Nat.mul_assoc, Nat.mul_comm w 2]; omega
theorem pow2_le (k : Nat) (h : k < 16) : 2 ^ k ≤ 32768 := by
  have := Nat.pow_le_pow_right (n := 2) (by omega) (show k ≤ 15 by omega)
  simpa using this
theorem spread_as (x s : Nat) (hx : x ≤ 65535) (hs : Hid (s = Tm.S 16 x)) (w : World) : Calls Tryd.prog 46 #[.int .u32 x] w fun e w' => e = .returned (.int .u32 s) ∧ w' = w := by
  rw [hs.out]; exact spread_calls x hx w
theorem or_as (x y a b : Nat) (ha : Hid (a = Tm.S 16 x)) (hb : Hid (b = Tm.S 16 y)) : a ≤ 1431655765 ∧ b ≤ 1431655765 ∧ bits .or .u32 (a : Int) ((b : Int) * 2) = ((Tm.S 16 x + 2 * Tm.S 16 y : Nat) : Int) := by
  have hS1 := Tm.S_lt 16 x
  have hS2 := Tm.S_lt 16 y
  rw [← ha.out] at hS1 ⊢
  rw [← hb.out] at hS2 ⊢
  refine ⟨by omega, by omega, ?_⟩
  have := u32_or_nat a (b * 2) (by omega) (by omega)
  rw [Int.natCast_mul, Int.cast_ofNat_Int] at this
  rw [this, Nat.mul_comm b 2]
  congr 1
  rw [ha.out, hb.out, Tm.S_or]
theorem impl_weave (x y m : Nat) (hx : x ≤ 65535) (hy : y ≤ 65535) (hm : Hid (m = Tm.S 16 x + 2 * Tm.S 16 y)) (w : World) : Calls Tryd.prog 39 #[.int .i64 x, .int .i64 y] w fun e w' => e = .returned (.int .i64 m) ∧ w' = w := by
  have d1 : (x:Int) ≤ 65535 := by omega
  have d2 : (y:Int) ≤ 65535 := by omega
  obtain ⟨a, ha⟩ : ∃ a, Hid (a = Tm.S 16 x) := ⟨_, hidw rfl⟩
  obtain ⟨b, hb⟩ : ∃ b, Hid (b = Tm.S 16 y) := ⟨_, hidw rfl⟩
  obtain ⟨s1, s2, h3⟩ := or_as x y a b ha hb
  rw [← hm.out] at h3
  have hml : m ≤ 4294967296 := by rw [hm.out, ← ha.out, ← hb.out]; omega
  have H3 := hidw h3
  clear h3
  have s3 : (a : Int) ≤ 1431655765 := by omega
  have s4 : (b : Int) ≤ 1431655765 := by omega
  go_enter Tryd.func39, Tryd.ntmps39
  go_wp2_with fail
  refine (spread_as x a hx ha _).mono ?_
  rintro e w' ⟨rfl, rfl⟩
  go_wp2_with fail
  refine (spread_as y b hy hb _).mono ?_
  rintro e w' ⟨rfl, rfl⟩
  go_wp2_with fail
  go_ret
  refine ⟨ret_int ?_, rfl⟩
  rw [H3.out]; exact IntWalk.wrap64_in _ ⟨by omega, by omega⟩
theorem spec_weave_no (x y : Int) (h : x < 0 ∨ 65535 < x ∨ y < 0 ∨ 65535 < y) (w : World) : Calls Tryd.prog 40 #[.int .i64 x, .int .i64 y] w fun e w' => e = .returned (.int .i64 (-1)) ∧ w' = w := by
  by_cases hx : 0 ≤ x ∧ x ≤ 65535
  · obtain ⟨h1, h2⟩ := hx
    have hy : (decide (0 ≤ y) && decide (y ≤ 65535)) = false := by simp; omega
    go_enter Tryd.func40, Tryd.ntmps40
    go_wp2_with (go_at_call 37; refine (in_calls _ _ _ _).mono ?_; rintro e w' ⟨rfl, rfl⟩)
    all_goals (go_ret; exact ⟨rfl, rfl⟩)
  · have hx' : (decide (0 ≤ x) && decide (x ≤ 65535)) = false := by simp; omega
    go_enter Tryd.func40, Tryd.ntmps40
    go_wp2_with (go_at_call 37; refine (in_calls _ _ _ _).mono ?_; rintro e w' ⟨rfl, rfl⟩)
    all_goals (go_ret; exact ⟨rfl, rfl⟩)
theorem impl_weave_no (x y : Int) (h : x < 0 ∨ 65535 < x ∨ y < 0 ∨ 65535 < y) (w : World) : Calls Tryd.prog 39 #[.int .i64 x, .int .i64 y] w fun e w' => e = .returned (.int .i64 (-1)) ∧ w' = w := by
  go_enter Tryd.func39, Tryd.ntmps39
  go_wp2_with fail
  all_goals first | (exfalso; omega) | (go_ret; exact ⟨rfl, rfl⟩)
end Go.Proofs.YtncnppkpkemajaaDoor
