/- The landed Weave and Part, and the specification's, each answer the woven (parted) number at every argument: contracts for the two statements on them. -/
import Derived.Test.YtdhdfgobefapiaaDoorRows
import Derived.Test.YtdhdfgobefapiaaDoorMath
import Derived.WalkKit
import Derived.Handy
import Derived.Laws.BitsAllLaws
namespace Go.Proofs.YtdhdfgobefapiaaDoor
open Go.RowKit
theorem hidw {p : Prop} (h : p) : Hid p := h
theorem S_none (x : Nat) : Tm.S 0 x = 0 := rfl
theorem S_more (k x : Nat) : Tm.S (k + 1) x = x % 2 + 4 * Tm.S k (x / 2) := rfl
theorem ret_int {k : IntKind} {a b : Int} (h : a = b) : Ending.returned (.int k a) = .returned (.int k b) := by rw [h]
theorem in_calls (x a b : Int) (w : World) : Calls Tryd.prog 34 #[.int .i64 x, .int .i64 a, .int .i64 b] w fun e w' => e = .returned (.bool (decide (a ≤ x) && decide (x ≤ b))) ∧ w' = w := by
  by_cases h : a ≤ x
  · go_enter Tryd.func34, Tryd.ntmps34
    go_wp2
    go_ret
    exact ⟨by simp [h], rfl⟩
  · have hd : decide (a ≤ x) = false := by simpa using h
    go_enter Tryd.func34, Tryd.ntmps34
    go_wp2
    go_ret
    exact ⟨by simp, rfl⟩
theorem u32_shr_step (a c m : Nat) (ha : a < 4294967296) (hm : m < 4294967296) :
    bits .and .u32 (bits .or .u32 (a : Int) ((a : Int) / (c : Int))) (m : Int) = ((Nat.land (Nat.lor a (Nat.div a c)) m : Nat) : Int) := by
  have e : (a : Int) / (c : Int) = ((a / c : Nat) : Int) := by simp
  have h : a / c < 4294967296 := Nat.lt_of_le_of_lt (Nat.div_le_self _ _) ha
  rw [e, u32_or_nat a (a / c) ha h, u32_and_nat _ m (Nat.or_lt_two_pow (n := 32) ha h) hm]
  rfl
theorem land_le (a m : Nat) : Nat.land a m ≤ m := Nat.and_le_right
theorem gather_calls (n : Nat) (hn : n < 4294967296) (w : World) : Calls Tryd.prog 48 #[.int .u32 n] w fun e w' => e = .returned (.int .u32 (Tm.P 16 n : Nat)) ∧ w' = w := by
  go_enter Tryd.func48, Tryd.ntmps48
  go_wp2
  go_ret
  refine ⟨ret_int ?_, rfl⟩
  have e0 : bits .and .u32 (n : Int) 1431655765 = ((n &&& 1431655765 : Nat) : Int) := u32_and_nat n 1431655765 (by omega) (by omega)
  have h0 : n &&& 1431655765 ≤ 1431655765 := Nat.and_le_right
  rw [e0, ← Tm.gat_P n]
  generalize (n &&& 1431655765) = A at *
  have e1 := u32_shr_step A 2 858993459 (by omega) (by omega)
  have h1 := land_le (Nat.lor A (Nat.div A 2)) 858993459
  simp only [Int.cast_ofNat_Int] at e1
  rw [e1]
  unfold Tm.gatM
  generalize Nat.land (Nat.lor A (Nat.div A 2)) 858993459 = B at *
  have e2 := u32_shr_step B 4 252645135 (by omega) (by omega)
  have h2 := land_le (Nat.lor B (Nat.div B 4)) 252645135
  simp only [Int.cast_ofNat_Int] at e2
  rw [e2]; show _ = (((fun c => _) _ : Nat) : Int)
  generalize Nat.land (Nat.lor B (Nat.div B 4)) 252645135 = C at *
  have e3 := u32_shr_step C 16 16711935 (by omega) (by omega)
  have h3 := land_le (Nat.lor C (Nat.div C 16)) 16711935
  simp only [Int.cast_ofNat_Int] at e3
  rw [e3]; show _ = (((fun c => _) _ : Nat) : Int)
  generalize Nat.land (Nat.lor C (Nat.div C 16)) 16711935 = D at *
  have e4 := u32_shr_step D 256 65535 (by omega) (by omega)
  simp only [Int.cast_ofNat_Int] at e4
  rw [e4]
theorem w_bound (a w : Nat) (B : Nat) (ha : a ≤ 3) (hw : w ≤ B) : a * w ≤ 3 * B := Nat.mul_le_mul ha hw
theorem w_step (n w d s : Nat) : n + d * w + 4 * w * s = n + w * (d + 4 * s) := by
  rw [Nat.mul_add, Nat.mul_comm d w, ← Nat.mul_assoc, Nat.mul_comm w 4]; omega
theorem pow4_le (k : Nat) (h : k < 16) : 4 ^ k ≤ 1073741824 := by
  have := Nat.pow_le_pow_right (n := 4) (by omega) (show k ≤ 15 by omega)
  simpa using this
set_option maxHeartbeats 400000 in
theorem spec_weave (x y : Nat) (hx : x ≤ 65535) (hy : y ≤ 65535) (w : World) : Calls Tryd.prog 36 #[.int .i64 x, .int .i64 y] w fun e w' => e = .returned (.int .i64 (Tm.S 16 x + 2 * Tm.S 16 y : Nat)) ∧ w' = w := by
  have d1 : (x:Int) ≤ 65535 := by omega
  have d2 : (y:Int) ≤ 65535 := by omega
  go_enter Tryd.func36, Tryd.ntmps36
  go_wp2_with (go_at_call 34; refine (in_calls _ _ _ _).mono ?_; rintro e w' ⟨rfl, rfl⟩)
  go_loop [0, 1, 5, 6, 7] (fun tx ty tn tw tk => ∃ xk yk nk wk k : Nat, k ≤ 16 ∧ xk ≤ 65535 ∧ yk ≤ 65535 ∧ tx = .int .i64 xk ∧ ty = .int .i64 yk ∧ tn = .int .i64 nk ∧ tw = .int .i64 wk ∧ tk = .int .i64 k ∧ Hid (wk = 4 ^ k) ∧ Hid (nk + wk * (Tm.S (16 - k) xk + 2 * Tm.S (16 - k) yk) = Tm.S 16 x + 2 * Tm.S 16 y)) (fun _ _ _ _ tk => 16 - (intOf tk).toNat)
  case atStart => exact ⟨x, y, 0, 1, 0, by omega, hx, hy, rfl, rfl, rfl, rfl, rfl, hidw rfl, hidw (by simp)⟩
  case round =>
    obtain ⟨xk, yk, nk, wk, k, hk, hxk, hyk, rfl, rfl, rfl, rfl, rfl, H1, H2⟩ := hrel
    by_cases hlt : k < 16
    · have hw : wk ≤ 1073741824 := by rw [H1.out]; exact pow4_le k hlt
      have hS1 := Tm.S_lt 16 x
      have hS2 := Tm.S_lt 16 y
      have hn : nk ≤ 4294967296 := by have := H2.out; omega
      have hb := w_bound (xk % 2 + yk % 2 * 2) wk 1073741824 (by omega) hw
      have hb' : ((xk : Int) % 2 + (yk : Int) % 2 * 2) * (wk : Int) = (((xk % 2 + yk % 2 * 2) * wk : Nat) : Int) := by simp
      have hb1 : 0 ≤ ((xk : Int) % 2 + (yk : Int) % 2 * 2) * (wk : Int) := by omega
      have hb2 : ((xk : Int) % 2 + (yk : Int) % 2 * 2) * (wk : Int) ≤ 3221225472 := by omega
      clear hS1 hS2
      have Hb := hidw hb'
      clear hb'
      go_wp2
      go_round
      case rel =>
        refine ⟨xk / 2, yk / 2, nk + (xk % 2 + yk % 2 * 2) * wk, 4 * wk, k + 1, by omega, by omega, by omega, by go_num, by go_num, ?_, by go_num, by go_num, hidw ?_, hidw ?_⟩
        · rw [Hb.out]; go_num
        · rw [H1.out, Nat.pow_succ]; omega
        · rw [← H2.out, w_step, show 16 - k = (16 - (k + 1)) + 1 by omega]
          rw [S_more, S_more]
          congr 2; omega
      case measure => simp [intOf]; omega
    · have hk16 : k = 16 := by omega
      subst hk16
      go_wp2
      go_ret
      refine ⟨ret_int ?_, rfl⟩
      have h := H2.out
      rw [Nat.sub_self, S_none, S_none] at h
      omega
theorem P_more (k x : Nat) : Tm.P (k + 1) x = x % 2 + 2 * Tm.P k (x / 4) := rfl
theorem gather_as (n p : Nat) (hn : n < 4294967296) (hp : Hid (p = Tm.P 16 n)) (w : World) : Calls Tryd.prog 48 #[.int .u32 n] w fun e w' => e = .returned (.int .u32 p) ∧ w' = w := by
  rw [hp.out]; exact gather_calls n hn w
theorem impl_part (n p q : Nat) (hn : n ≤ 4294967295) (hp : Hid (p = Tm.P 16 n)) (hq : Hid (q = Tm.P 16 (n / 2))) (w : World) : Calls Tryd.prog 39 #[.int .i64 n] w fun e w' => e = .returned (.tuple #[.int .i64 p, .int .i64 q]) ∧ w' = w := by
  have d1 : (n:Int) ≤ 4294967295 := by omega
  have hp1 : p < 65536 := by rw [hp.out]; exact Tm.P_lt 16 n
  have hq1 : q < 65536 := by rw [hq.out]; exact Tm.P_lt 16 (n / 2)
  have e1 : (n : Int) / 2 = ((n / 2 : Nat) : Int) := by simp
  have H1 := hidw e1
  clear e1
  go_enter Tryd.func39, Tryd.ntmps39
  go_wp2_with fail
  refine (gather_as n p (by omega) hp _).mono ?_
  rintro e w' ⟨rfl, rfl⟩
  go_wp2_with fail
  rw [H1.out]
  refine (gather_as (n / 2) q (by omega) hq _).mono ?_
  rintro e w' ⟨rfl, rfl⟩
  go_wp2_with fail
  go_ret2
  exact ⟨rfl, rfl⟩
theorem impl_part_no (n : Int) (h : n < 0 ∨ 4294967295 < n) (w : World) : Calls Tryd.prog 39 #[.int .i64 n] w fun e w' => e = .returned (.tuple #[.int .i64 (-1), .int .i64 (-1)]) ∧ w' = w := by
  go_enter Tryd.func39, Tryd.ntmps39
  go_wp2_with fail
  all_goals first | (exfalso; omega) | (go_ret2; exact ⟨rfl, rfl⟩)
end Go.Proofs.YtdhdfgobefapiaaDoor
