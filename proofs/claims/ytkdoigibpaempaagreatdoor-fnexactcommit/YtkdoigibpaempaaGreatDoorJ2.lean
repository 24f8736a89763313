/- Texts of stores, joined: Geo3, Area, Geo4. -/
import Derived.Test.YtkdoigibpaempaaGreatDoorJ1
import Derived.Deep.CutRange
set_option linter.unusedSimpArgs false
set_option linter.unusedVariables false
namespace Go.Proofs.YtkdoigibpaempaaGreatDoor
open Go.RowKit
def cr (ax ay bx bY cx cy : Int) : Int := (bx - ax) * (cy - ay) - (cx - ax) * (bY - ay)
def sg (z : Int) : Int := if z < 0 then -1 else if 0 < z then 1 else 0
def In (x : Int) : Prop := -30000 ≤ x ∧ x ≤ 30000
theorem mulb (x y : Int) (h1 : -60000 ≤ x) (h2 : x ≤ 60000) (h3 : -60000 ≤ y) (h4 : y ≤ 60000) : -3600000000 ≤ x * y ∧ x * y ≤ 3600000000 := by
  have a := Int.mul_nonneg (show 0 ≤ 60000 - x by omega) (show 0 ≤ 60000 - y by omega)
  have b := Int.mul_nonneg (show 0 ≤ 60000 + x by omega) (show 0 ≤ 60000 + y by omega)
  have c := Int.mul_nonneg (show 0 ≤ 60000 - x by omega) (show 0 ≤ 60000 + y by omega)
  have d := Int.mul_nonneg (show 0 ≤ 60000 + x by omega) (show 0 ≤ 60000 - y by omega)
  simp only [Int.sub_mul, Int.add_mul, Int.mul_sub, Int.mul_add] at a b c d
  omega
theorem sg_bd (z : Int) : -1 ≤ sg z ∧ sg z ≤ 1 := by unfold sg; split <;> (try split) <;> omega
theorem in_of_pok {x y : Int} (h : pok x y = true) : In x ∧ In y := by
  simp only [pok, cok, Bool.and_eq_true, decide_eq_true_eq] at h
  exact h
theorem isnan_calls (x : Int) (w : World) : Calls Tryz.prog 163 #[.int .i64 x] w fun e w' => e = .returned (.bool false) ∧ w' = w := by
  go_enter Tryz.func163, Tryz.ntmps163
  go_wp2
  go_ret
  exact ⟨by simp, rfl⟩
theorem compare_calls (x : Int) (w : World) : Calls Tryz.prog 148 #[.int .i64 x, .int .i64 0] w fun e w' => e = .returned (.int .i64 (sg x)) ∧ w' = w := by
  by_cases h : x < 0
  · have e : sg x = -1 := by unfold sg; rw [if_pos h]
    go_enter Tryz.func148, Tryz.ntmps148
    go_wp2_with (go_at_call 163; refine (isnan_calls _ _).mono ?_; rintro e w' ⟨rfl, rfl⟩)
    go_ret
    exact ⟨by first | rfl | (rw [e]; rfl), rfl⟩
  · by_cases h2 : 0 < x
    · have e : sg x = 1 := by unfold sg; rw [if_neg h, if_pos h2]
      go_enter Tryz.func148, Tryz.ntmps148
      go_wp2_with (go_at_call 163; refine (isnan_calls _ _).mono ?_; rintro e w' ⟨rfl, rfl⟩)
      go_ret
      exact ⟨by first | rfl | (rw [e]; rfl), rfl⟩
    · obtain rfl : x = 0 := by omega
      go_enter Tryz.func148, Tryz.ntmps148
      go_wp2_with (go_at_call 163; refine (isnan_calls _ _).mono ?_; rintro e w' ⟨rfl, rfl⟩)
      go_ret
      exact ⟨rfl, rfl⟩
theorem impl_minus (px py qx qy : Int) (h1 : In px) (h2 : In py) (h3 : In qx) (h4 : In qy) (w : World) : Calls Tryz.prog 246 #[.agg #[.int .i64 px, .int .i64 py], .agg #[.int .i64 qx, .int .i64 qy]] w fun e w' => e = .returned (.agg #[.int .i64 (px - qx), .int .i64 (py - qy)]) ∧ Below w.heap.size w w' := by
  obtain ⟨a1, a2⟩ := h1
  obtain ⟨a3, a4⟩ := h2
  obtain ⟨a5, a6⟩ := h3
  obtain ⟨a7, a8⟩ := h4
  go_enter Tryz.func246, Tryz.ntmps246
  go_wp2_with fail
  refine bodyPost_ret (v := .agg #[.int .i64 (px - qx), .int .i64 (py - qy)]) (by simp [results, Tryz.results246, go_sem]) rfl ⟨rfl, ?_⟩
  (repeat (first | exact Below.refl _ _ | (refine btrans ?_ (by assumption)) | refine bdrew ?_ | refine balloc ?_ _))
theorem impl_cross (px py qx qy : Int) (h1 : -60000 ≤ px ∧ px ≤ 60000) (h2 : -60000 ≤ py ∧ py ≤ 60000) (h3 : -60000 ≤ qx ∧ qx ≤ 60000) (h4 : -60000 ≤ qy ∧ qy ≤ 60000) (w : World) : Calls Tryz.prog 236 #[.agg #[.int .i64 px, .int .i64 py], .agg #[.int .i64 qx, .int .i64 qy]] w fun e w' => e = .returned (.int .i64 (px * qy - qx * py)) ∧ Below w.heap.size w w' := by
  obtain ⟨a1, a2⟩ := mulb px qy h1.1 h1.2 h4.1 h4.2
  obtain ⟨a3, a4⟩ := mulb qx py h3.1 h3.2 h2.1 h2.2
  clear h1 h2 h3 h4
  go_enter Tryz.func236, Tryz.ntmps236
  go_wp2_with fail
  go_ret
  exact ⟨rfl, by (repeat (first | exact Below.refl _ _ | (refine btrans ?_ (by assumption)) | refine bdrew ?_ | refine balloc ?_ _))⟩
set_option maxHeartbeats 1000000 in
theorem impl_turn (px py bx bY cx cy : Int) (h1 : In px) (h2 : In py) (h3 : In bx) (h4 : In bY) (h5 : In cx) (h6 : In cy) (w : World) : Calls Tryz.prog 243 #[.agg #[.int .i64 px, .int .i64 py], .agg #[.int .i64 bx, .int .i64 bY], .agg #[.int .i64 cx, .int .i64 cy]] w fun e w' => e = .returned (.int .i64 (sg (cr px py bx bY cx cy))) ∧ Below w.heap.size w w' := by
  have hd1 : -60000 ≤ bx - px ∧ bx - px ≤ 60000 := by unfold In at *; omega
  have hd2 : -60000 ≤ bY - py ∧ bY - py ≤ 60000 := by unfold In at *; omega
  have hd3 : -60000 ≤ cx - px ∧ cx - px ≤ 60000 := by unfold In at *; omega
  have hd4 : -60000 ≤ cy - py ∧ cy - py ≤ 60000 := by unfold In at *; omega
  go_enter Tryz.func243, Tryz.ntmps243
  go_wp2_with fail
  go_region_held3 (fun w' => w'.cell? ⟨w.heap.size, 0, none⟩ = some (.int .i64 px) ∧ w'.cell? ⟨w.heap.size, 1, none⟩ = some (.int .i64 py) ∧ w'.cell? ⟨w.heap.size + 1, 0, none⟩ = some (.int .i64 bx) ∧ w'.cell? ⟨w.heap.size + 1, 1, none⟩ = some (.int .i64 bY) ∧ w'.cell? ⟨w.heap.size + 1 + 1, 0, none⟩ = some (.int .i64 cx) ∧ w'.cell? ⟨w.heap.size + 1 + 1, 1, none⟩ = some (.int .i64 cy)) ((repeat' apply And.intro) <;> (repeat (first | assumption | (refine newcell _ _ _ _ _ _ ?_ rfl; simp; done) | refine keepcell (by assumption) ?_ | refine keepdrew ?_ | refine keepalloc ?_ _)))
    (first
      | (go_at_call 246; refine (impl_minus _ _ _ _ (by assumption) (by assumption) (by assumption) (by assumption) _).mono ?_; rintro e w' ⟨rfl, hb⟩)
      | (go_at_call 236; refine (impl_cross _ _ _ _ hd1 hd2 hd3 hd4 _).mono ?_; rintro e w' ⟨rfl, hb⟩)
      | (go_at_call 148; refine (compare_calls _ _).mono ?_; rintro e w' ⟨rfl, hw⟩; replace hw := hw.symm; subst hw))
  go_wp2_with fail
  go_ret
  exact ⟨rfl, by (repeat (first | exact Below.refl _ _ | (refine btrans ?_ (by assumption)) | refine bdrew ?_ | refine balloc ?_ _))⟩
theorem spec_sign (x : Int) (w : World) : Calls Tryz.prog 142 #[.int .i64 x] w fun e w' => e = .returned (.int .i64 (sg x)) ∧ w' = w := by
  by_cases h : x < 0
  · have e : sg x = -1 := by unfold sg; rw [if_pos h]
    go_enter Tryz.func142, Tryz.ntmps142
    go_wp2_with fail
    go_ret
    exact ⟨by first | rfl | (rw [e]; rfl), rfl⟩
  · by_cases h2 : 0 < x
    · have e : sg x = 1 := by unfold sg; rw [if_neg h, if_pos h2]
      go_enter Tryz.func142, Tryz.ntmps142
      go_wp2_with fail
      go_ret
      exact ⟨by first | rfl | (rw [e]; rfl), rfl⟩
    · obtain rfl : x = 0 := by omega
      go_enter Tryz.func142, Tryz.ntmps142
      go_wp2_with fail
      go_ret
      exact ⟨rfl, rfl⟩
theorem spec_min (a b : Int) (w : World) : Calls Tryz.prog 128 #[.int .i64 a, .int .i64 b] w fun e w' => e = .returned (.int .i64 (min a b)) ∧ w' = w := by
  by_cases h : a < b
  · have e : min a b = a := by omega
    go_enter Tryz.func128, Tryz.ntmps128
    go_wp2_with fail
    go_ret
    exact ⟨by first | rfl | (rw [e]; rfl), rfl⟩
  · have e : min a b = b := by omega
    go_enter Tryz.func128, Tryz.ntmps128
    go_wp2_with fail
    go_ret
    exact ⟨by first | rfl | (rw [e]; rfl), rfl⟩
theorem spec_max (a b : Int) (w : World) : Calls Tryz.prog 129 #[.int .i64 a, .int .i64 b] w fun e w' => e = .returned (.int .i64 (max a b)) ∧ w' = w := by
  by_cases h : b < a
  · have e : max a b = a := by omega
    go_enter Tryz.func129, Tryz.ntmps129
    go_wp2_with fail
    go_ret
    exact ⟨by first | rfl | (rw [e]; rfl), rfl⟩
  · have e : max a b = b := by omega
    go_enter Tryz.func129, Tryz.ntmps129
    go_wp2_with fail
    go_ret
    exact ⟨by first | rfl | (rw [e]; rfl), rfl⟩
set_option maxHeartbeats 400000 in
theorem spec_cross (ax ay bx bY cx cy : Int) (h1 : In ax) (h2 : In ay) (h3 : In bx) (h4 : In bY) (h5 : In cx) (h6 : In cy) (w : World) : Calls Tryz.prog 127 #[.agg #[.int .i64 ax, .int .i64 ay], .agg #[.int .i64 bx, .int .i64 bY], .agg #[.int .i64 cx, .int .i64 cy]] w fun e w' => e = .returned (.int .i64 (cr ax ay bx bY cx cy)) ∧ Below w.heap.size w w' := by
  obtain ⟨a1, a2⟩ := h1
  obtain ⟨a3, a4⟩ := h2
  obtain ⟨a5, a6⟩ := h3
  obtain ⟨a7, a8⟩ := h4
  obtain ⟨a9, a10⟩ := h5
  obtain ⟨a11, a12⟩ := h6
  obtain ⟨b1, b2⟩ := mulb (bx - ax) (cy - ay) (by omega) (by omega) (by omega) (by omega)
  obtain ⟨b3, b4⟩ := mulb (bY - ay) (cx - ax) (by omega) (by omega) (by omega) (by omega)
  go_enter Tryz.func127, Tryz.ntmps127
  go_wp2_with fail
  go_ret
  exact ⟨by rw [cr, Int.mul_comm (cx - ax)]; rfl, by (repeat (first | exact Below.refl _ _ | (refine btrans ?_ (by assumption)) | refine bdrew ?_ | refine balloc ?_ _))⟩
end Go.Proofs.YtkdoigibpaempaaGreatDoor
namespace Go.Proofs.YtkdoigibpaempaaGreatDoor
open Go.RowKit
def nxt (ps : List (Int × Int)) (k : Nat) : Int × Int := ps.getD ((k + 1) % ps.length) (0, 0)
def areaTo (ps : List (Int × Int)) : Nat → Int
  | 0 => 0
  | k + 1 => areaTo ps k + ((ps.getD k (0, 0)).1 * (nxt ps k).2 - (nxt ps k).1 * (ps.getD k (0, 0)).2)
def area2 (ps : List (Int × Int)) : Int := if ps.length ≤ 1000 ∧ allok ps = true then areaTo ps ps.length else 0
theorem allok_in {ps : List (Int × Int)} (h : allok ps = true) (k : Nat) (hk : k < ps.length) : In (ps.getD k (0, 0)).1 ∧ In (ps.getD k (0, 0)).2 := by
  rw [allok, List.all_eq_true] at h
  refine in_of_pok (h _ ?_)
  rw [List.getD_eq_getElem?_getD, List.getElem?_eq_getElem hk]
  exact List.getElem_mem hk
theorem nxt_in {ps : List (Int × Int)} (h : allok ps = true) (k : Nat) (hk : k < ps.length) : In (nxt ps k).1 ∧ In (nxt ps k).2 :=
  allok_in h _ (Nat.mod_lt _ (by omega))
theorem side_bd {x y u v : Int} (h1 : In x) (h2 : In y) (h3 : In u) (h4 : In v) : (-3600000000 ≤ x * v ∧ x * v ≤ 3600000000) ∧ (-3600000000 ≤ u * y ∧ u * y ≤ 3600000000) := by
  unfold In at *
  exact ⟨mulb x v (by omega) (by omega) (by omega) (by omega), mulb u y (by omega) (by omega) (by omega) (by omega)⟩
theorem area_bd {ps : List (Int × Int)} (h : allok ps = true) : ∀ k, k ≤ ps.length → -(7200000000 * (k : Int)) ≤ areaTo ps k ∧ areaTo ps k ≤ 7200000000 * (k : Int)
  | 0, _ => by simp [areaTo]
  | k + 1, hk => by
    obtain ⟨a, b⟩ := area_bd h k (by omega)
    obtain ⟨c, d⟩ := allok_in h k (by omega)
    obtain ⟨e, f⟩ := nxt_in h k (by omega)
    have := side_bd c d e f
    rw [areaTo]
    omega
set_option maxHeartbeats 1000000 in
theorem impl_Area2 (a : Option Addr) (cap : Nat) (ps : List (Int × Int)) (w : World) (hm : ps.length ≤ 1099511627776) (hc : ps.length ≤ cap) (h : Pts w a ps) : Calls Tryz.prog 233 #[.slice a ps.length cap] w fun e w' => e = .returned (.int .i64 (area2 ps)) ∧ Below w.heap.size w w' := by
  by_cases hl : (1000 : Int) < (ps.length : Int)
  · have hv : area2 ps = 0 := by unfold area2; rw [if_neg (by omega)]
    go_enter Tryz.func233, Tryz.ntmps233
    go_wp2_with fail
    go_ret
    exact ⟨by rw [hv]; rfl, Below.refl _ _⟩
  cases ha : allok ps
  · have hv : area2 ps = 0 := by unfold area2; rw [if_neg (by simp [ha])]
    have hb := impl_all a cap ps w hm hc h
    rw [ha] at hb
    have Hb := hid hb
    clear hb
    go_enter Tryz.func233, Tryz.ntmps233
    go_wp2_with fail
    refine (Hb.out).mono ?_
    rintro e w1 ⟨rfl, hb1⟩
    go_wp2_with fail
    go_ret
    exact ⟨by rw [hv]; rfl, hb1⟩
  have hv : area2 ps = areaTo ps ps.length := by unfold area2; rw [if_pos ⟨by omega, ha⟩]
  have Hv := hid hv
  have Ha := hid ha
  have hall := impl_all a cap ps w hm hc h
  rw [ha] at hall
  have Hall := hid hall
  have Hh := hid h
  clear hv ha hall h
  go_enter Tryz.func233, Tryz.ntmps233
  go_wp2_with fail
  refine (Hall.out).mono ?_
  rintro e w1 ⟨rfl, hb1⟩
  go_wp2_with fail
  go_loopw [3, 16] (fun ts ti wr => ∃ k : Nat, ts = .int .i64 (areaTo ps k) ∧ ti = .int .i64 k ∧ k ≤ ps.length ∧ Below w.heap.size w wr) (fun _ ti _ => ps.length - (intOf ti).toNat)
  case atStart => exact ⟨0, rfl, rfl, Nat.zero_le _, hb1⟩
  case round =>
    obtain ⟨k, rfl, rfl, hk, hb⟩ := hrel
    have hB := area_bd Ha.out k hk
    by_cases hlt : k < ps.length
    · have hp := Hh.out.below hb
      have hbh : ∀ w', Pts w' a ps → Calls Tryz.prog 237 #[.slice a ps.length cap, .int .i64 k] w' fun e w'' => e = .returned (.agg #[.int .i64 (nxt ps k).1, .int .i64 (nxt ps k).2]) ∧ Below w'.heap.size w' w'' := fun w' hw' => impl_behind a cap ps k w' hm hc hlt hw'
      obtain ⟨i1, i2⟩ := allok_in Ha.out k hlt
      obtain ⟨i3, i4⟩ := nxt_in Ha.out k hlt
      have hs : Hid (areaTo ps (k + 1) = areaTo ps k + ((ps.getD k (0, 0)).1 * (nxt ps k).2 - (nxt ps k).1 * (ps.getD k (0, 0)).2)) := hid rfl
      rcases hp with rfl | ⟨b, off, rfl, hbs, hq⟩
      · simp at hlt
      obtain ⟨c0, c1⟩ := hq k hlt
      generalize (ps.getD k (0, 0)).1 = x at *
      generalize (ps.getD k (0, 0)).2 = y at *
      generalize (nxt ps k).1 = u at *
      generalize (nxt ps k).2 = v at *
      generalize areaTo ps k = s at *
      have Hq := hid hq
      have Hbh := hid hbh
      clear hq hbh
      have hsb := side_bd i1 i2 i3 i4
      obtain ⟨⟨s1, s2⟩, s3, s4⟩ := hsb
      obtain ⟨s5, s6⟩ := hB
      have hcr := fun w' => impl_cross x y u v (by unfold In at i1; omega) (by unfold In at i2; omega) (by unfold In at i3; omega) (by unfold In at i4; omega) w'
      have Hcr := hid hcr
      clear hcr i1 i2 i3 i4
      have hk0 : (0 : Int) ≤ (k : Int) := by omega
      have hk1 : (k : Int) < (ps.length : Int) := by omega
      have hw1 : IntKind.i64.wrap (s + (x * v - u * y)) = s + (x * v - u * y) := by rw [IntKind.wrap_i64]; omega
      go_wp2_with fail
      go_region_held3 (fun w' => w'.cell? ⟨wr.heap.size, 0, none⟩ = some (.int .i64 x) ∧ w'.cell? ⟨wr.heap.size, 1, none⟩ = some (.int .i64 y)) ((go_split_ands; (repeat' apply And.intro) <;> (repeat (first | with_reducible assumption | (refine newcell _ _ _ _ _ _ ?_ rfl; simp; done) | refine keepcell (by with_reducible assumption) ?_ | refine keepdrew ?_ | refine keepalloc ?_ _))))
        (first
          | (go_at_call 237; refine (Hbh.out _ ?_).mono ?_; exact Hh.out.below (by (repeat (first | exact Below.refl _ _ | (refine btrans ?_ (by with_reducible assumption)) | refine bdrew ?_ | refine balloc ?_ _))); rintro e w2 ⟨rfl, hb2⟩)
          | (go_at_call 236; refine (Hcr.out _).mono ?_; rintro e w3 ⟨rfl, hb3⟩))
      go_wp2_with fail
      go_roundw
      case rel => exact ⟨k + 1, by rw [hs.out], by go_num, by omega, by (repeat (first | exact Below.refl _ _ | (refine btrans ?_ (by with_reducible assumption)) | refine bdrew ?_ | refine balloc ?_ _))⟩
      case measure => simp [intOf]; omega
    · have hk' : k = ps.length := by omega
      subst hk'
      go_wp2_with fail
      go_ret
      exact ⟨by rw [Hv.out]; rfl, hb⟩
set_option maxHeartbeats 1000000 in
theorem spec_Area2 (a : Option Addr) (cap : Nat) (ps : List (Int × Int)) (w : World) (hm : ps.length ≤ 1099511627776) (hc : ps.length ≤ cap) (h : Pts w a ps) : Calls Tryz.prog 107 #[.slice a ps.length cap] w fun e w' => e = .returned (.int .i64 (area2 ps)) ∧ Below w.heap.size w w' := by
  cases ha : allok ps
  · have hv : area2 ps = 0 := by unfold area2; rw [if_neg (by simp [ha])]
    have hb := spec_all a cap ps w hm hc h
    rw [ha] at hb
    have Hb := hid hb
    clear hb
    go_enter Tryz.func107, Tryz.ntmps107
    go_wp2_with fail
    refine (Hb.out).mono ?_
    rintro e w1 ⟨rfl, hb1⟩
    go_wp2_with fail
    go_ret
    exact ⟨by rw [hv]; rfl, hb1⟩
  have hall := spec_all a cap ps w hm hc h
  rw [ha] at hall
  have Hall := hid hall
  clear hall
  by_cases hl : (1000 : Int) < (ps.length : Int)
  · have hv : area2 ps = 0 := by unfold area2; rw [if_neg (by omega)]
    go_enter Tryz.func107, Tryz.ntmps107
    go_wp2_with fail
    refine (Hall.out).mono ?_
    rintro e w1 ⟨rfl, hb1⟩
    go_wp2_with fail
    go_ret
    exact ⟨by rw [hv]; rfl, hb1⟩
  have hv : area2 ps = areaTo ps ps.length := by unfold area2; rw [if_pos ⟨by omega, ha⟩]
  have Hv := hid hv
  have Ha := hid ha
  have Hh := hid h
  clear hv ha h
  go_enter Tryz.func107, Tryz.ntmps107
  go_wp2_with fail
  refine (Hall.out).mono ?_
  rintro e w1 ⟨rfl, hb1⟩
  go_wp2_with fail
  go_loopw [3, 4] (fun ts ti wr => ∃ k : Nat, ts = .int .i64 (areaTo ps k) ∧ ti = .int .i64 k ∧ k ≤ ps.length ∧ Below w.heap.size w wr) (fun _ ti _ => ps.length - (intOf ti).toNat)
  case atStart => exact ⟨0, rfl, rfl, Nat.zero_le _, hb1⟩
  case round =>
    obtain ⟨k, rfl, rfl, hk, hb⟩ := hrel
    have hB := area_bd Ha.out k hk
    by_cases hlt : k < ps.length
    · have hp := Hh.out.below hb
      obtain ⟨i1, i2⟩ := allok_in Ha.out k hlt
      obtain ⟨i3, i4⟩ := nxt_in Ha.out k hlt
      have hs : Hid (areaTo ps (k + 1) = areaTo ps k + ((ps.getD k (0, 0)).1 * (nxt ps k).2 - (nxt ps k).1 * (ps.getD k (0, 0)).2)) := hid rfl
      rcases hp with rfl | ⟨b, off, rfl, hbs, hq⟩
      · simp at hlt
      obtain ⟨c0, c1⟩ := hq k hlt
      have hj : (k + 1) % ps.length < ps.length := Nat.mod_lt _ (by omega)
      obtain ⟨d0, d1⟩ := hq _ hj
      have e1 : ((k : Int) + 1).tmod (ps.length : Int) = (((k + 1) % ps.length : Nat) : Int) := by
        rw [show ((k : Int) + 1) = ((k + 1 : Nat) : Int) by omega]; rfl
      have hz : ¬ ((ps.length : Int) = 0) := by omega
      have hz1 : ¬ ps = [] := by rintro rfl; simp at hlt
      have hz2 : ¬ ps.length = 0 := by omega
      have e3 : nxt ps k = ps.getD ((k + 1) % ps.length) (0, 0) := rfl
      rw [← e3] at d0 d1
      generalize (ps.getD k (0, 0)).1 = x at *
      generalize (ps.getD k (0, 0)).2 = y at *
      clear e3
      generalize (nxt ps k).1 = u at *
      generalize (nxt ps k).2 = v at *
      generalize areaTo ps k = s at *
      generalize (k + 1) % ps.length = j at *
      have Hq := hid hq
      clear hq
      have hsb := side_bd i1 i2 i3 i4
      obtain ⟨⟨s1, s2⟩, s3, s4⟩ := hsb
      obtain ⟨s5, s6⟩ := hB
      clear i1 i2 i3 i4
      have hk0 : (0 : Int) ≤ (k : Int) := by omega
      have hk1 : (k : Int) < (ps.length : Int) := by omega
      have hj0 : (0 : Int) ≤ (j : Int) := by omega
      have hj1 : (j : Int) < (ps.length : Int) := by omega
      have hadd : IntKind.i64.wrap ((k : Int) + 1) = (k : Int) + 1 := by rw [IntKind.wrap_i64]; omega
      go_wp2_with fail
      go_region_held3 (fun w' => w'.cell? ⟨b, off + k * 2, none⟩ = some (.int .i64 x) ∧ w'.cell? ⟨b, off + k * 2 + 1, none⟩ = some (.int .i64 y) ∧ w'.cell? ⟨b, off + j * 2, none⟩ = some (.int .i64 u) ∧ w'.cell? ⟨b, off + j * 2 + 1, none⟩ = some (.int .i64 v)) ((go_split_ands; (repeat' apply And.intro) <;> (repeat (first | with_reducible assumption | (refine newcell _ _ _ _ _ _ ?_ rfl; simp; done) | refine keepcell (by with_reducible assumption) ?_ | refine keepdrew ?_ | refine keepalloc ?_ _))))
        (first
          | (fail))
      all_goals
        go_wp2_with fail
        go_roundw
        case rel => exact ⟨k + 1, by rw [hs.out]; go_num, by go_num, by omega, by (repeat (first | exact Below.refl _ _ | (refine btrans ?_ (by with_reducible assumption)) | refine bdrew ?_ | refine balloc ?_ _))⟩
        case measure => simp [intOf]; omega
    · have hk' : k = ps.length := by omega
      subst hk'
      go_wp2_with fail
      go_ret
      exact ⟨by rw [Hv.out]; rfl, hb⟩
end Go.Proofs.YtkdoigibpaempaaGreatDoor
namespace Go.Proofs.YtkdoigibpaempaaGreatDoor
open Go.RowKit
def hasb (a b c d x y : Int) : Bool := decide (a ≤ x) && decide (x ≤ c) && decide (b ≤ y) && decide (y ≤ d)
set_option maxHeartbeats 1000000 in
theorem impl_has (a b c d x y : Int) (w : World) : Calls Tryz.prog 245 #[.agg #[.int .i64 a, .int .i64 b, .int .i64 c, .int .i64 d], .agg #[.int .i64 x, .int .i64 y]] w fun e w' => e = .returned (.bool (hasb a b c d x y)) ∧ Below w.heap.size w w' := by
  unfold hasb
  cases h1 : decide (a ≤ x)
  · go_enter Tryz.func245, Tryz.ntmps245
    go_wp2_with fail
    go_ret
    exact ⟨by simp, by (repeat (first | exact Below.refl _ _ | (refine btrans ?_ (by assumption)) | refine bdrew ?_ | refine balloc ?_ _))⟩
  · cases h2 : decide (x ≤ c)
    · go_enter Tryz.func245, Tryz.ntmps245
      go_wp2_with fail
      go_ret
      exact ⟨by simp, by (repeat (first | exact Below.refl _ _ | (refine btrans ?_ (by assumption)) | refine bdrew ?_ | refine balloc ?_ _))⟩
    · cases h3 : decide (b ≤ y)
      · go_enter Tryz.func245, Tryz.ntmps245
        go_wp2_with fail
        go_ret
        exact ⟨by simp, by (repeat (first | exact Below.refl _ _ | (refine btrans ?_ (by assumption)) | refine bdrew ?_ | refine balloc ?_ _))⟩
      · go_enter Tryz.func245, Tryz.ntmps245
        go_wp2_with fail
        go_ret
        exact ⟨by simp, by (repeat (first | exact Below.refl _ _ | (refine btrans ?_ (by assumption)) | refine bdrew ?_ | refine balloc ?_ _))⟩
theorem cell4 {w : World} {p : Nat} {a b c d : Value} {t : TypeId} (h : w.heap[p]? = some (.cells #[a, b, c, d] t (0, 0))) :
    w.cell? ⟨p, 0, none⟩ = some a ∧ w.cell? ⟨p, 1, none⟩ = some b ∧ w.cell? ⟨p, 2, none⟩ = some c ∧ w.cell? ⟨p, 3, none⟩ = some d ∧ w.frozen? ⟨p, 0, none⟩ = false ∧ w.frozen? ⟨p, 1, none⟩ = false ∧ w.frozen? ⟨p, 2, none⟩ = false ∧ w.frozen? ⟨p, 3, none⟩ = false := by
  simp [World.cell?, World.frozen?, h]
theorem cell2 {w : World} {p : Nat} {a b : Value} {t : TypeId} (h : w.heap[p]? = some (.cells #[a, b] t (0, 0))) : w.cell? ⟨p, 0, none⟩ = some a ∧ w.cell? ⟨p, 1, none⟩ = some b := by
  simp [World.cell?, h]
def upto (f : Int → Int × Int → Int) (x : Int) (ps : List (Int × Int)) (k : Nat) : Int := (ps.take k).foldl f x
theorem upto_next (f : Int → Int × Int → Int) (x : Int) (ps : List (Int × Int)) (k : Nat) (h : k < ps.length) : upto f x ps (k + 1) = f (upto f x ps k) (ps.getD k (0, 0)) := by
  unfold upto
  rw [List.take_add_one, List.getElem?_eq_getElem h, List.foldl_append, List.getD_eq_getElem?_getD, List.getElem?_eq_getElem h]
  rfl
theorem upto_all (f : Int → Int × Int → Int) (x : Int) (ps : List (Int × Int)) (k : Nat) (h : ps.length ≤ k) : upto f x ps k = ps.foldl f x := by
  unfold upto
  rw [List.take_of_length_le h]
theorem set_at {w : World} {p k : Nat} {cs : Array Value} {t : TypeId} {fr : Nat × Nat} {u : Value} (h : w.heap[p]? = some (.cells cs t fr)) : (w.setCell ⟨p, k, none⟩ u).heap[p]? = some (.cells (cs.setIfInBounds k u) t fr) := by
  have hlt := lt_of_block h
  have h' : w.heap[p] = .cells cs t fr := by simpa [Array.getElem?_eq_getElem hlt] using h
  show (w.heap.modify p _)[p]? = _
  rw [Array.getElem?_eq_getElem (by simpa using hlt), Array.getElem_modify_self, h']
  rfl
theorem set_far {w : World} {p q k : Nat} {o : Obj} {u : Value} (h : w.heap[p]? = some o) (hne : p ≠ q) : (w.setCell ⟨q, k, none⟩ u).heap[p]? = some o := by
  rw [Below.heap_setCell w ⟨q, k, none⟩ u p hne]; exact h
theorem old_alloc {w : World} {p : Nat} {o o' : Obj} (h : w.heap[p]? = some o) : (w.alloc o').heap[p]? = some o := by
  rw [Below.heap_alloc w o' p (lt_of_block h)]; exact h
theorem new_alloc (w : World) (p : Nat) (o : Obj) (h : p = w.heap.size) : (w.alloc o).heap[p]? = some o := by
  rw [h]; exact heap_alloc_new w o
theorem ite_min (a b : Int) : (if b < a then b else a) = min a b := by
  split <;> omega
theorem ite_max (a b : Int) : (if a < b then b else a) = max a b := by
  split <;> omega
theorem bset {w a : World} (h : Below w.heap.size w a) {q k : Nat} (hq : w.heap.size ≤ q) (u : Value) : Below w.heap.size w (a.setCell ⟨q, k, none⟩ u) := h.setCell hq u
set_option maxHeartbeats 4000000 in
theorem impl_boxof (x y : Int) (a : Option Addr) (cap : Nat) (ps : List (Int × Int)) (w : World) (hm : ps.length ≤ 1099511627776) (hc : ps.length ≤ cap) (h : Pts w a ps) : Calls Tryz.prog 244 #[.agg #[.int .i64 x, .int .i64 y], .slice a ps.length cap] w fun e w' => e = .returned (.agg #[.int .i64 (ps.foldl (fun m p => min m p.1) x), .int .i64 (ps.foldl (fun m p => min m p.2) y), .int .i64 (ps.foldl (fun m p => max m p.1) x), .int .i64 (ps.foldl (fun m p => max m p.2) y)]) ∧ Below w.heap.size w w' := by
  go_enter Tryz.func244, Tryz.ntmps244
  go_wp2_with fail
  go_loopw [19] (fun ti wr => ∃ k : Nat, ∃ a0 b0 a1 b1 : Int, ti = .int .i64 k ∧ k ≤ ps.length ∧ Below w.heap.size w wr ∧ wr.heap[w.heap.size + 1]? = some (.cells #[.int .i64 0, .int .i64 0, .int .i64 0, .int .i64 0] 282 (0, 0)) ∧ wr.heap[w.heap.size + 1 + 1]? = some (.cells #[.int .i64 a0, .int .i64 b0, .int .i64 a1, .int .i64 b1] 282 (0, 0)) ∧
      Hid (a0 = upto (fun m p => min m p.1) x ps k ∧ b0 = upto (fun m p => min m p.2) y ps k ∧ a1 = upto (fun m p => max m p.1) x ps k ∧ b1 = upto (fun m p => max m p.2) y ps k)) (fun ti _ => ps.length - (intOf ti).toNat)
  case atStart => 
    refine ⟨0, x, y, x, y, rfl, Nat.zero_le _, by (repeat (first | exact Below.refl _ _ | (refine btrans ?_ (by assumption)) | refine bdrew ?_ | refine balloc ?_ _)), ?_, ?_, hid ⟨rfl, rfl, rfl, rfl⟩⟩
    · exact old_alloc (new_alloc _ _ _ (by simp))
    · exact new_alloc _ _ _ (by simp)
  case round =>
    obtain ⟨k, a0, b0, a1, b1, rfl, hk, hb, g4, g5, H⟩ := hrel
    by_cases hlt : k < ps.length
    · rcases h with rfl | ⟨b, off, rfl, hbs, hp⟩
      · simp at hlt
      obtain ⟨c0, c1⟩ := hp.below hbs hb k hlt
      generalize hx : (ps.getD k (0, 0)).1 = px at c0
      generalize hy : (ps.getD k (0, 0)).2 = py at c1
      have Hx := hid hx
      have Hy := hid hy
      have Hp := hid hp
      clear hx hy hp
      obtain ⟨d0, d1, d2, d3, f0, f1, f2, f3⟩ := cell4 g5
      have hl : w.heap.size + 1 + 1 < wr.heap.size := World.block_lt_of_cell? wr _ d0
      have hl2 : w.heap.size + 1 < wr.heap.size := by omega
      have G5 := hid g5
      have G4 := hid g4
      clear g5 g4
      go_wp2_with fail
      go_cut [19] from 19 to 47 (fun t19 wx => t19 = .int .i64 k ∧ ∃ A0 B0 : Int, Below w.heap.size w wx ∧ wx.heap[w.heap.size + 1]? = some (.cells #[.int .i64 0, .int .i64 0, .int .i64 0, .int .i64 0] 282 (0, 0)) ∧ wx.heap[w.heap.size + 1 + 1]? = some (.cells #[.int .i64 A0, .int .i64 B0, .int .i64 a1, .int .i64 b1] 282 (0, 0)) ∧ wx.heap[wr.heap.size]? = some (.cells #[.int .i64 px, .int .i64 py] 137 (0, 0)) ∧ Hid (A0 = min a0 px ∧ B0 = min b0 py))
      case first =>
        go_region
        generalize hA : (if px < a0 then px else a0) = A0
        generalize hB : (if py < b0 then py else b0) = B0
        have HA := hid hA
        have HB := hid hB
        clear hA hB
        go_wp2_with fail
        go_meet
        refine ⟨rfl, A0, B0, bdrew (balloc (bset (bset hb (by omega) _) (by omega) _) _), ?_, ?_, ?_, hid ⟨?_, ?_⟩⟩
        · exact old_alloc (set_far (set_far G4.out (by omega)) (by omega))
        · exact old_alloc (set_at (set_at G5.out))
        · exact new_alloc _ _ _ (by simp)
        · rw [← HA.out, ite_min]
        · rw [← HB.out, ite_min]
      case rest =>
        obtain ⟨rfl, A0, B0, hbx, g4, g5, gp, HAB⟩ := hcut
        clear d0 d1 d2 d3 f0 f1 f2 f3 G5 G4 c0 c1 hb
        obtain ⟨d0, d1, d2, d3, f0, f1, f2, f3⟩ := cell4 g5
        obtain ⟨p0, p1⟩ := cell2 gp
        have G5 := hid g5
        have G4 := hid g4
        clear g5 g4 gp
        go_wp2_with fail
        go_region
        generalize hC : (if a1 < px then px else a1) = A1
        generalize hD : (if b1 < py then py else b1) = B1
        have HC := hid hC
        have HD := hid hD
        clear hC hD
        go_wp2_with fail
        go_roundw
        case rel =>
          refine ⟨k + 1, A0, B0, A1, B1, by go_num, by omega, ?_, ?_, ?_, hid ?_⟩
          · exact bdrew (bset (bset hbx (by omega) _) (by omega) _)
          · exact set_far (set_far G4.out (by omega)) (by omega)
          · exact set_at (set_at G5.out)
          · obtain ⟨e1, e2, e3, e4⟩ := H.out
            obtain ⟨e5, e6⟩ := HAB.out
            rw [upto_next _ _ _ _ hlt, upto_next _ _ _ _ hlt, upto_next _ _ _ _ hlt, upto_next _ _ _ _ hlt, ← e1, ← e2, ← e3, ← e4, Hx.out, Hy.out, e5, e6, ← HC.out, ← HD.out, ite_max, ite_max]
            exact ⟨rfl, rfl, rfl, rfl⟩
        case measure => simp [intOf]; omega
    · have hk' : k = ps.length := by omega
      obtain ⟨d0, d1, d2, d3, f0, f1, f2, f3⟩ := cell4 g5
      obtain ⟨i0, i1, i2, i3, j0, j1, j2, j3⟩ := cell4 g4
      have G5 := hid g5
      have G4 := hid g4
      clear g5 g4
      go_wp2_with fail
      have gF : (((((wr.setCell ⟨w.heap.size + 1, 0, none⟩ (.int .i64 a0)).setCell ⟨w.heap.size + 1, 1, none⟩ (.int .i64 b0)).setCell ⟨w.heap.size + 1, 2, none⟩ (.int .i64 a1)).setCell ⟨w.heap.size + 1, 3, none⟩ (.int .i64 b1))).heap[w.heap.size + 1]? = some (.cells #[.int .i64 a0, .int .i64 b0, .int .i64 a1, .int .i64 b1] 282 (0, 0)) := set_at (set_at (set_at (set_at G4.out)))
      have hbF : Below w.heap.size w (((((wr.setCell ⟨w.heap.size + 1, 0, none⟩ (.int .i64 a0)).setCell ⟨w.heap.size + 1, 1, none⟩ (.int .i64 b0)).setCell ⟨w.heap.size + 1, 2, none⟩ (.int .i64 a1)).setCell ⟨w.heap.size + 1, 3, none⟩ (.int .i64 b1))) := bset (bset (bset (bset hb (by omega) _) (by omega) _) (by omega) _) (by omega) _
      generalize ((((wr.setCell ⟨w.heap.size + 1, 0, none⟩ (.int .i64 a0)).setCell ⟨w.heap.size + 1, 1, none⟩ (.int .i64 b0)).setCell ⟨w.heap.size + 1, 2, none⟩ (.int .i64 a1)).setCell ⟨w.heap.size + 1, 3, none⟩ (.int .i64 b1)) = wf at gF hbF ⊢
      obtain ⟨z0, z1, z2, z3, _, _, _, _⟩ := cell4 gF
      refine bodyPost_ret (v := .agg #[.int .i64 a0, .int .i64 b0, .int .i64 a1, .int .i64 b1]) (by simp [results, Tryz.results244, go_sem, z0, z1, z2, z3]) rfl ⟨?_, hbF⟩
      obtain ⟨e1, e2, e3, e4⟩ := H.out
      rw [upto_all _ _ _ _ (by omega)] at e1 e2 e3 e4
      rw [e1, e2, e3, e4]
end Go.Proofs.YtkdoigibpaempaaGreatDoor
