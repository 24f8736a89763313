/- What points go around: the landed function and the specification's. -/
import Derived.Test.YtninciflfolenaaGreatJ1
namespace Go.Proofs.YtninciflfolenaaGreat
open Go.RowKit
set_option linter.unusedSimpArgs false
set_option linter.unusedVariables false
/-- The point behind the k-th: the last goes back to the first. -/
def nxt (ps : List (Int × Int)) (k : Nat) : Int × Int := ps.getD ((k + 1) % ps.length) (0, 0)
def areaTo (ps : List (Int × Int)) : Nat → Int
  | 0 => 0
  | k + 1 => areaTo ps k + ((ps.getD k (0, 0)).1 * (nxt ps k).2 - (nxt ps k).1 * (ps.getD k (0, 0)).2)
def area2 (ps : List (Int × Int)) : Int := if ps.length ≤ 1000 ∧ allok ps = true then areaTo ps ps.length else 0
theorem allok_in {ps : List (Int × Int)} (h : allok ps = true) (k : Nat) (hk : k < ps.length) : In (ps.getD k (0, 0)).1 ∧ In (ps.getD k (0, 0)).2 := by
  rw [allok, List.all_eq_true] at h
  refine in_of_pok (h _ ?_)
  rw [List.getD_eq_getElem?_getD, List.getElem?_eq_getElem hk]
  exact List.getElem_mem hk
theorem nxt_in {ps : List (Int × Int)} (h : allok ps = true) (k : Nat) (hk : k < ps.length) : In (nxt ps k).1 ∧ In (nxt ps k).2 :=
  allok_in h _ (Nat.mod_lt _ (by omega))
theorem side_bd {x y u v : Int} (h1 : In x) (h2 : In y) (h3 : In u) (h4 : In v) : (-3600000000 ≤ x * v ∧ x * v ≤ 3600000000) ∧ (-3600000000 ≤ u * y ∧ u * y ≤ 3600000000) := by
  unfold In at *
  exact ⟨mulb x v (by omega) (by omega) (by omega) (by omega), mulb u y (by omega) (by omega) (by omega) (by omega)⟩
theorem area_bd {ps : List (Int × Int)} (h : allok ps = true) : ∀ k, k ≤ ps.length → -(7200000000 * (k : Int)) ≤ areaTo ps k ∧ areaTo ps k ≤ 7200000000 * (k : Int)
  | 0, _ => by simp [areaTo]
  | k + 1, hk => by
    obtain ⟨a, b⟩ := area_bd h k (by omega)
    obtain ⟨c, d⟩ := allok_in h k (by omega)
    obtain ⟨e, f⟩ := nxt_in h k (by omega)
    have := side_bd c d e f
    rw [areaTo]
    omega
set_option maxHeartbeats 1000000 in
theorem impl_Area2 (a : Option Addr) (cap : Nat) (ps : List (Int × Int)) (w : World) (hm : ps.length ≤ 1099511627776) (hc : ps.length ≤ cap) (h : Pts w a ps) : Calls Tryz.prog 150 #[.slice a ps.length cap] w fun e w' => e = .returned (.int .i64 (area2 ps)) ∧ Below w.heap.size w w' := by
  by_cases hl : (1000 : Int) < (ps.length : Int)
  · have hv : area2 ps = 0 := by unfold area2; rw [if_neg (by omega)]
    go_enter Tryz.func150, Tryz.ntmps150
    go_wp2_with fail
    go_ret
    exact ⟨by rw [hv]; rfl, Below.refl _ _⟩
  cases ha : allok ps
  · have hv : area2 ps = 0 := by unfold area2; rw [if_neg (by simp [ha])]
    have hb := impl_all a cap ps w hm hc h
    rw [ha] at hb
    have Hb := hid hb
    clear hb
    go_enter Tryz.func150, Tryz.ntmps150
    go_wp2_with fail
    refine (Hb.out).mono ?_
    rintro e w1 ⟨rfl, hb1⟩
    go_wp2_with fail
    go_ret
    exact ⟨by rw [hv]; rfl, hb1⟩
  have hv : area2 ps = areaTo ps ps.length := by unfold area2; rw [if_pos ⟨by omega, ha⟩]
  have Hv := hid hv
  have Ha := hid ha
  have hall := impl_all a cap ps w hm hc h
  rw [ha] at hall
  have Hall := hid hall
  have Hh := hid h
  clear hv ha hall h
  go_enter Tryz.func150, Tryz.ntmps150
  go_wp2_with fail
  refine (Hall.out).mono ?_
  rintro e w1 ⟨rfl, hb1⟩
  go_wp2_with fail
  go_loopw [3, 16] (fun ts ti wr => ∃ k : Nat, ts = .int .i64 (areaTo ps k) ∧ ti = .int .i64 k ∧ k ≤ ps.length ∧ Below w.heap.size w wr) (fun _ ti _ => ps.length - (intOf ti).toNat)
  case atStart => exact ⟨0, rfl, rfl, Nat.zero_le _, hb1⟩
  case round =>
    obtain ⟨k, rfl, rfl, hk, hb⟩ := hrel
    have hB := area_bd Ha.out k hk
    by_cases hlt : k < ps.length
    · have hp := Hh.out.below hb
      have hbh : ∀ w', Pts w' a ps → Calls Tryz.prog 154 #[.slice a ps.length cap, .int .i64 k] w' fun e w'' => e = .returned (.agg #[.int .i64 (nxt ps k).1, .int .i64 (nxt ps k).2]) ∧ Below w'.heap.size w' w'' := fun w' hw' => impl_behind a cap ps k w' hm hc hlt hw'
      obtain ⟨i1, i2⟩ := allok_in Ha.out k hlt
      obtain ⟨i3, i4⟩ := nxt_in Ha.out k hlt
      have hs : Hid (areaTo ps (k + 1) = areaTo ps k + ((ps.getD k (0, 0)).1 * (nxt ps k).2 - (nxt ps k).1 * (ps.getD k (0, 0)).2)) := hid rfl
      rcases hp with rfl | ⟨b, off, rfl, hbs, hq⟩
      · simp at hlt
      obtain ⟨c0, c1⟩ := hq k hlt
      generalize (ps.getD k (0, 0)).1 = x at *
      generalize (ps.getD k (0, 0)).2 = y at *
      generalize (nxt ps k).1 = u at *
      generalize (nxt ps k).2 = v at *
      generalize areaTo ps k = s at *
      have Hq := hid hq
      have Hbh := hid hbh
      clear hq hbh
      have hsb := side_bd i1 i2 i3 i4
      obtain ⟨⟨s1, s2⟩, s3, s4⟩ := hsb
      obtain ⟨s5, s6⟩ := hB
      have hcr := fun w' => impl_cross x y u v (by unfold In at i1; omega) (by unfold In at i2; omega) (by unfold In at i3; omega) (by unfold In at i4; omega) w'
      have Hcr := hid hcr
      clear hcr i1 i2 i3 i4
      have hk0 : (0 : Int) ≤ (k : Int) := by omega
      have hk1 : (k : Int) < (ps.length : Int) := by omega
      have hw1 : IntKind.i64.wrap (s + (x * v - u * y)) = s + (x * v - u * y) := by rw [IntKind.wrap_i64]; omega
      go_wp2_with fail
      go_region_held3 (fun w' => w'.cell? ⟨wr.heap.size, 0, none⟩ = some (.int .i64 x) ∧ w'.cell? ⟨wr.heap.size, 1, none⟩ = some (.int .i64 y)) ((go_split_ands; (repeat' apply And.intro) <;> (repeat (first | with_reducible assumption | (refine newcell _ _ _ _ _ _ ?_ rfl; simp; done) | refine keepcell (by with_reducible assumption) ?_ | refine keepdrew ?_ | refine keepalloc ?_ _))))
        (first
          | (go_at_call 154; refine (Hbh.out _ ?_).mono ?_; exact Hh.out.below (by (repeat (first | exact Below.refl _ _ | (refine btrans ?_ (by with_reducible assumption)) | refine bdrew ?_ | refine balloc ?_ _))); rintro e w2 ⟨rfl, hb2⟩)
          | (go_at_call 153; refine (Hcr.out _).mono ?_; rintro e w3 ⟨rfl, hb3⟩))
      go_wp2_with fail
      go_roundw
      case rel => exact ⟨k + 1, by rw [hs.out], by go_num, by omega, by (repeat (first | exact Below.refl _ _ | (refine btrans ?_ (by with_reducible assumption)) | refine bdrew ?_ | refine balloc ?_ _))⟩
      case measure => simp [intOf]; omega
    · have hk' : k = ps.length := by omega
      subst hk'
      go_wp2_with fail
      go_ret
      exact ⟨by rw [Hv.out]; rfl, hb⟩
set_option maxHeartbeats 1000000 in
theorem spec_Area2 (a : Option Addr) (cap : Nat) (ps : List (Int × Int)) (w : World) (hm : ps.length ≤ 1099511627776) (hc : ps.length ≤ cap) (h : Pts w a ps) : Calls Tryz.prog 73 #[.slice a ps.length cap] w fun e w' => e = .returned (.int .i64 (area2 ps)) ∧ Below w.heap.size w w' := by
  cases ha : allok ps
  · have hv : area2 ps = 0 := by unfold area2; rw [if_neg (by simp [ha])]
    have hb := spec_all a cap ps w hm hc h
    rw [ha] at hb
    have Hb := hid hb
    clear hb
    go_enter Tryz.func73, Tryz.ntmps73
    go_wp2_with fail
    refine (Hb.out).mono ?_
    rintro e w1 ⟨rfl, hb1⟩
    go_wp2_with fail
    go_ret
    exact ⟨by rw [hv]; rfl, hb1⟩
  have hall := spec_all a cap ps w hm hc h
  rw [ha] at hall
  have Hall := hid hall
  clear hall
  by_cases hl : (1000 : Int) < (ps.length : Int)
  · have hv : area2 ps = 0 := by unfold area2; rw [if_neg (by omega)]
    go_enter Tryz.func73, Tryz.ntmps73
    go_wp2_with fail
    refine (Hall.out).mono ?_
    rintro e w1 ⟨rfl, hb1⟩
    go_wp2_with fail
    go_ret
    exact ⟨by rw [hv]; rfl, hb1⟩
  have hv : area2 ps = areaTo ps ps.length := by unfold area2; rw [if_pos ⟨by omega, ha⟩]
  have Hv := hid hv
  have Ha := hid ha
  have Hh := hid h
  clear hv ha h
  go_enter Tryz.func73, Tryz.ntmps73
  go_wp2_with fail
  refine (Hall.out).mono ?_
  rintro e w1 ⟨rfl, hb1⟩
  go_wp2_with fail
  go_loopw [3, 4] (fun ts ti wr => ∃ k : Nat, ts = .int .i64 (areaTo ps k) ∧ ti = .int .i64 k ∧ k ≤ ps.length ∧ Below w.heap.size w wr) (fun _ ti _ => ps.length - (intOf ti).toNat)
  case atStart => exact ⟨0, rfl, rfl, Nat.zero_le _, hb1⟩
  case round =>
    obtain ⟨k, rfl, rfl, hk, hb⟩ := hrel
    have hB := area_bd Ha.out k hk
    by_cases hlt : k < ps.length
    · have hp := Hh.out.below hb
      obtain ⟨i1, i2⟩ := allok_in Ha.out k hlt
      obtain ⟨i3, i4⟩ := nxt_in Ha.out k hlt
      have hs : Hid (areaTo ps (k + 1) = areaTo ps k + ((ps.getD k (0, 0)).1 * (nxt ps k).2 - (nxt ps k).1 * (ps.getD k (0, 0)).2)) := hid rfl
      rcases hp with rfl | ⟨b, off, rfl, hbs, hq⟩
      · simp at hlt
      obtain ⟨c0, c1⟩ := hq k hlt
      have hj : (k + 1) % ps.length < ps.length := Nat.mod_lt _ (by omega)
      obtain ⟨d0, d1⟩ := hq _ hj
      have e1 : ((k : Int) + 1).tmod (ps.length : Int) = (((k + 1) % ps.length : Nat) : Int) := by
        rw [show ((k : Int) + 1) = ((k + 1 : Nat) : Int) by omega]; rfl
      have hz : ¬ ((ps.length : Int) = 0) := by omega
      have hz1 : ¬ ps = [] := by rintro rfl; simp at hlt
      have hz2 : ¬ ps.length = 0 := by omega
      have e3 : nxt ps k = ps.getD ((k + 1) % ps.length) (0, 0) := rfl
      rw [← e3] at d0 d1
      generalize (ps.getD k (0, 0)).1 = x at *
      generalize (ps.getD k (0, 0)).2 = y at *
      clear e3
      generalize (nxt ps k).1 = u at *
      generalize (nxt ps k).2 = v at *
      generalize areaTo ps k = s at *
      generalize (k + 1) % ps.length = j at *
      have Hq := hid hq
      clear hq
      have hsb := side_bd i1 i2 i3 i4
      obtain ⟨⟨s1, s2⟩, s3, s4⟩ := hsb
      obtain ⟨s5, s6⟩ := hB
      clear i1 i2 i3 i4
      have hk0 : (0 : Int) ≤ (k : Int) := by omega
      have hk1 : (k : Int) < (ps.length : Int) := by omega
      have hj0 : (0 : Int) ≤ (j : Int) := by omega
      have hj1 : (j : Int) < (ps.length : Int) := by omega
      have hadd : IntKind.i64.wrap ((k : Int) + 1) = (k : Int) + 1 := by rw [IntKind.wrap_i64]; omega
      go_wp2_with fail
      go_region_held3 (fun w' => w'.cell? ⟨b, off + k * 2, none⟩ = some (.int .i64 x) ∧ w'.cell? ⟨b, off + k * 2 + 1, none⟩ = some (.int .i64 y) ∧ w'.cell? ⟨b, off + j * 2, none⟩ = some (.int .i64 u) ∧ w'.cell? ⟨b, off + j * 2 + 1, none⟩ = some (.int .i64 v)) ((go_split_ands; (repeat' apply And.intro) <;> (repeat (first | with_reducible assumption | (refine newcell _ _ _ _ _ _ ?_ rfl; simp; done) | refine keepcell (by with_reducible assumption) ?_ | refine keepdrew ?_ | refine keepalloc ?_ _))))
        (first
          | (fail))
      all_goals
        go_wp2_with fail
        go_roundw
        case rel => exact ⟨k + 1, by rw [hs.out]; go_num, by go_num, by omega, by (repeat (first | exact Below.refl _ _ | (refine btrans ?_ (by with_reducible assumption)) | refine bdrew ?_ | refine balloc ?_ _))⟩
        case measure => simp [intOf]; omega
    · have hk' : k = ps.length := by omega
      subst hk'
      go_wp2_with fail
      go_ret
      exact ⟨by rw [Hv.out]; rfl, hb⟩
end Go.Proofs.YtninciflfolenaaGreat
