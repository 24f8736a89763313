/- Texts of stores, joined: Shape, Shape2. -/
import Derived.Test.YtninciflfolenaaGreatJ4
import Derived.Test.YtninciflfolenaaGreatJ2
import Derived.BigQuiet
import Derived.Deep.QuietTactic
namespace Go.Proofs.YtninciflfolenaaGreat
open Go.RowKit
set_option linter.unusedSimpArgs false
set_option linter.unusedVariables false
/-- A shape's value: its kind and its list of points. -/
abbrev shv (k : Int) (a : Option Addr) (n cap : Nat) : Value := .agg #[.int .i64 k, .slice a n cap]
/-- Each of the first k points differs from the one behind it. -/
def diffTo (ps : List (Int × Int)) : Nat → Bool
  | 0 => true
  | k + 1 => diffTo ps k && !((ps.getD k (0, 0)).1 == (ps.getD (k + 1) (0, 0)).1 && (ps.getD k (0, 0)).2 == (ps.getD (k + 1) (0, 0)).2)
def lineb (ps : List (Int × Int)) : Bool := decide (2 ≤ ps.length) && decide (ps.length ≤ 60) && diffTo ps (ps.length - 1)
theorem diff_mono {ps : List (Int × Int)} {k : Nat} (h : diffTo ps k = false) : ∀ m, k ≤ m → diffTo ps m = false
  | 0, hm => by obtain rfl : k = 0 := by omega
                exact h
  | m + 1, hm => by
    by_cases e : k = m + 1
    · subst e; exact h
    · rw [diffTo, diff_mono h m (by omega)]; rfl
theorem fig_dot (a : Option Addr) (n cap : Nat) (w : World) : Calls Tryz.prog 66 #[shv 0 a n cap] w fun e w' => e = .returned (.iface 127 (.slice a n cap)) ∧ Below w.heap.size w w' := by
  go_enter Tryz.func66, Tryz.ntmps66
  go_wp2_with fail
  go_ret
  exact ⟨rfl, by (repeat (first | with_reducible exact Below.refl _ _ | with_reducible assumption | (with_reducible refine btrans ?_ (by with_reducible assumption)) | with_reducible refine bdrew ?_ | with_reducible refine balloc ?_ _))⟩
theorem fig_path (a : Option Addr) (n cap : Nat) (w : World) : Calls Tryz.prog 66 #[shv 1 a n cap] w fun e w' => e = .returned (.iface 128 (.slice a n cap)) ∧ Below w.heap.size w w' := by
  go_enter Tryz.func66, Tryz.ntmps66
  go_wp2_with fail
  go_ret
  exact ⟨rfl, by (repeat (first | with_reducible exact Below.refl _ _ | with_reducible assumption | (with_reducible refine btrans ?_ (by with_reducible assumption)) | with_reducible refine bdrew ?_ | with_reducible refine balloc ?_ _))⟩
theorem fig_block (a : Option Addr) (n cap : Nat) (w : World) : Calls Tryz.prog 66 #[shv 2 a n cap] w fun e w' => e = .returned (.iface 129 (.slice a n cap)) ∧ Below w.heap.size w w' := by
  go_enter Tryz.func66, Tryz.ntmps66
  go_wp2_with fail
  go_ret
  exact ⟨rfl, by (repeat (first | with_reducible exact Below.refl _ _ | with_reducible assumption | (with_reducible refine btrans ?_ (by with_reducible assumption)) | with_reducible refine bdrew ?_ | with_reducible refine balloc ?_ _))⟩
theorem fig_ring (a : Option Addr) (n cap : Nat) (w : World) : Calls Tryz.prog 66 #[shv 3 a n cap] w fun e w' => e = .returned (.iface 130 (.slice a n cap)) ∧ Below w.heap.size w w' := by
  go_enter Tryz.func66, Tryz.ntmps66
  go_wp2_with fail
  go_ret
  exact ⟨rfl, by (repeat (first | with_reducible exact Below.refl _ _ | with_reducible assumption | (with_reducible refine btrans ?_ (by with_reducible assumption)) | with_reducible refine bdrew ?_ | with_reducible refine balloc ?_ _))⟩
theorem fig_blank (k : Int) (a : Option Addr) (n cap : Nat) (w : World) (h0 : (k == 0) = false) (h1 : (k == 1) = false) (h2 : (k == 2) = false) (h3 : (k == 3) = false) : Calls Tryz.prog 66 #[shv k a n cap] w fun e w' => e = .returned (.iface 132 (.agg #[])) ∧ Below w.heap.size w w' := by
  go_enter Tryz.func66, Tryz.ntmps66
  go_wp2_with fail
  go_ret
  exact ⟨rfl, by (repeat (first | with_reducible exact Below.refl _ _ | with_reducible assumption | (with_reducible refine btrans ?_ (by with_reducible assumption)) | with_reducible refine bdrew ?_ | with_reducible refine balloc ?_ _))⟩
theorem blank_right (w : World) : Calls Tryz.prog 165 #[.agg #[]] w fun e w' => e = .returned (.bool false) ∧ Below w.heap.size w w' := by
  go_enter Tryz.func165, Tryz.ntmps165
  go_wp2_with fail
  go_ret
  exact ⟨rfl, by (repeat (first | with_reducible exact Below.refl _ _ | with_reducible assumption | (with_reducible refine btrans ?_ (by with_reducible assumption)) | with_reducible refine bdrew ?_ | with_reducible refine balloc ?_ _))⟩
set_option maxHeartbeats 400000 in
theorem dot_right (a : Option Addr) (cap : Nat) (ps : List (Int × Int)) (w : World) (hm : ps.length ≤ 1099511627776) (h : Pts w a ps) : Calls Tryz.prog 137 #[.slice a ps.length cap] w fun e w' => e = .returned (.bool (decide (ps.length = 1) && allok ps)) ∧ Below w.heap.size w w' := by
  by_cases h1 : ps.length = 1
  · obtain ⟨⟨x, y⟩, rfl⟩ := List.length_eq_one_iff.1 h1
    obtain ⟨b, off, rfl, hbs, hp⟩ : ∃ b off, a = some ⟨b, off, none⟩ ∧ b < w.heap.size ∧ PtsAt w b off [(x, y)] := by
      rcases h with h | h
      · cases h
      · exact h
    obtain ⟨c0, c1⟩ := hp 0 (by simp)
    simp only [Nat.zero_mul, Nat.add_zero, List.getD_cons_zero] at c0 c1
    have Hp := hid hp
    clear hp h h1
    go_enter Tryz.func137, Tryz.ntmps137
    go_wp2_with fail
    refine (impl_ok _ _ _).mono ?_
    rintro e w1 ⟨rfl, rfl⟩
    go_wp2_with fail
    go_ret
    exact ⟨by simp [allok], by (repeat (first | with_reducible exact Below.refl _ _ | with_reducible assumption | (with_reducible refine btrans ?_ (by with_reducible assumption)) | with_reducible refine bdrew ?_ | with_reducible refine balloc ?_ _))⟩
  · have hne : ((ps.length : Int) == 1) = false := by rw [beq_eq_false_iff_ne]; omega
    go_enter Tryz.func137, Tryz.ntmps137
    go_wp2_with fail
    go_ret
    exact ⟨by simp [h1], by (repeat (first | with_reducible exact Below.refl _ _ | with_reducible assumption | (with_reducible refine btrans ?_ (by with_reducible assumption)) | with_reducible refine bdrew ?_ | with_reducible refine balloc ?_ _))⟩
set_option maxHeartbeats 1000000 in
theorem path_right (a : Option Addr) (cap : Nat) (ps : List (Int × Int)) (w : World) (hm : ps.length ≤ 1099511627776) (hc : ps.length ≤ cap) (h : Pts w a ps) : Calls Tryz.prog 140 #[.slice a ps.length cap] w fun e w' => e = .returned (.bool (lineb ps && allok ps)) ∧ Below w.heap.size w w' := by
  by_cases h2 : (ps.length : Int) < 2
  · have hv : (lineb ps && allok ps) = false := by unfold lineb; rw [decide_eq_false (by omega)]; rfl
    rw [hv]
    go_enter Tryz.func140, Tryz.ntmps140
    go_wp2_with fail
    go_ret
    exact ⟨rfl, by (repeat (first | with_reducible exact Below.refl _ _ | with_reducible assumption | (with_reducible refine btrans ?_ (by with_reducible assumption)) | with_reducible refine bdrew ?_ | with_reducible refine balloc ?_ _))⟩
  by_cases h6 : 60 < (ps.length : Int)
  · have hv : (lineb ps && allok ps) = false := by unfold lineb; rw [decide_eq_false (show ¬ ps.length ≤ 60 by omega), Bool.and_false]; rfl
    rw [hv]
    go_enter Tryz.func140, Tryz.ntmps140
    go_wp2_with fail
    go_ret
    exact ⟨rfl, by (repeat (first | with_reducible exact Below.refl _ _ | with_reducible assumption | (with_reducible refine btrans ?_ (by with_reducible assumption)) | with_reducible refine bdrew ?_ | with_reducible refine balloc ?_ _))⟩
  have hall := fun w' (hw : Pts w' a ps) => impl_all a cap ps w' hm hc hw
  have Hh := hid h
  clear h
  cases ha : allok ps
  · rw [Bool.and_false]
    rw [ha] at hall
    have Hall := hid hall
    clear hall
    go_enter Tryz.func140, Tryz.ntmps140
    go_wp2_with fail
    refine (Hall.out _ (Hh.out.below ?_)).mono ?_
    · (repeat (first | with_reducible exact Below.refl _ _ | with_reducible assumption | (with_reducible refine btrans ?_ (by with_reducible assumption)) | with_reducible refine bdrew ?_ | with_reducible refine balloc ?_ _))
    rintro e w1 ⟨rfl, hb1⟩
    go_wp2_with fail
    go_ret
    exact ⟨rfl, hb1⟩
  rw [ha] at hall
  have Hall := hid hall
  have hv : (lineb ps && true) = diffTo ps (ps.length - 1) := by unfold lineb; rw [decide_eq_true (by omega), decide_eq_true (by omega)]; simp
  have Hv := hid hv
  rw [hv]
  clear hall ha hv
  have hcap : ¬ cap = 1 := by omega
  have hs1 : (1 : Int) ≤ (ps.length : Int) := by omega
  have hs2 : (ps.length : Int) ≤ (cap : Int) := by omega
  obtain ⟨b, off, rfl, hbs, hp⟩ : ∃ b off, a = some ⟨b, off, none⟩ ∧ b < w.heap.size ∧ PtsAt w b off ps := by
    rcases Hh.out with h | h
    · rw [h] at hs1; simp at hs1
    · exact h
  have Hp := hid hp
  clear hp
  go_enter Tryz.func140, Tryz.ntmps140
  go_wp2_with fail
  refine (Hall.out _ (Hh.out.below ?_)).mono ?_
  · (repeat (first | with_reducible exact Below.refl _ _ | with_reducible assumption | (with_reducible refine btrans ?_ (by with_reducible assumption)) | with_reducible refine bdrew ?_ | with_reducible refine balloc ?_ _))
  rintro e w1 ⟨rfl, hb1⟩
  go_wp2_with fail
  go_loopw [21] (fun ti wr => ∃ k : Nat, ti = .int .i64 k ∧ k ≤ ps.length - 1 ∧ Below w.heap.size w wr ∧ Hid (diffTo ps k = true)) (fun ti _ => ps.length - 1 - (intOf ti).toNat)
  case atStart => exact ⟨0, rfl, Nat.zero_le _, hb1, hid rfl⟩
  case round =>
    obtain ⟨k, rfl, hk, hb, H⟩ := hrel
    by_cases hlt : k < ps.length - 1
    · obtain ⟨c0, c1⟩ := Hp.out.below hbs hb k (by omega)
      obtain ⟨d0, d1⟩ := Hp.out.below hbs hb (k + 1) (by omega)
      have hd : diffTo ps (k + 1) = (diffTo ps k && !((ps.getD k (0, 0)).1 == (ps.getD (k + 1) (0, 0)).1 && (ps.getD k (0, 0)).2 == (ps.getD (k + 1) (0, 0)).2)) := rfl
      rw [H.out] at hd
      rw [show off + (k + 1) * 2 = off + 2 + k * 2 by omega] at d0 d1
      generalize (ps.getD k (0, 0)).1 = x at *
      generalize (ps.getD k (0, 0)).2 = y at *
      generalize (ps.getD (k + 1) (0, 0)).1 = u at *
      generalize (ps.getD (k + 1) (0, 0)).2 = v at *
      have Hd := hid hd
      clear hd
      have hk0 : (0 : Int) ≤ (k : Int) := by omega
      have hk1 : (k : Int) < (ps.length : Int) := by omega
      have hk2 : (k : Int) < (ps.length : Int) - 1 := by omega
      have hk3 : k < ps.length - 1 := hlt
      by_cases hx : x = u
      · subst hx
        by_cases hy : y = v
        · subst hy
          go_wp2_with fail
          go_region_held3 (fun w' => w'.cell? ⟨b, off + k * 2, none⟩ = some (.int .i64 x) ∧ w'.cell? ⟨b, off + k * 2 + 1, none⟩ = some (.int .i64 y) ∧ w'.cell? ⟨wr.heap.size, 0, none⟩ = some (.int .i64 x) ∧ w'.cell? ⟨wr.heap.size, 1, none⟩ = some (.int .i64 y)) ((go_split_ands; (repeat' apply And.intro) <;> (repeat (first | with_reducible assumption | (refine newcell _ _ _ _ _ _ ?_ rfl; simp; done) | refine keepcell (by with_reducible assumption) ?_ | refine keepdrew ?_ | refine keepalloc ?_ _))))
            (first
              | (fail))
          go_wp2_with fail
          go_ret
          exact ⟨by rw [diff_mono (show diffTo ps (k + 1) = false by rw [Hd.out]; simp) _ (by omega)]; rfl, by (repeat (first | with_reducible exact Below.refl _ _ | with_reducible assumption | (with_reducible refine btrans ?_ (by with_reducible assumption)) | with_reducible refine bdrew ?_ | with_reducible refine balloc ?_ _))⟩
        · have hy' : (y == v) = false := by rw [beq_eq_false_iff_ne]; exact hy
          go_wp2_with fail
          go_region_held3 (fun w' => w'.cell? ⟨b, off + k * 2, none⟩ = some (.int .i64 x) ∧ w'.cell? ⟨b, off + k * 2 + 1, none⟩ = some (.int .i64 y) ∧ w'.cell? ⟨wr.heap.size, 0, none⟩ = some (.int .i64 x) ∧ w'.cell? ⟨wr.heap.size, 1, none⟩ = some (.int .i64 v)) ((go_split_ands; (repeat' apply And.intro) <;> (repeat (first | with_reducible assumption | (refine newcell _ _ _ _ _ _ ?_ rfl; simp; done) | refine keepcell (by with_reducible assumption) ?_ | refine keepdrew ?_ | refine keepalloc ?_ _))))
            (first
              | (fail))
          go_wp2_with fail
          go_roundw
          case rel => exact ⟨k + 1, by go_num, by omega, by (repeat (first | with_reducible exact Below.refl _ _ | with_reducible assumption | (with_reducible refine btrans ?_ (by with_reducible assumption)) | with_reducible refine bdrew ?_ | with_reducible refine balloc ?_ _)), hid (by rw [Hd.out]; simp [*])⟩
          case measure => simp [intOf]; omega
      · have hx' : (x == u) = false := by rw [beq_eq_false_iff_ne]; exact hx
        go_wp2_with fail
        go_region_held3 (fun w' => w'.cell? ⟨b, off + k * 2, none⟩ = some (.int .i64 x) ∧ w'.cell? ⟨b, off + k * 2 + 1, none⟩ = some (.int .i64 y) ∧ w'.cell? ⟨wr.heap.size, 0, none⟩ = some (.int .i64 u) ∧ w'.cell? ⟨wr.heap.size, 1, none⟩ = some (.int .i64 v)) ((go_split_ands; (repeat' apply And.intro) <;> (repeat (first | with_reducible assumption | (refine newcell _ _ _ _ _ _ ?_ rfl; simp; done) | refine keepcell (by with_reducible assumption) ?_ | refine keepdrew ?_ | refine keepalloc ?_ _))))
          (first
            | (fail))
        go_wp2_with fail
        go_roundw
        case rel => exact ⟨k + 1, by go_num, by omega, by (repeat (first | with_reducible exact Below.refl _ _ | with_reducible assumption | (with_reducible refine btrans ?_ (by with_reducible assumption)) | with_reducible refine bdrew ?_ | with_reducible refine balloc ?_ _)), hid (by rw [Hd.out]; simp [*])⟩
        case measure => simp [intOf]; omega
    · obtain rfl : k = ps.length - 1 := by omega
      go_wp2_with fail
      go_ret
      exact ⟨by rw [H.out]; rfl, hb⟩
end Go.Proofs.YtninciflfolenaaGreat
namespace Go.Proofs.YtninciflfolenaaGreat
open Go.RowKit
set_option linter.unusedSimpArgs false
set_option linter.unusedVariables false
theorem beldrew {w a : World} (h : Below w.heap.size w a) (n : Nat) : Below w.heap.size w (a.drewN n) := ⟨h.os, h.tape, h.output, h.size, h.block⟩
set_option maxHeartbeats 1000000 in
theorem spec_line (a : Option Addr) (cap : Nat) (ps : List (Int × Int)) (w : World) (hm : ps.length ≤ 1099511627776) (hc : ps.length ≤ cap) (h : Pts w a ps) : Calls Tryz.prog 58 #[.slice a ps.length cap] w fun e w' => e = .returned (.bool (lineb ps)) ∧ Below w.heap.size w w' := by
  have Hh := hid h
  clear h
  go_enter Tryz.func58, Tryz.ntmps58
  go_wp2_with fail
  go_loopw [3] (fun ti wr => ∃ k : Nat, ti = .int .i64 ((k : Int) + 1) ∧ (k = 0 ∨ k + 1 ≤ ps.length) ∧ Below w.heap.size w wr ∧ Hid (diffTo ps k = true)) (fun ti _ => ps.length + 1 - (intOf ti).toNat)
  case atStart => exact ⟨0, rfl, .inl rfl, Below.refl _ _, hid rfl⟩
  case round =>
    obtain ⟨k, rfl, hk, hb, H⟩ := hrel
    by_cases hlt : k + 1 < ps.length
    · obtain ⟨b, off, rfl, hbs, hp⟩ : ∃ b off, a = some ⟨b, off, none⟩ ∧ b < wr.heap.size ∧ PtsAt wr b off ps := by
        rcases Hh.out.below hb with h | h
        · rw [h] at hlt; simp at hlt
        · exact h
      obtain ⟨c0, c1⟩ := hp k (by omega)
      obtain ⟨d0, d1⟩ := hp (k + 1) (by omega)
      have Hp := hid hp
      clear hp
      have hd : diffTo ps (k + 1) = (diffTo ps k && !((ps.getD k (0, 0)).1 == (ps.getD (k + 1) (0, 0)).1 && (ps.getD k (0, 0)).2 == (ps.getD (k + 1) (0, 0)).2)) := rfl
      rw [H.out] at hd
      generalize (ps.getD k (0, 0)).1 = u at *
      generalize (ps.getD k (0, 0)).2 = v at *
      generalize (ps.getD (k + 1) (0, 0)).1 = x at *
      generalize (ps.getD (k + 1) (0, 0)).2 = y at *
      have Hd := hid hd
      clear hd
      have hk0 : (0 : Int) ≤ (k : Int) + 1 := by omega
      have hk1 : (k : Int) + 1 < (ps.length : Int) := by omega
      have hk2 : (k : Int) < (ps.length : Int) := by omega
      have hk3 : (0 : Int) ≤ (k : Int) := by omega
      have hw1 : IntKind.i64.wrap ((k : Int) + 1 - 1) = (k : Int) := by rw [IntKind.wrap_i64]; omega
      have hw2 : IntKind.i64.wrap (k : Int) = (k : Int) := by rw [IntKind.wrap_i64]; omega
      by_cases hx : x = u
      · subst hx
        by_cases hy : y = v
        · subst hy
          go_wp2_with fail
          go_region_held3 (fun w' => w'.cell? ⟨b, off + (k + 1) * 2, none⟩ = some (.int .i64 x) ∧ w'.cell? ⟨b, off + (k + 1) * 2 + 1, none⟩ = some (.int .i64 y) ∧ w'.cell? ⟨b, off + k * 2, none⟩ = some (.int .i64 x) ∧ w'.cell? ⟨b, off + k * 2 + 1, none⟩ = some (.int .i64 y)) ((go_split_ands; (repeat' apply And.intro) <;> (repeat (first | with_reducible assumption | (refine newcell _ _ _ _ _ _ ?_ rfl; simp; done) | refine keepcell (by with_reducible assumption) ?_ | refine keepdrew ?_ | refine keepalloc ?_ _))))
            (first
              | (fail))
          go_wp2_with fail
          go_ret
          exact ⟨by rw [show lineb ps = false by unfold lineb; rw [diff_mono (show diffTo ps (k + 1) = false by rw [Hd.out]; simp) _ (by omega), Bool.and_false]]; rfl, by (repeat (first | exact Below.refl _ _ | (refine btrans ?_ (by with_reducible assumption)) | refine bdrew ?_ | refine balloc ?_ _))⟩
        · have hy' : (y == v) = false := by rw [beq_eq_false_iff_ne]; exact hy
          go_wp2_with fail
          go_region_held3 (fun w' => w'.cell? ⟨b, off + (k + 1) * 2, none⟩ = some (.int .i64 x) ∧ w'.cell? ⟨b, off + (k + 1) * 2 + 1, none⟩ = some (.int .i64 y) ∧ w'.cell? ⟨b, off + k * 2, none⟩ = some (.int .i64 x) ∧ w'.cell? ⟨b, off + k * 2 + 1, none⟩ = some (.int .i64 v)) ((go_split_ands; (repeat' apply And.intro) <;> (repeat (first | with_reducible assumption | (refine newcell _ _ _ _ _ _ ?_ rfl; simp; done) | refine keepcell (by with_reducible assumption) ?_ | refine keepdrew ?_ | refine keepalloc ?_ _))))
            (first
              | (fail))
          go_wp2_with fail
          go_roundw
          case rel => exact ⟨k + 1, by go_num, .inr (by omega), by (repeat (first | exact Below.refl _ _ | (refine btrans ?_ (by with_reducible assumption)) | refine bdrew ?_ | refine balloc ?_ _)), hid (by rw [Hd.out]; simp only [Bool.true_and, Bool.not_eq_true', Bool.and_eq_false_iff, beq_eq_false_iff_ne, ne_eq]; omega)⟩
          case measure => simp [intOf]; omega
      · have hx' : (x == u) = false := by rw [beq_eq_false_iff_ne]; exact hx
        go_wp2_with fail
        go_region_held3 (fun w' => w'.cell? ⟨b, off + (k + 1) * 2, none⟩ = some (.int .i64 x) ∧ w'.cell? ⟨b, off + (k + 1) * 2 + 1, none⟩ = some (.int .i64 y) ∧ w'.cell? ⟨b, off + k * 2, none⟩ = some (.int .i64 u) ∧ w'.cell? ⟨b, off + k * 2 + 1, none⟩ = some (.int .i64 v)) ((go_split_ands; (repeat' apply And.intro) <;> (repeat (first | with_reducible assumption | (refine newcell _ _ _ _ _ _ ?_ rfl; simp; done) | refine keepcell (by with_reducible assumption) ?_ | refine keepdrew ?_ | refine keepalloc ?_ _))))
          (first
            | (fail))
        go_wp2_with fail
        go_roundw
        case rel => exact ⟨k + 1, by go_num, .inr (by omega), by (repeat (first | exact Below.refl _ _ | (refine btrans ?_ (by with_reducible assumption)) | refine bdrew ?_ | refine balloc ?_ _)), hid (by rw [Hd.out]; simp only [Bool.true_and, Bool.not_eq_true', Bool.and_eq_false_iff, beq_eq_false_iff_ne, ne_eq]; omega)⟩
        case measure => simp [intOf]; omega
    · have hlt' : ¬ ((k : Int) + 1 < (ps.length : Int)) := by omega
      have hv : lineb ps = (decide ((2 : Int) ≤ (ps.length : Int)) && decide ((ps.length : Int) ≤ 60)) := by
        unfold lineb
        rcases hk with rfl | hk
        · rw [decide_eq_false (show ¬ 2 ≤ ps.length by omega), decide_eq_false (show ¬ (2 : Int) ≤ (ps.length : Int) by omega)]; rfl
        · rw [show ps.length - 1 = k by omega, H.out, Bool.and_true]
          congr 1 <;> (rw [decide_eq_decide]; omega)
      have Hv := hid hv
      clear hv
      go_wp2_with fail
      refine (inn_calls _ _ _ _).mono ?_
      rintro e w2 ⟨rfl, hw⟩
      replace hw := hw.symm
      subst hw
      go_wp2_with fail
      go_ret
      exact ⟨by rw [Hv.out]; rfl, hb⟩
set_option maxHeartbeats 1000000 in
theorem block_box (a : Option Addr) (cap : Nat) (x y u v : Int) (w : World) (hc : 2 ≤ cap) (h : Pts w a [(x, y), (u, v)]) : Calls Tryz.prog 145 #[.slice a 2 cap] w fun e w' => e = .returned (.agg #[.int .i64 x, .int .i64 y, .int .i64 u, .int .i64 v]) ∧ Below w.heap.size w w' := by
    obtain ⟨b, off, rfl, hbs, hp⟩ : ∃ b off, a = some ⟨b, off, none⟩ ∧ b < w.heap.size ∧ PtsAt w b off [(x, y), (u, v)] := by
      rcases h with h | h
      · cases h
      · exact h
    obtain ⟨c0, c1⟩ := hp 0 (by simp)
    obtain ⟨d0, d1⟩ := hp 1 (by simp)
    simp only [Nat.zero_mul, Nat.add_zero, List.getD_cons_zero, List.getD_cons_succ, Nat.one_mul] at c0 c1 d0 d1
    have Hp := hid hp
    clear hp h
    go_enter Tryz.func145, Tryz.ntmps145
    go_wp2_with fail
    go_region_held3 (fun w' => w'.cell? ⟨b, off, none⟩ = some (.int .i64 x) ∧ w'.cell? ⟨b, off + 1, none⟩ = some (.int .i64 y) ∧ w'.cell? ⟨b, off + 2, none⟩ = some (.int .i64 u) ∧ w'.cell? ⟨b, off + 2 + 1, none⟩ = some (.int .i64 v)) ((go_split_ands; (repeat' apply And.intro) <;> (repeat (first | with_reducible assumption | (refine newcell _ _ _ _ _ _ ?_ rfl; simp; done) | refine keepcell (by with_reducible assumption) ?_ | refine keepdrew ?_ | refine keepalloc ?_ _))))
      (first
        | (fail))
    go_wp2_with fail
    exact bodyPost_ret (v := .agg #[.int .i64 x, .int .i64 y, .int .i64 u, .int .i64 v]) (by simp [results, Tryz.results145, go_sem]) rfl ⟨rfl, by (repeat (first | exact Below.refl _ _ | (refine btrans ?_ (by with_reducible assumption)) | refine bdrew ?_ | refine balloc ?_ _))⟩
def rectb (ps : List (Int × Int)) : Bool := decide (ps.length = 2) && (decide ((ps.getD 0 (0, 0)).1 ≤ (ps.getD 1 (0, 0)).1) && decide ((ps.getD 0 (0, 0)).2 ≤ (ps.getD 1 (0, 0)).2))
theorem len2 {ps : List (Int × Int)} (h : ps.length = 2) : ∃ x y u v, ps = [(x, y), (u, v)] := by
  match ps, h with
  | [(x, y), (u, v)], _ => exact ⟨x, y, u, v, rfl⟩
theorem bok_rect (x y u v : Int) : bok x y u v = (rectb [(x, y), (u, v)] && allok [(x, y), (u, v)]) := by
  simp only [bok, rectb, allok, pok, List.length_cons, List.length_nil, List.getD_cons_zero, List.getD_cons_succ, List.all_cons, List.all_nil]
  cases cok x <;> cases cok y <;> cases cok u <;> cases cok v <;> simp
set_option maxHeartbeats 1000000 in
theorem block_right (a : Option Addr) (cap : Nat) (ps : List (Int × Int)) (w : World) (hm : ps.length ≤ 1099511627776) (hc : ps.length ≤ cap) (h : Pts w a ps) : Calls Tryz.prog 143 #[.slice a ps.length cap] w fun e w' => e = .returned (.bool (rectb ps && allok ps)) ∧ Below w.heap.size w w' := by
  by_cases h2 : ps.length = 2
  · obtain ⟨x, y, u, v, rfl⟩ := len2 h2
    rw [← bok_rect]
    have hb := block_box a cap x y u v w hc h
    have Hb := hid hb
    clear hb h h2
    go_enter Tryz.func143, Tryz.ntmps143
    go_wp2_with fail
    refine Hb.out.mono ?_
    rintro e w1 ⟨rfl, hb1⟩
    go_wp2_with fail
    refine (impl_boxok _ _ _ _ _).mono ?_
    rintro e w2 ⟨rfl, hb2⟩
    go_wp2_with fail
    go_ret
    exact ⟨rfl, by (repeat (first | exact Below.refl _ _ | (refine btrans ?_ (by with_reducible assumption)) | refine bdrew ?_ | refine balloc ?_ _))⟩
  · have hne : ((ps.length : Int) == 2) = false := by rw [beq_eq_false_iff_ne]; omega
    have hv : (rectb ps && allok ps) = false := by unfold rectb; rw [decide_eq_false h2]; rfl
    rw [hv]
    go_enter Tryz.func143, Tryz.ntmps143
    go_wp2_with fail
    go_ret
    exact ⟨rfl, by (repeat (first | exact Below.refl _ _ | (refine btrans ?_ (by with_reducible assumption)) | refine bdrew ?_ | refine balloc ?_ _))⟩
end Go.Proofs.YtninciflfolenaaGreat
