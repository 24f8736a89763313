/- Texts of stores, joined: ShapeOk, ShapeSp, ShLaw, Rw0, Rw, Mark. -/
import Derived.Test.YtenlhgnobfadgaaGreatDoorRing3
set_option maxHeartbeats 1000000
set_option linter.unusedSimpArgs false
set_option linter.unusedVariables false
namespace Go.Proofs.YtenlhgnobfadgaaGreatDoor
open Go.RowKit
theorem onb_start (x y u v : Int) : onb x y x y u v = true := by
 unfold onb hasb cr
 simp only [Int.sub_self, Int.mul_zero, Int.zero_mul, decide_true, Bool.true_and, Bool.and_eq_true, decide_eq_true_eq]
 omega
theorem inner_iff (qs : List Sd) (i : Nat) : ∀ m, innerTo qs i m = true ↔ ∀ j, i + 2 ≤ j → j < i + 2 + m → meetq (qs.getD i (0, 0, 0, 0)) (qs.getD j (0, 0, 0, 0)) = false
 | 0 => ⟨fun _ j h1 h2 => absurd h2 (by omega), fun _ => rfl⟩
 | m + 1 => by
  rw [innerTo, Bool.and_eq_true, inner_iff qs i m, Bool.not_eq_true']
  constructor
  ·rintro ⟨h1, h2⟩ j hj hjm
   by_cases e : j = i + 2 + m
   ·subst e; exact h2
   ·exact h1 j hj (by omega)
  ·intro h
   exact ⟨fun j h1 h2 => h j h1 (by omega), h _ (by omega) (by omega)⟩
theorem apart_iff (qs : List Sd) : ∀ k, apartTo qs k = true ↔ ∀ i, i < k → foldq (qs.getD i (0, 0, 0, 0)) (qs.getD ((i + 1) % qs.length) (0, 0, 0, 0)) = false ∧ ∀ j, i + 2 ≤ j → j < farq qs.length i → meetq (qs.getD i (0, 0, 0, 0)) (qs.getD j (0, 0, 0, 0)) = false
 | 0 => ⟨fun _ i h => absurd h (by omega), fun _ => rfl⟩
 | k + 1 => by
  rw [apartTo, Bool.and_eq_true, Bool.and_eq_true, apart_iff qs k, Bool.not_eq_true', inner_iff]
  constructor
  ·rintro ⟨h1, h2, h3⟩ i hi
   by_cases e : i = k
   ·subst e; exact ⟨h2, fun j a b => h3 j a (by omega)⟩
   ·exact h1 i (by omega)
  ·intro h
   exact ⟨fun i hi => h i (by omega), (h k (by omega)).1, fun j a b => (h k (by omega)).2 j a (by omega)⟩
theorem specIn_iff (ps : List (Int × Int)) (i : Nat) : ∀ m, specIn ps i m = true ↔ ∀ j, i + 1 ≤ j → j < i + 1 + m → specC ps i j = false
 | 0 => ⟨fun _ j h1 h2 => absurd h2 (by omega), fun _ => rfl⟩
 | m + 1 => by
  rw [specIn, Bool.and_eq_true, specIn_iff ps i m, Bool.not_eq_true']
  constructor
  ·rintro ⟨h1, h2⟩ j hj hjm
   by_cases e : j = i + 1 + m
   ·subst e; exact h2
   ·exact h1 j hj (by omega)
  ·intro h
   exact ⟨fun j h1 h2 => h j h1 (by omega), h _ (by omega) (by omega)⟩
theorem specTo_iff (ps : List (Int × Int)) : ∀ k, k ≤ ps.length → (specTo ps k = true ↔ ∀ i, i < k → ((ps.getD i (0, 0)).1 == (nxt ps i).1 && (ps.getD i (0, 0)).2 == (nxt ps i).2) = false ∧ ∀ j, i + 1 ≤ j → j < ps.length → specC ps i j = false)
 | 0, _ => ⟨fun _ i h => absurd h (by omega), fun _ => rfl⟩
 | k + 1, hk => by
  rw [specTo, Bool.and_eq_true, Bool.and_eq_true, specTo_iff ps k (by omega), Bool.not_eq_true', specIn_iff]
  constructor
  ·rintro ⟨h1, h2, h3⟩ i hi
   by_cases e : i = k
   ·subst e; exact ⟨h2, fun j a b => h3 j a (by omega)⟩
   ·exact h1 i (by omega)
  ·intro h
   exact ⟨fun i hi => h i (by omega), (h k (by omega)).1, fun j a b => (h k (by omega)).2 j a (by omega)⟩
theorem apart_spec (ps : List (Int × Int)) (h3 : 3 ≤ ps.length) : apartTo (ringSides ps) (ringSides ps).length = specTo ps ps.length := by
 rw [Bool.eq_iff_iff, apart_iff, specTo_iff ps _ (Nat.le_refl _), ringSides_len]
 have hf : ∀ i j, i < ps.length → j < ps.length → foldq ((ringSides ps).getD i (0, 0, 0, 0)) ((ringSides ps).getD j (0, 0, 0, 0)) = (onb (nxt ps j).1 (nxt ps j).2 (ps.getD i (0, 0)).1 (ps.getD i (0, 0)).2 (nxt ps i).1 (nxt ps i).2 || onb (ps.getD i (0, 0)).1 (ps.getD i (0, 0)).2 (ps.getD j (0, 0)).1 (ps.getD j (0, 0)).2 (nxt ps j).1 (nxt ps j).2) := by
  intro i j hi hj
  rw [ringSides_at ps i hi, ringSides_at ps j hj]; rfl
 have hmq : ∀ i j, i < ps.length → j < ps.length → meetq ((ringSides ps).getD i (0, 0, 0, 0)) ((ringSides ps).getD j (0, 0, 0, 0)) = smeet (ps.getD i (0, 0)).1 (ps.getD i (0, 0)).2 (nxt ps i).1 (nxt ps i).2 (ps.getD j (0, 0)).1 (ps.getD j (0, 0)).2 (nxt ps j).1 (nxt ps j).2 := by
  intro i j hi hj
  rw [ringSides_at ps i hi, ringSides_at ps j hj]; rfl
 have hC : ∀ i j, specC ps i j = badc ps.length i j (ps.getD i (0, 0)).1 (ps.getD i (0, 0)).2 (nxt ps i).1 (nxt ps i).2 (ps.getD j (0, 0)).1 (ps.getD j (0, 0)).2 (nxt ps j).1 (nxt ps j).2 := fun i j => rfl
 have hmod : ∀ i, i + 1 < ps.length → (i + 1) % ps.length = i + 1 := fun i h => Nat.mod_eq_of_lt h
 have hlast : (ps.length - 1 + 1) % ps.length = 0 := by rw [show ps.length - 1 + 1 = ps.length by omega, Nat.mod_self]
 constructor
 ·intro h i hi
  refine ⟨?_, ?_⟩
  ·rw [Bool.eq_false_iff]
   intro he
   simp only [Bool.and_eq_true, beq_iff_eq] at he
   have hfi := (h i hi).1
   have hj : (i + 1) % ps.length < ps.length := Nat.mod_lt _ (by omega)
   rw [hf i _ hi hj, Bool.or_eq_false_iff] at hfi
   have e : ps.getD ((i + 1) % ps.length) (0, 0) = nxt ps i := rfl
   rw [e, he.1, he.2, onb_start] at hfi
   exact absurd hfi.2 (by decide)
  ·intro j hj1 hj2
   rw [hC]
   unfold badc
   by_cases e1 : j = i + 1
   ·rw [if_pos e1]
    have hfi := (h i hi).1
    rw [hmod i (by omega), ← e1, hf i j hi hj2] at hfi
    exact hfi
   ·rw [if_neg e1]
    by_cases e2 : i = 0 ∧ j = ps.length - 1
    ·rw [if_pos e2]
     have hfi := (h j hj2).1
     rw [show (j + 1) % ps.length = i by rw [e2.2, hlast, e2.1], hf j i hj2 hi, Bool.or_comm] at hfi
     exact hfi
    ·rw [if_neg e2]
     have hmi := (h i hi).2 j (by omega) (by unfold farq; split <;> omega)
     rw [hmq i j hi hj2] at hmi
     exact hmi
 ·intro h i hi
  refine ⟨?_, ?_⟩
  ·by_cases e1 : i + 1 < ps.length
   ·rw [hmod i e1, hf i (i + 1) hi e1]
    have hs := (h i hi).2 (i + 1) (by omega) e1
    rw [hC] at hs
    unfold badc at hs
    rw [if_pos rfl] at hs
    exact hs
   ·have ei : i = ps.length - 1 := by omega
    have hs := (h 0 (by omega)).2 i (by omega) hi
    rw [hC] at hs
    unfold badc at hs
    rw [if_neg (by omega), if_pos ⟨rfl, ei⟩] at hs
    rw [show (i + 1) % ps.length = 0 by rw [ei, hlast], hf i 0 hi (by omega), Bool.or_comm]
    exact hs
  ·intro j hj1 hj2
   have hj : j < ps.length := by unfold farq at hj2; split at hj2 <;> omega
   have hs := (h i hi).2 j (by omega) hj
   rw [hC] at hs
   unfold badc at hs
   rw [if_neg (by omega), if_neg (by unfold farq at hj2; rintro ⟨a, b⟩; rw [if_pos a] at hj2; omega)] at hs
   rw [hmq i j hi hj]
   exact hs
theorem area_allok {ps : List (Int × Int)} (h : 0 < area2 ps) : allok ps = true := by
 unfold area2 at h
 split at h
 ·rename_i q; exact q.2
 ·omega
theorem ring_right (a : Option Addr) (cap : Nat) (ps : List (Int × Int)) (w : World) (hm : ps.length ≤ 1099511627776) (hc : ps.length ≤ cap) (h : Pts w a ps) : Calls Tryz.prog 253 #[.slice a ps.length cap] w fun e w' => e = .returned (.bool (ringOk ps)) ∧ Below w.heap.size w w' := by
 have Hh := hid h
 clear h
 by_cases h3 : (3 : Int) ≤ (ps.length : Int)
 ·by_cases h6 : (ps.length : Int) ≤ 60
  ·have har := fun w' (hw : Pts w' a ps) => impl_Area2 a cap ps w' hm hc hw
   by_cases hA : 0 < area2 ps
   ·have hv : ringOk ps = apartTo (ringSides ps) (ringSides ps).length := by
     rw [apart_spec ps (by omega)]
     unfold ringOk
     rw [decide_eq_true (by omega), decide_eq_true (by omega), decide_eq_true hA]; rfl
    have ha := area_allok hA
    have hsin : ∀ k, k < (ringSides ps).length → SdIn ((ringSides ps).getD k (0, 0, 0, 0)) := by
     intro k hk
     rw [ringSides_len] at hk
     rw [ringSides_at ps k hk]
     obtain ⟨i1, i2⟩ := allok_in ha k hk
     obtain ⟨i3, i4⟩ := nxt_in ha k hk
     exact ⟨i1, i2, i3, i4⟩
    have hka := fun b cap' w' (hb : b < w'.heap.size) (hcc : (ringSides ps).length ≤ cap') (hq : SdAt w' b 0 (ringSides ps)) => keep_apart b 0 cap' (ringSides ps) w' (by rw [ringSides_len]; exact hm) hcc hb hq hsin
    have hsa := fun w' (hw : Pts w' a ps) => sides_around a cap ps w' hm hc hw
    rw [ringSides_len] at hka
    rw [hv, ringSides_len]
    generalize apartTo (ringSides ps) ps.length = v at *
    generalize area2 ps = A at *
    have Hka := hid hka
    have Hsa := hid hsa
    have Har := hid har
    clear hka hsa har hv ha hsin
    go_enter Tryz.func253, Tryz.ntmps253
    go_wp2_with fail
    refine (Har.out _ Hh.out).mono ?_
    rintro e w1 ⟨rfl, hb1⟩
    go_wp2_with fail
    refine (Hsa.out _ (Hh.out.below hb1)).mono ?_
    rintro e w2 ⟨b2, rfl, hg2, hl2, hq2, hb2⟩
    have Hq2 := hid hq2
    clear hq2
    go_wp2_with fail
    refine (Hka.out _ _ _ hl2 (Nat.le_refl _) Hq2.out).mono ?_
    rintro e w3 ⟨rfl, hb3⟩
    go_wp2_with fail
    go_ret
    exact ⟨rfl, by (with_reducible repeat (first | exact Below.refl _ _ | assumption | (refine btrans ?_ (by assumption)) | refine bdrew ?_ | refine balloc ?_ _))⟩
   ·have hv : ringOk ps = false := by unfold ringOk; rw [decide_eq_false hA, Bool.and_false]; rfl
    rw [hv]
    generalize area2 ps = A at *
    have Har := hid har
    clear har hv
    go_enter Tryz.func253, Tryz.ntmps253
    go_wp2_with fail
    refine (Har.out _ Hh.out).mono ?_
    rintro e w1 ⟨rfl, hb1⟩
    go_wp2_with fail
    go_ret
    exact ⟨rfl, hb1⟩
  ·have hv : ringOk ps = false := by unfold ringOk; rw [decide_eq_false (show ¬ ps.length ≤ 60 by omega), Bool.and_false]; rfl
   rw [hv]
   go_enter Tryz.func253, Tryz.ntmps253
   go_wp2_with fail
   go_ret
   exact ⟨rfl, Below.refl _ _⟩
 ·have hv : ringOk ps = false := by unfold ringOk; rw [decide_eq_false (show ¬ 3 ≤ ps.length by omega)]; rfl
  rw [hv]
  go_enter Tryz.func253, Tryz.ntmps253
  go_wp2_with fail
  go_ret
  exact ⟨rfl, Below.refl _ _⟩
theorem shape_dot (a : Option Addr) (cap : Nat) (ps : List (Int × Int)) (w : World) (hm : ps.length ≤ 1099511627776) (hc : ps.length ≤ cap) (h : Pts w a ps) : Calls Tryz.prog 68 #[shv 0 a ps.length cap] w fun e w' => e = .returned (.bool (decide (ps.length = 1) && allok ps)) ∧ Below w.heap.size w w' := by
 have hr := fun w' (hw : Pts w' a ps) => dot_right a cap ps w' hm hw
 generalize (decide (ps.length = 1) && allok ps) = v at *
 have Hr := hid hr
 have Hh := hid h
 clear hr h
 go_enter Tryz.func68, Tryz.ntmps68
 go_wp2_with fail
 refine (fig_dot _ _ _ _).mono ?_
 rintro e w1 ⟨rfl, hb1⟩
 go_wp2_with fail
 refine (Hr.out _ (Hh.out.below ?_)).mono ?_
 ·(with_reducible repeat (first | exact Below.refl _ _ | assumption | (refine btrans ?_ (by assumption)) | refine bdrew ?_ | refine balloc ?_ _))
 rintro e w2 ⟨rfl, hb2⟩
 go_wp2_with fail
 go_ret
 exact ⟨rfl, by (with_reducible repeat (first | exact Below.refl _ _ | assumption | (refine btrans ?_ (by assumption)) | refine bdrew ?_ | refine balloc ?_ _))⟩
theorem shape_path (a : Option Addr) (cap : Nat) (ps : List (Int × Int)) (w : World) (hm : ps.length ≤ 1099511627776) (hc : ps.length ≤ cap) (h : Pts w a ps) : Calls Tryz.prog 68 #[shv 1 a ps.length cap] w fun e w' => e = .returned (.bool (lineb ps && allok ps)) ∧ Below w.heap.size w w' := by
 have hr := fun w' (hw : Pts w' a ps) => path_right a cap ps w' hm hc hw
 generalize (lineb ps && allok ps) = v at *
 have Hr := hid hr
 have Hh := hid h
 clear hr h
 go_enter Tryz.func68, Tryz.ntmps68
 go_wp2_with fail
 refine (fig_path _ _ _ _).mono ?_
 rintro e w1 ⟨rfl, hb1⟩
 go_wp2_with fail
 refine (Hr.out _ (Hh.out.below ?_)).mono ?_
 ·(with_reducible repeat (first | exact Below.refl _ _ | assumption | (refine btrans ?_ (by assumption)) | refine bdrew ?_ | refine balloc ?_ _))
 rintro e w2 ⟨rfl, hb2⟩
 go_wp2_with fail
 go_ret
 exact ⟨rfl, by (with_reducible repeat (first | exact Below.refl _ _ | assumption | (refine btrans ?_ (by assumption)) | refine bdrew ?_ | refine balloc ?_ _))⟩
theorem shape_block (a : Option Addr) (cap : Nat) (ps : List (Int × Int)) (w : World) (hm : ps.length ≤ 1099511627776) (hc : ps.length ≤ cap) (h : Pts w a ps) : Calls Tryz.prog 68 #[shv 2 a ps.length cap] w fun e w' => e = .returned (.bool (rectb ps && allok ps)) ∧ Below w.heap.size w w' := by
 have hr := fun w' (hw : Pts w' a ps) => block_right a cap ps w' hm hc hw
 generalize (rectb ps && allok ps) = v at *
 have Hr := hid hr
 have Hh := hid h
 clear hr h
 go_enter Tryz.func68, Tryz.ntmps68
 go_wp2_with fail
 refine (fig_block _ _ _ _).mono ?_
 rintro e w1 ⟨rfl, hb1⟩
 go_wp2_with fail
 refine (Hr.out _ (Hh.out.below ?_)).mono ?_
 ·(with_reducible repeat (first | exact Below.refl _ _ | assumption | (refine btrans ?_ (by assumption)) | refine bdrew ?_ | refine balloc ?_ _))
 rintro e w2 ⟨rfl, hb2⟩
 go_wp2_with fail
 go_ret
 exact ⟨rfl, by (with_reducible repeat (first | exact Below.refl _ _ | assumption | (refine btrans ?_ (by assumption)) | refine bdrew ?_ | refine balloc ?_ _))⟩
theorem shape_ring (a : Option Addr) (cap : Nat) (ps : List (Int × Int)) (w : World) (hm : ps.length ≤ 1099511627776) (hc : ps.length ≤ cap) (h : Pts w a ps) : Calls Tryz.prog 68 #[shv 3 a ps.length cap] w fun e w' => e = .returned (.bool (ringOk ps)) ∧ Below w.heap.size w w' := by
 have hr := fun w' (hw : Pts w' a ps) => ring_right a cap ps w' hm hc hw
 generalize (ringOk ps) = v at *
 have Hr := hid hr
 have Hh := hid h
 clear hr h
 go_enter Tryz.func68, Tryz.ntmps68
 go_wp2_with fail
 refine (fig_ring _ _ _ _).mono ?_
 rintro e w1 ⟨rfl, hb1⟩
 go_wp2_with fail
 refine (Hr.out _ (Hh.out.below ?_)).mono ?_
 ·(with_reducible repeat (first | exact Below.refl _ _ | assumption | (refine btrans ?_ (by assumption)) | refine bdrew ?_ | refine balloc ?_ _))
 rintro e w2 ⟨rfl, hb2⟩
 go_wp2_with fail
 go_ret
 exact ⟨rfl, by (with_reducible repeat (first | exact Below.refl _ _ | assumption | (refine btrans ?_ (by assumption)) | refine bdrew ?_ | refine balloc ?_ _))⟩
def shok (k : Int) (ps : List (Int × Int)) : Bool := if k = 0 then (decide (ps.length = 1) && allok ps) else if k = 1 then (lineb ps && allok ps) else if k = 2 then (rectb ps && allok ps) else if k = 3 then ringOk ps else false
theorem impl_ShapeOk (k : Int) (a : Option Addr) (cap : Nat) (ps : List (Int × Int)) (w : World) (hm : ps.length ≤ 1099511627776) (hc : ps.length ≤ cap) (h : Pts w a ps) : Calls Tryz.prog 68 #[shv k a ps.length cap] w fun e w' => e = .returned (.bool (shok k ps)) ∧ Below w.heap.size w w' := by
 by_cases h0 : k = 0
 ·subst h0; exact shape_dot a cap ps w hm hc h
 by_cases h1 : k = 1
 ·subst h1; exact shape_path a cap ps w hm hc h
 by_cases h2 : k = 2
 ·subst h2; exact shape_block a cap ps w hm hc h
 by_cases h3 : k = 3
 ·subst h3; exact shape_ring a cap ps w hm hc h
 have hv : shok k ps = false := by unfold shok; rw [if_neg h0, if_neg h1, if_neg h2, if_neg h3]
 rw [hv]
 have q0 : (k == 0) = false := by rw [beq_eq_false_iff_ne]; exact h0
 have q1 : (k == 1) = false := by rw [beq_eq_false_iff_ne]; exact h1
 have q2 : (k == 2) = false := by rw [beq_eq_false_iff_ne]; exact h2
 have q3 : (k == 3) = false := by rw [beq_eq_false_iff_ne]; exact h3
 clear hv h
 go_enter Tryz.func68, Tryz.ntmps68
 go_wp2_with fail
 refine (fig_blank _ _ _ _ _ q0 q1 q2 q3).mono ?_
 rintro e w1 ⟨rfl, hb1⟩
 go_wp2_with fail
 refine (blank_right _).mono ?_
 rintro e w2 ⟨rfl, hb2⟩
 go_wp2_with fail
 go_ret
 exact ⟨rfl, by (with_reducible repeat (first | exact Below.refl _ _ | assumption | (refine btrans ?_ (by assumption)) | refine bdrew ?_ | refine balloc ?_ _))⟩
theorem shok_no {k : Int} {ps : List (Int × Int)} (h : allok ps = false) : shok k ps = false := by
 unfold shok
 rw [h, Bool.and_false, Bool.and_false, Bool.and_false]
 have hr : ringOk ps = false := by
  unfold ringOk
  rw [decide_eq_false (show ¬ 0 < area2 ps by intro q; rw [area_allok q] at h; cases h), Bool.and_false]; rfl
 rw [hr]
 split <;> (try rfl)
 split <;> (try rfl)
 split <;> (try rfl)
 split <;> rfl
theorem spec_ShapeOk (k : Int) (a : Option Addr) (cap : Nat) (ps : List (Int × Int)) (w : World) (hm : ps.length ≤ 1099511627776) (hc : ps.length ≤ cap) (h : Pts w a ps) : Calls Tryz.prog 56 #[shv k a ps.length cap] w fun e w' => e = .returned (.bool (shok k ps)) ∧ Below w.heap.size w w' := by
 have hall := fun w' (hw : Pts w' a ps) => spec_all a cap ps w' hm hc hw
 have Hh := hid h
 clear h
 cases ha : allok ps
 ·rw [shok_no ha]
  rw [ha] at hall
  have Hall := hid hall
  clear hall ha
  go_enter Tryz.func56, Tryz.ntmps56
  go_wp2_with fail
  refine (Hall.out _ (Hh.out.below ?_)).mono ?_
  ·(with_reducible repeat (first | exact Below.refl _ _ | assumption | (refine btrans ?_ (by assumption)) | refine bdrew ?_ | refine balloc ?_ _))
  rintro e w1 ⟨rfl, hb1⟩
  have q0 : w1.cell? ⟨w.heap.size, 0, none⟩ = some (.int .i64 k) := by (repeat (first | with_reducible assumption | (refine newcell _ _ _ _ _ _ ?_ rfl; simp; done) | refine keepcell (by with_reducible assumption) ?_ | refine keepdrew ?_ | refine keepalloc ?_ _))
  have q1 : w1.cell? ⟨w.heap.size, 1, none⟩ = some (.slice a ps.length cap) := by (repeat (first | with_reducible assumption | (refine newcell _ _ _ _ _ _ ?_ rfl; simp; done) | refine keepcell (by with_reducible assumption) ?_ | refine keepdrew ?_ | refine keepalloc ?_ _))
  go_wp2_with fail
  go_ret
  exact ⟨rfl, by (with_reducible repeat (first | exact Below.refl _ _ | assumption | (refine btrans ?_ (by assumption)) | refine bdrew ?_ | refine balloc ?_ _))⟩
 rw [ha] at hall
 have Hall := hid hall
 have Ha := hid ha
 clear hall ha
 by_cases h0 : k = 0
 ·subst h0
  have hv : shok 0 ps = ((ps.length : Int) == 1) := by
   unfold shok; rw [if_pos rfl, Ha.out, Bool.and_true, Bool.eq_iff_iff, decide_eq_true_eq, beq_iff_eq]; omega
  rw [hv]
  go_enter Tryz.func56, Tryz.ntmps56
  go_wp2_with fail
  refine (Hall.out _ (Hh.out.below ?_)).mono ?_
  ·(with_reducible repeat (first | exact Below.refl _ _ | assumption | (refine btrans ?_ (by assumption)) | refine bdrew ?_ | refine balloc ?_ _))
  rintro e w1 ⟨rfl, hb1⟩
  have q0 : w1.cell? ⟨w.heap.size, 0, none⟩ = some (.int .i64 0) := by (repeat (first | with_reducible assumption | (refine newcell _ _ _ _ _ _ ?_ rfl; simp; done) | refine keepcell (by with_reducible assumption) ?_ | refine keepdrew ?_ | refine keepalloc ?_ _))
  have q1 : w1.cell? ⟨w.heap.size, 1, none⟩ = some (.slice a ps.length cap) := by (repeat (first | with_reducible assumption | (refine newcell _ _ _ _ _ _ ?_ rfl; simp; done) | refine keepcell (by with_reducible assumption) ?_ | refine keepdrew ?_ | refine keepalloc ?_ _))
  go_wp2_with fail
  go_ret
  exact ⟨rfl, by (with_reducible repeat (first | exact Below.refl _ _ | assumption | (refine btrans ?_ (by assumption)) | refine bdrew ?_ | refine balloc ?_ _))⟩
 have q0 : (k == 0) = false := by rw [beq_eq_false_iff_ne]; exact h0
 by_cases h1 : k = 1
 ·subst h1
  have hv : shok 1 ps = lineb ps := by unfold shok; rw [if_neg (by decide), if_pos rfl, Ha.out, Bool.and_true]
  rw [hv]
  have hl := fun w' (hw : Pts w' a ps) => spec_line a cap ps w' hm hc hw
  generalize lineb ps = v at *
  have Hl := hid hl
  clear hl hv
  go_enter Tryz.func56, Tryz.ntmps56
  go_wp2_with fail
  refine (Hall.out _ (Hh.out.below ?_)).mono ?_
  ·(with_reducible repeat (first | exact Below.refl _ _ | assumption | (refine btrans ?_ (by assumption)) | refine bdrew ?_ | refine balloc ?_ _))
  rintro e w1 ⟨rfl, hb1⟩
  have q0 : w1.cell? ⟨w.heap.size, 0, none⟩ = some (.int .i64 1) := by (repeat (first | with_reducible assumption | (refine newcell _ _ _ _ _ _ ?_ rfl; simp; done) | refine keepcell (by with_reducible assumption) ?_ | refine keepdrew ?_ | refine keepalloc ?_ _))
  have q1 : w1.cell? ⟨w.heap.size, 1, none⟩ = some (.slice a ps.length cap) := by (repeat (first | with_reducible assumption | (refine newcell _ _ _ _ _ _ ?_ rfl; simp; done) | refine keepcell (by with_reducible assumption) ?_ | refine keepdrew ?_ | refine keepalloc ?_ _))
  go_wp2_with fail
  refine (Hl.out _ (Hh.out.below ?_)).mono ?_
  ·(with_reducible repeat (first | exact Below.refl _ _ | assumption | (refine btrans ?_ (by assumption)) | refine bdrew ?_ | refine balloc ?_ _))
  rintro e w2 ⟨rfl, hb2⟩
  go_wp2_with fail
  go_ret
  exact ⟨rfl, by (with_reducible repeat (first | exact Below.refl _ _ | assumption | (refine btrans ?_ (by assumption)) | refine bdrew ?_ | refine balloc ?_ _))⟩
 have q1 : (k == 1) = false := by rw [beq_eq_false_iff_ne]; exact h1
 by_cases h2 : k = 2
 ·subst h2
  have hv : shok 2 ps = rectb ps := by unfold shok; rw [if_neg (by decide), if_neg (by decide), if_pos rfl, Ha.out, Bool.and_true]
  rw [hv]
  clear hv q0 q1 h0 h1
  by_cases hl : ps.length = 2
  ·obtain ⟨x, y, u, v, rfl⟩ := len2 hl
   have hv : rectb [(x, y), (u, v)] = (decide (x ≤ u) && decide (y ≤ v)) := by simp [rectb]
   rw [hv]
   clear hv hl hm
   obtain ⟨b, off, rfl, hbs, hp⟩ : ∃ b off, a = some ⟨b, off, none⟩ ∧ b < w.heap.size ∧ PtsAt w b off [(x, y), (u, v)] := by
    rcases Hh.out with h | h
    ·cases h
    ·exact h
   obtain ⟨c0, c1⟩ := hp 0 (by simp)
   obtain ⟨d0, d1⟩ := hp 1 (by simp)
   simp only [Nat.zero_mul, Nat.add_zero, List.getD_cons_zero, List.getD_cons_succ, Nat.one_mul] at c0 c1 d0 d1
   have Hp := hid hp
   clear hp
   simp only [List.length_cons, List.length_nil, Nat.zero_add, Nat.reduceAdd] at *
   cases hx : decide (x ≤ u)
   ·go_enter Tryz.func56, Tryz.ntmps56
    go_wp2_with fail
    refine (Hall.out _ (Hh.out.below ?_)).mono ?_
    ·(with_reducible repeat (first | exact Below.refl _ _ | assumption | (refine btrans ?_ (by assumption)) | refine bdrew ?_ | refine balloc ?_ _))
    rintro e w1 ⟨rfl, hb1⟩
    obtain ⟨q0, q1, e0, e1, e2, e3⟩ : w1.cell? ⟨w.heap.size, 0, none⟩ = some (.int .i64 2) ∧ w1.cell? ⟨w.heap.size, 1, none⟩ = some (.slice (some ⟨b, off, none⟩) 2 cap) ∧ w1.cell? ⟨b, off, none⟩ = some (.int .i64 x) ∧ w1.cell? ⟨b, off + 1, none⟩ = some (.int .i64 y) ∧ w1.cell? ⟨b, off + 2, none⟩ = some (.int .i64 u) ∧ w1.cell? ⟨b, off + 2 + 1, none⟩ = some (.int .i64 v) := by (repeat' apply And.intro) <;> (repeat (first | with_reducible assumption | (refine newcell _ _ _ _ _ _ ?_ rfl; simp; done) | refine keepcell (by with_reducible assumption) ?_ | refine keepdrew ?_ | refine keepalloc ?_ _))
    have hB1 : Below w.heap.size w w1 := by (with_reducible repeat (first | exact Below.refl _ _ | assumption | (refine btrans ?_ (by assumption)) | refine bdrew ?_ | refine balloc ?_ _))
    clear c0 c1 d0 d1
    go_wp2_with fail
    go_quiet (fail)
    go_wp2_with fail
    go_ret
    exact ⟨by first | rfl | simp, by first | exact hB1 | exact beldrew hB1 _ | exact beldrew (beldrew hB1 _) _⟩
   ·skip
    go_enter Tryz.func56, Tryz.ntmps56
    go_wp2_with fail
    refine (Hall.out _ (Hh.out.below ?_)).mono ?_
    ·(with_reducible repeat (first | exact Below.refl _ _ | assumption | (refine btrans ?_ (by assumption)) | refine bdrew ?_ | refine balloc ?_ _))
    rintro e w1 ⟨rfl, hb1⟩
    obtain ⟨q0, q1, e0, e1, e2, e3⟩ : w1.cell? ⟨w.heap.size, 0, none⟩ = some (.int .i64 2) ∧ w1.cell? ⟨w.heap.size, 1, none⟩ = some (.slice (some ⟨b, off, none⟩) 2 cap) ∧ w1.cell? ⟨b, off, none⟩ = some (.int .i64 x) ∧ w1.cell? ⟨b, off + 1, none⟩ = some (.int .i64 y) ∧ w1.cell? ⟨b, off + 2, none⟩ = some (.int .i64 u) ∧ w1.cell? ⟨b, off + 2 + 1, none⟩ = some (.int .i64 v) := by (repeat' apply And.intro) <;> (repeat (first | with_reducible assumption | (refine newcell _ _ _ _ _ _ ?_ rfl; simp; done) | refine keepcell (by with_reducible assumption) ?_ | refine keepdrew ?_ | refine keepalloc ?_ _))
    have hB1 : Below w.heap.size w w1 := by (with_reducible repeat (first | exact Below.refl _ _ | assumption | (refine btrans ?_ (by assumption)) | refine bdrew ?_ | refine balloc ?_ _))
    clear c0 c1 d0 d1
    go_wp2_with fail
    go_quiet (fail)
    go_wp2_with fail
    go_ret
    exact ⟨by first | rfl | simp, by first | exact hB1 | exact beldrew hB1 _ | exact beldrew (beldrew hB1 _) _⟩
  ·have hv : rectb ps = false := by unfold rectb; rw [decide_eq_false hl]; rfl
   rw [hv]
   have hne : ((ps.length : Int) == 2) = false := by rw [beq_eq_false_iff_ne]; omega
   clear hv hl
   go_enter Tryz.func56, Tryz.ntmps56
   go_wp2_with fail
   refine (Hall.out _ (Hh.out.below ?_)).mono ?_
   ·(with_reducible repeat (first | exact Below.refl _ _ | assumption | (refine btrans ?_ (by assumption)) | refine bdrew ?_ | refine balloc ?_ _))
   rintro e w1 ⟨rfl, hb1⟩
   have q0 : w1.cell? ⟨w.heap.size, 0, none⟩ = some (.int .i64 2) := by (repeat (first | with_reducible assumption | (refine newcell _ _ _ _ _ _ ?_ rfl; simp; done) | refine keepcell (by with_reducible assumption) ?_ | refine keepdrew ?_ | refine keepalloc ?_ _))
   have q1 : w1.cell? ⟨w.heap.size, 1, none⟩ = some (.slice a ps.length cap) := by (repeat (first | with_reducible assumption | (refine newcell _ _ _ _ _ _ ?_ rfl; simp; done) | refine keepcell (by with_reducible assumption) ?_ | refine keepdrew ?_ | refine keepalloc ?_ _))
   have hB1 : Below w.heap.size w w1 := by (with_reducible repeat (first | exact Below.refl _ _ | assumption | (refine btrans ?_ (by assumption)) | refine bdrew ?_ | refine balloc ?_ _))
   go_wp2_with fail
   go_quiet (fail)
   go_wp2_with fail
   go_ret
   exact ⟨by first | rfl | simp, by first | exact hB1 | exact beldrew hB1 _ | exact beldrew (beldrew hB1 _) _⟩
 have q2 : (k == 2) = false := by rw [beq_eq_false_iff_ne]; exact h2
 by_cases h3 : k = 3
 ·subst h3
  have hv : shok 3 ps = ringOk ps := by unfold shok; rw [if_neg (by decide), if_neg (by decide), if_neg (by decide), if_pos rfl]
  rw [hv]
  have hl := fun w' (hw : Pts w' a ps) => spec_ring a cap ps w' hm hc Ha.out hw
  generalize ringOk ps = v at *
  have Hl := hid hl
  clear hl hv
  go_enter Tryz.func56, Tryz.ntmps56
  go_wp2_with fail
  refine (Hall.out _ (Hh.out.below ?_)).mono ?_
  ·(with_reducible repeat (first | exact Below.refl _ _ | assumption | (refine btrans ?_ (by assumption)) | refine bdrew ?_ | refine balloc ?_ _))
  rintro e w1 ⟨rfl, hb1⟩
  have qq0 : w1.cell? ⟨w.heap.size, 0, none⟩ = some (.int .i64 3) := by (repeat (first | with_reducible assumption | (refine newcell _ _ _ _ _ _ ?_ rfl; simp; done) | refine keepcell (by with_reducible assumption) ?_ | refine keepdrew ?_ | refine keepalloc ?_ _))
  have qq1 : w1.cell? ⟨w.heap.size, 1, none⟩ = some (.slice a ps.length cap) := by (repeat (first | with_reducible assumption | (refine newcell _ _ _ _ _ _ ?_ rfl; simp; done) | refine keepcell (by with_reducible assumption) ?_ | refine keepdrew ?_ | refine keepalloc ?_ _))
  go_wp2_with fail
  refine (Hl.out _ (Hh.out.below ?_)).mono ?_
  ·(with_reducible repeat (first | exact Below.refl _ _ | assumption | (refine btrans ?_ (by assumption)) | refine bdrew ?_ | refine balloc ?_ _))
  rintro e w2 ⟨rfl, hb2⟩
  go_wp2_with fail
  go_ret
  exact ⟨rfl, by (with_reducible repeat (first | exact Below.refl _ _ | assumption | (refine btrans ?_ (by assumption)) | refine bdrew ?_ | refine balloc ?_ _))⟩
 have q3 : (k == 3) = false := by rw [beq_eq_false_iff_ne]; exact h3
 have hv : shok k ps = false := by unfold shok; rw [if_neg h0, if_neg h1, if_neg h2, if_neg h3]
 rw [hv]
 clear hv
 go_enter Tryz.func56, Tryz.ntmps56
 go_wp2_with fail
 refine (Hall.out _ (Hh.out.below ?_)).mono ?_
 ·(with_reducible repeat (first | exact Below.refl _ _ | assumption | (refine btrans ?_ (by assumption)) | refine bdrew ?_ | refine balloc ?_ _))
 rintro e w1 ⟨rfl, hb1⟩
 have qq0 : w1.cell? ⟨w.heap.size, 0, none⟩ = some (.int .i64 k) := by (repeat (first | with_reducible assumption | (refine newcell _ _ _ _ _ _ ?_ rfl; simp; done) | refine keepcell (by with_reducible assumption) ?_ | refine keepdrew ?_ | refine keepalloc ?_ _))
 have qq1 : w1.cell? ⟨w.heap.size, 1, none⟩ = some (.slice a ps.length cap) := by (repeat (first | with_reducible assumption | (refine newcell _ _ _ _ _ _ ?_ rfl; simp; done) | refine keepcell (by with_reducible assumption) ?_ | refine keepdrew ?_ | refine keepalloc ?_ _))
 go_wp2_with fail
 go_ret
 exact ⟨rfl, by (with_reducible repeat (first | exact Below.refl _ _ | assumption | (refine btrans ?_ (by assumption)) | refine bdrew ?_ | refine balloc ?_ _))⟩
theorem PtsOwn.of_block {w w' : World} {b : Nat} {ps : List (Int × Int)} (h : PtsOwn w b ps) (hb : w'.heap[b]? = w.heap[b]?) (hs : w.heap.size ≤ w'.heap.size) : PtsOwn w' b ps := by
 obtain ⟨h1, h2, h3⟩ := h
 refine ⟨Nat.lt_of_lt_of_le h1 hs, ?_, ?_⟩
 ·intro k hk
  obtain ⟨c0, c1⟩ := h2 k hk
  exact ⟨by rw [World.cell?_of_block (w := w) hb]; exact c0, by rw [World.cell?_of_block (w := w) hb]; exact c1⟩
 ·intro j hj
  obtain ⟨c0, c1⟩ := h3 j hj
  exact ⟨by rw [World.cell?_of_block (w := w) hb]; exact c0, by rw [World.frozen?_of_block (w := w) hb]; exact c1⟩
abbrev Rw : Type := Int × Int × Int × Int × List (Int × Int)
def rwv (r : Rw) (a : Option Addr) (cap : Nat) : Value := .agg #[.int .i64 r.1, .int .i64 r.2.1, .int .i64 r.2.2.1, .int .i64 r.2.2.2.1, .slice a r.2.2.2.2.length cap]
def RwAt (N : Nat → Prop) (w : World) (b o : Nat) (r : Rw) : Prop :=
 ∃ a cap, w.cell? ⟨b, o, none⟩ = some (.int .i64 r.1) ∧ w.cell? ⟨b, o + 1, none⟩ = some (.int .i64 r.2.1) ∧ w.cell? ⟨b, o + 2, none⟩ = some (.int .i64 r.2.2.1) ∧ w.cell? ⟨b, o + 3, none⟩ = some (.int .i64 r.2.2.2.1) ∧ w.cell? ⟨b, o + 4, none⟩ = some (.slice a r.2.2.2.2.length cap) ∧ r.2.2.2.2.length ≤ cap ∧ r.2.2.2.2.length ≤ 1099511627776 ∧ Pts w a r.2.2.2.2 ∧ (∀ c off, a = some ⟨c, off, none⟩ → N c)
def RwsAt (N : Nat → Prop) (w : World) (b o : Nat) (rs : List Rw) : Prop := ∀ j (h : j < rs.length), RwAt N w b (o + j * 5) rs[j]
def Rws (N : Nat → Prop) (w : World) (a : Option Addr) (rs : List Rw) : Prop := rs = [] ∨ ∃ b o, a = some ⟨b, o, none⟩ ∧ b < w.heap.size ∧ RwsAt N w b o rs
theorem RwAt.below {N : Nat → Prop} {w w' : World} {b o : Nat} {r : Rw} (h : RwAt N w b o r) (H : Below w.heap.size w w') : RwAt N w' b o r := by
 obtain ⟨a, cap, h0, h1, h2, h3, h4, h5, h6, h7, h8⟩ := h
 exact ⟨a, cap, keepcell H h0, keepcell H h1, keepcell H h2, keepcell H h3, keepcell H h4, h5, h6, h7.below H, h8⟩
theorem RwsAt.below {N : Nat → Prop} {w w' : World} {b o : Nat} {rs : List Rw} (h : RwsAt N w b o rs) (H : Below w.heap.size w w') : RwsAt N w' b o rs := fun j hj => (h j hj).below H
theorem Rws.below {N : Nat → Prop} {w w' : World} {a : Option Addr} {rs : List Rw} (h : Rws N w a rs) (H : Below w.heap.size w w') : Rws N w' a rs := by
 rcases h with h | ⟨b, o, e, hb, h⟩
 ·exact .inl h
 ·exact .inr ⟨b, o, e, Nat.lt_of_lt_of_le hb H.size, h.below H⟩
theorem Rws.at {N : Nat → Prop} {w : World} {a : Option Addr} {rs : List Rw} (h : Rws N w a rs) (j : Nat) (hj : j < rs.length) : ∃ b o, a = some ⟨b, o, none⟩ ∧ b < w.heap.size ∧ RwAt N w b (o + j * 5) rs[j] := by
 rcases h with h | ⟨b, o, e, hb, h⟩
 ·subst h; simp at hj
 ·exact ⟨b, o, e, hb, h j hj⟩
theorem set2r {w : World} {p : Nat} {o0 o1 : Value} {t : TypeId} (h : w.heap[p]? = some (.cells #[o0, o1] t (0, 0))) (a b : Value) : ((w.setCell ⟨p, 0, none⟩ a).setCell ⟨p, 1, none⟩ b).heap[p]? = some (.cells #[a, b] t (0, 0)) := by
 have st : ∀ (W : World) (cs : Array Value) (k : Nat) (u : Value), W.heap[p]? = some (.cells cs t (0, 0)) → (W.setCell ⟨p, k, none⟩ u).heap[p]? = some (.cells (cs.setIfInBounds k u) t (0, 0)) := by
  intro W cs k u h
  have hlt := lt_of_block h
  have h' : W.heap[p] = .cells cs t (0, 0) := by simpa [Array.getElem?_eq_getElem hlt] using h
  show (W.heap.modify p _)[p]? = _
  rw [Array.getElem?_eq_getElem (by simpa using hlt), Array.getElem_modify_self, h']
  rfl
 have e4 := st _ _ 1 b (st _ _ 0 a h)
 simpa using e4
theorem cell5g {w : World} {p : Nat} {a b c d e : Value} {t : TypeId} (h : w.heap[p]? = some (.cells #[a, b, c, d, e] t (0, 0))) : (w.cell? ⟨p, 0, none⟩ = some a ∧ w.cell? ⟨p, 1, none⟩ = some b ∧ w.cell? ⟨p, 2, none⟩ = some c ∧ w.cell? ⟨p, 3, none⟩ = some d ∧ w.cell? ⟨p, 4, none⟩ = some e) ∧ w.frozen? ⟨p, 0, none⟩ = false ∧ w.frozen? ⟨p, 1, none⟩ = false ∧ w.frozen? ⟨p, 2, none⟩ = false ∧ w.frozen? ⟨p, 3, none⟩ = false ∧ w.frozen? ⟨p, 4, none⟩ = false := by
 refine ⟨⟨?_, ?_, ?_, ?_, ?_⟩, ?_, ?_, ?_, ?_, ?_⟩ <;> simp [World.cell?, World.frozen?, h]
theorem set5 {w : World} {p : Nat} {o0 o1 o2 o3 o4 : Value} {t : TypeId} (h : w.heap[p]? = some (.cells #[o0, o1, o2, o3, o4] t (0, 0))) (a b c d e : Value) :
  (((((w.setCell ⟨p, 0, none⟩ a).setCell ⟨p, 1, none⟩ b).setCell ⟨p, 2, none⟩ c).setCell ⟨p, 3, none⟩ d).setCell ⟨p, 4, none⟩ e).heap[p]? = some (.cells #[a, b, c, d, e] t (0, 0)) := by
 have st : ∀ (W : World) (cs : Array Value) (k : Nat) (u : Value), W.heap[p]? = some (.cells cs t (0, 0)) → (W.setCell ⟨p, k, none⟩ u).heap[p]? = some (.cells (cs.setIfInBounds k u) t (0, 0)) := by
  intro W cs k u h
  have hlt := lt_of_block h
  have h' : W.heap[p] = .cells cs t (0, 0) := by simpa [Array.getElem?_eq_getElem hlt] using h
  show (W.heap.modify p _)[p]? = _
  rw [Array.getElem?_eq_getElem (by simpa using hlt), Array.getElem_modify_self, h']
  rfl
 have e4 := st _ _ 4 e (st _ _ 3 d (st _ _ 2 c (st _ _ 1 b (st _ _ 0 a h))))
 simpa using e4
theorem set34 {w : World} {p : Nat} {o0 o1 o2 o3 o4 : Value} {t : TypeId} (h : w.heap[p]? = some (.cells #[o0, o1, o2, o3, o4] t (0, 0))) (d e : Value) :
  ((w.setCell ⟨p, 3, none⟩ d).setCell ⟨p, 4, none⟩ e).heap[p]? = some (.cells #[o0, o1, o2, d, e] t (0, 0)) := by
 have st : ∀ (W : World) (cs : Array Value) (k : Nat) (u : Value), W.heap[p]? = some (.cells cs t (0, 0)) → (W.setCell ⟨p, k, none⟩ u).heap[p]? = some (.cells (cs.setIfInBounds k u) t (0, 0)) := by
  intro W cs k u h
  have hlt := lt_of_block h
  have h' : W.heap[p] = .cells cs t (0, 0) := by simpa [Array.getElem?_eq_getElem hlt] using h
  show (W.heap.modify p _)[p]? = _
  rw [Array.getElem?_eq_getElem (by simpa using hlt), Array.getElem_modify_self, h']
  rfl
 have e4 := st _ _ 4 e (st _ _ 3 d h)
 simpa using e4
theorem Tryz.infoRow : (Tryz.prog.info? 65).map (fun i => (i.zero, i.size, i.bytes)) = some (some (.agg #[.int .i64 0, .int .i64 0, .int .i64 0, .int .i64 0, .slice none 0 0]), 5, 56) := by kernel_rfl
def OwnP (w : World) (a : Option Addr) (ps : List (Int × Int)) : Prop := (a = none ∧ ps = []) ∨ ∃ b, a = some ⟨b, 0, none⟩ ∧ PtsOwn w b ps
theorem OwnP.below {w w' : World} {a : Option Addr} {ps : List (Int × Int)} (h : OwnP w a ps) (H : Below w.heap.size w w') : OwnP w' a ps := by
 rcases h with ⟨rfl, rfl⟩ | ⟨b, rfl, h⟩
 ·exact .inl ⟨rfl, rfl⟩
 ·exact .inr ⟨b, rfl, h.below H⟩
def mk (j : Nat) : Int × Int := ((1 : Int) + 2 * j, (2 : Int) + 2 * j)
end Go.Proofs.YtenlhgnobfadgaaGreatDoor
