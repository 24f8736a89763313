/- Texts of stores, joined: ShapeOk, ShapeSp. -/
import Derived.Test.YtenlhgnobfadgaaGreatDoorJ25
namespace Go.Proofs.YtenlhgnobfadgaaGreatDoor
open Go.RowKit
set_option linter.unusedSimpArgs false
set_option linter.unusedVariables false
theorem onb_start (x y u v : Int) : onb x y x y u v = true := by
  unfold onb hasb cr
  simp only [Int.sub_self, Int.mul_zero, Int.zero_mul, decide_true, Bool.true_and, Bool.and_eq_true, decide_eq_true_eq]
  omega
theorem inner_iff (qs : List Sd) (i : Nat) : ∀ m, innerTo qs i m = true ↔ ∀ j, i + 2 ≤ j → j < i + 2 + m → meetq (qs.getD i (0, 0, 0, 0)) (qs.getD j (0, 0, 0, 0)) = false
  | 0 => ⟨fun _ j h1 h2 => absurd h2 (by omega), fun _ => rfl⟩
  | m + 1 => by
    rw [innerTo, Bool.and_eq_true, inner_iff qs i m, Bool.not_eq_true']
    constructor
    · rintro ⟨h1, h2⟩ j hj hjm
      by_cases e : j = i + 2 + m
      · subst e; exact h2
      · exact h1 j hj (by omega)
    · intro h
      exact ⟨fun j h1 h2 => h j h1 (by omega), h _ (by omega) (by omega)⟩
theorem apart_iff (qs : List Sd) : ∀ k, apartTo qs k = true ↔ ∀ i, i < k → foldq (qs.getD i (0, 0, 0, 0)) (qs.getD ((i + 1) % qs.length) (0, 0, 0, 0)) = false ∧ ∀ j, i + 2 ≤ j → j < farq qs.length i → meetq (qs.getD i (0, 0, 0, 0)) (qs.getD j (0, 0, 0, 0)) = false
  | 0 => ⟨fun _ i h => absurd h (by omega), fun _ => rfl⟩
  | k + 1 => by
    rw [apartTo, Bool.and_eq_true, Bool.and_eq_true, apart_iff qs k, Bool.not_eq_true', inner_iff]
    constructor
    · rintro ⟨h1, h2, h3⟩ i hi
      by_cases e : i = k
      · subst e; exact ⟨h2, fun j a b => h3 j a (by omega)⟩
      · exact h1 i (by omega)
    · intro h
      exact ⟨fun i hi => h i (by omega), (h k (by omega)).1, fun j a b => (h k (by omega)).2 j a (by omega)⟩
theorem specIn_iff (ps : List (Int × Int)) (i : Nat) : ∀ m, specIn ps i m = true ↔ ∀ j, i + 1 ≤ j → j < i + 1 + m → specC ps i j = false
  | 0 => ⟨fun _ j h1 h2 => absurd h2 (by omega), fun _ => rfl⟩
  | m + 1 => by
    rw [specIn, Bool.and_eq_true, specIn_iff ps i m, Bool.not_eq_true']
    constructor
    · rintro ⟨h1, h2⟩ j hj hjm
      by_cases e : j = i + 1 + m
      · subst e; exact h2
      · exact h1 j hj (by omega)
    · intro h
      exact ⟨fun j h1 h2 => h j h1 (by omega), h _ (by omega) (by omega)⟩
theorem specTo_iff (ps : List (Int × Int)) : ∀ k, k ≤ ps.length → (specTo ps k = true ↔ ∀ i, i < k → ((ps.getD i (0, 0)).1 == (nxt ps i).1 && (ps.getD i (0, 0)).2 == (nxt ps i).2) = false ∧ ∀ j, i + 1 ≤ j → j < ps.length → specC ps i j = false)
  | 0, _ => ⟨fun _ i h => absurd h (by omega), fun _ => rfl⟩
  | k + 1, hk => by
    rw [specTo, Bool.and_eq_true, Bool.and_eq_true, specTo_iff ps k (by omega), Bool.not_eq_true', specIn_iff]
    constructor
    · rintro ⟨h1, h2, h3⟩ i hi
      by_cases e : i = k
      · subst e; exact ⟨h2, fun j a b => h3 j a (by omega)⟩
      · exact h1 i (by omega)
    · intro h
      exact ⟨fun i hi => h i (by omega), (h k (by omega)).1, fun j a b => (h k (by omega)).2 j a (by omega)⟩
theorem apart_spec (ps : List (Int × Int)) (h3 : 3 ≤ ps.length) : apartTo (ringSides ps) (ringSides ps).length = specTo ps ps.length := by
  rw [Bool.eq_iff_iff, apart_iff, specTo_iff ps _ (Nat.le_refl _), ringSides_len]
  have hf : ∀ i j, i < ps.length → j < ps.length → foldq ((ringSides ps).getD i (0, 0, 0, 0)) ((ringSides ps).getD j (0, 0, 0, 0)) = (onb (nxt ps j).1 (nxt ps j).2 (ps.getD i (0, 0)).1 (ps.getD i (0, 0)).2 (nxt ps i).1 (nxt ps i).2 || onb (ps.getD i (0, 0)).1 (ps.getD i (0, 0)).2 (ps.getD j (0, 0)).1 (ps.getD j (0, 0)).2 (nxt ps j).1 (nxt ps j).2) := by
    intro i j hi hj
    rw [ringSides_at ps i hi, ringSides_at ps j hj]; rfl
  have hmq : ∀ i j, i < ps.length → j < ps.length → meetq ((ringSides ps).getD i (0, 0, 0, 0)) ((ringSides ps).getD j (0, 0, 0, 0)) = smeet (ps.getD i (0, 0)).1 (ps.getD i (0, 0)).2 (nxt ps i).1 (nxt ps i).2 (ps.getD j (0, 0)).1 (ps.getD j (0, 0)).2 (nxt ps j).1 (nxt ps j).2 := by
    intro i j hi hj
    rw [ringSides_at ps i hi, ringSides_at ps j hj]; rfl
  have hC : ∀ i j, specC ps i j = badc ps.length i j (ps.getD i (0, 0)).1 (ps.getD i (0, 0)).2 (nxt ps i).1 (nxt ps i).2 (ps.getD j (0, 0)).1 (ps.getD j (0, 0)).2 (nxt ps j).1 (nxt ps j).2 := fun i j => rfl
  have hmod : ∀ i, i + 1 < ps.length → (i + 1) % ps.length = i + 1 := fun i h => Nat.mod_eq_of_lt h
  have hlast : (ps.length - 1 + 1) % ps.length = 0 := by rw [show ps.length - 1 + 1 = ps.length by omega, Nat.mod_self]
  constructor
  · intro h i hi
    refine ⟨?_, ?_⟩
    · rw [Bool.eq_false_iff]
      intro he
      simp only [Bool.and_eq_true, beq_iff_eq] at he
      have hfi := (h i hi).1
      have hj : (i + 1) % ps.length < ps.length := Nat.mod_lt _ (by omega)
      rw [hf i _ hi hj, Bool.or_eq_false_iff] at hfi
      have e : ps.getD ((i + 1) % ps.length) (0, 0) = nxt ps i := rfl
      rw [e, he.1, he.2, onb_start] at hfi
      exact absurd hfi.2 (by decide)
    · intro j hj1 hj2
      rw [hC]
      unfold badc
      by_cases e1 : j = i + 1
      · rw [if_pos e1]
        have hfi := (h i hi).1
        rw [hmod i (by omega), ← e1, hf i j hi hj2] at hfi
        exact hfi
      · rw [if_neg e1]
        by_cases e2 : i = 0 ∧ j = ps.length - 1
        · rw [if_pos e2]
          have hfi := (h j hj2).1
          rw [show (j + 1) % ps.length = i by rw [e2.2, hlast, e2.1], hf j i hj2 hi, Bool.or_comm] at hfi
          exact hfi
        · rw [if_neg e2]
          have hmi := (h i hi).2 j (by omega) (by unfold farq; split <;> omega)
          rw [hmq i j hi hj2] at hmi
          exact hmi
  · intro h i hi
    refine ⟨?_, ?_⟩
    · by_cases e1 : i + 1 < ps.length
      · rw [hmod i e1, hf i (i + 1) hi e1]
        have hs := (h i hi).2 (i + 1) (by omega) e1
        rw [hC] at hs
        unfold badc at hs
        rw [if_pos rfl] at hs
        exact hs
      · have ei : i = ps.length - 1 := by omega
        have hs := (h 0 (by omega)).2 i (by omega) hi
        rw [hC] at hs
        unfold badc at hs
        rw [if_neg (by omega), if_pos ⟨rfl, ei⟩] at hs
        rw [show (i + 1) % ps.length = 0 by rw [ei, hlast], hf i 0 hi (by omega), Bool.or_comm]
        exact hs
    · intro j hj1 hj2
      have hj : j < ps.length := by unfold farq at hj2; split at hj2 <;> omega
      have hs := (h i hi).2 j (by omega) hj
      rw [hC] at hs
      unfold badc at hs
      rw [if_neg (by omega), if_neg (by unfold farq at hj2; rintro ⟨a, b⟩; rw [if_pos a] at hj2; omega)] at hs
      rw [hmq i j hi hj]
      exact hs
theorem area_allok {ps : List (Int × Int)} (h : 0 < area2 ps) : allok ps = true := by
  unfold area2 at h
  split at h
  · rename_i q; exact q.2
  · omega
set_option maxHeartbeats 1000000 in
theorem ring_right (a : Option Addr) (cap : Nat) (ps : List (Int × Int)) (w : World) (hm : ps.length ≤ 1099511627776) (hc : ps.length ≤ cap) (h : Pts w a ps) : Calls Tryz.prog 253 #[.slice a ps.length cap] w fun e w' => e = .returned (.bool (ringOk ps)) ∧ Below w.heap.size w w' := by
  have Hh := hid h
  clear h
  by_cases h3 : (3 : Int) ≤ (ps.length : Int)
  · by_cases h6 : (ps.length : Int) ≤ 60
    · have har := fun w' (hw : Pts w' a ps) => impl_Area2 a cap ps w' hm hc hw
      by_cases hA : 0 < area2 ps
      · have hv : ringOk ps = apartTo (ringSides ps) (ringSides ps).length := by
          rw [apart_spec ps (by omega)]
          unfold ringOk
          rw [decide_eq_true (by omega), decide_eq_true (by omega), decide_eq_true hA]; rfl
        have ha := area_allok hA
        have hsin : ∀ k, k < (ringSides ps).length → SdIn ((ringSides ps).getD k (0, 0, 0, 0)) := by
          intro k hk
          rw [ringSides_len] at hk
          rw [ringSides_at ps k hk]
          obtain ⟨i1, i2⟩ := allok_in ha k hk
          obtain ⟨i3, i4⟩ := nxt_in ha k hk
          exact ⟨i1, i2, i3, i4⟩
        have hka := fun b cap' w' (hb : b < w'.heap.size) (hcc : (ringSides ps).length ≤ cap') (hq : SdAt w' b 0 (ringSides ps)) => keep_apart b 0 cap' (ringSides ps) w' (by rw [ringSides_len]; exact hm) hcc hb hq hsin
        have hsa := fun w' (hw : Pts w' a ps) => sides_around a cap ps w' hm hc hw
        rw [ringSides_len] at hka
        rw [hv, ringSides_len]
        generalize apartTo (ringSides ps) ps.length = v at *
        generalize area2 ps = A at *
        have Hka := hid hka
        have Hsa := hid hsa
        have Har := hid har
        clear hka hsa har hv ha hsin
        go_enter Tryz.func253, Tryz.ntmps253
        go_wp2_with fail
        refine (Har.out _ Hh.out).mono ?_
        rintro e w1 ⟨rfl, hb1⟩
        go_wp2_with fail
        refine (Hsa.out _ (Hh.out.below hb1)).mono ?_
        rintro e w2 ⟨b2, rfl, hg2, hl2, hq2, hb2⟩
        have Hq2 := hid hq2
        clear hq2
        go_wp2_with fail
        refine (Hka.out _ _ _ hl2 (Nat.le_refl _) Hq2.out).mono ?_
        rintro e w3 ⟨rfl, hb3⟩
        go_wp2_with fail
        go_ret
        exact ⟨rfl, by (repeat (first | with_reducible exact Below.refl _ _ | with_reducible assumption | (with_reducible refine btrans ?_ (by with_reducible assumption)) | with_reducible refine bdrew ?_ | with_reducible refine balloc ?_ _))⟩
      · have hv : ringOk ps = false := by unfold ringOk; rw [decide_eq_false hA, Bool.and_false]; rfl
        rw [hv]
        generalize area2 ps = A at *
        have Har := hid har
        clear har hv
        go_enter Tryz.func253, Tryz.ntmps253
        go_wp2_with fail
        refine (Har.out _ Hh.out).mono ?_
        rintro e w1 ⟨rfl, hb1⟩
        go_wp2_with fail
        go_ret
        exact ⟨rfl, hb1⟩
    · have hv : ringOk ps = false := by unfold ringOk; rw [decide_eq_false (show ¬ ps.length ≤ 60 by omega), Bool.and_false]; rfl
      rw [hv]
      go_enter Tryz.func253, Tryz.ntmps253
      go_wp2_with fail
      go_ret
      exact ⟨rfl, Below.refl _ _⟩
  · have hv : ringOk ps = false := by unfold ringOk; rw [decide_eq_false (show ¬ 3 ≤ ps.length by omega)]; rfl
    rw [hv]
    go_enter Tryz.func253, Tryz.ntmps253
    go_wp2_with fail
    go_ret
    exact ⟨rfl, Below.refl _ _⟩
set_option maxHeartbeats 400000 in
theorem shape_dot (a : Option Addr) (cap : Nat) (ps : List (Int × Int)) (w : World) (hm : ps.length ≤ 1099511627776) (hc : ps.length ≤ cap) (h : Pts w a ps) : Calls Tryz.prog 68 #[shv 0 a ps.length cap] w fun e w' => e = .returned (.bool (decide (ps.length = 1) && allok ps)) ∧ Below w.heap.size w w' := by
  have hr := fun w' (hw : Pts w' a ps) => dot_right a cap ps w' hm hw
  generalize (decide (ps.length = 1) && allok ps) = v at *
  have Hr := hid hr
  have Hh := hid h
  clear hr h
  go_enter Tryz.func68, Tryz.ntmps68
  go_wp2_with fail
  refine (fig_dot _ _ _ _).mono ?_
  rintro e w1 ⟨rfl, hb1⟩
  go_wp2_with fail
  refine (Hr.out _ (Hh.out.below ?_)).mono ?_
  · (repeat (first | with_reducible exact Below.refl _ _ | with_reducible assumption | (with_reducible refine btrans ?_ (by with_reducible assumption)) | with_reducible refine bdrew ?_ | with_reducible refine balloc ?_ _))
  rintro e w2 ⟨rfl, hb2⟩
  go_wp2_with fail
  go_ret
  exact ⟨rfl, by (repeat (first | with_reducible exact Below.refl _ _ | with_reducible assumption | (with_reducible refine btrans ?_ (by with_reducible assumption)) | with_reducible refine bdrew ?_ | with_reducible refine balloc ?_ _))⟩
set_option maxHeartbeats 400000 in
theorem shape_path (a : Option Addr) (cap : Nat) (ps : List (Int × Int)) (w : World) (hm : ps.length ≤ 1099511627776) (hc : ps.length ≤ cap) (h : Pts w a ps) : Calls Tryz.prog 68 #[shv 1 a ps.length cap] w fun e w' => e = .returned (.bool (lineb ps && allok ps)) ∧ Below w.heap.size w w' := by
  have hr := fun w' (hw : Pts w' a ps) => path_right a cap ps w' hm hc hw
  generalize (lineb ps && allok ps) = v at *
  have Hr := hid hr
  have Hh := hid h
  clear hr h
  go_enter Tryz.func68, Tryz.ntmps68
  go_wp2_with fail
  refine (fig_path _ _ _ _).mono ?_
  rintro e w1 ⟨rfl, hb1⟩
  go_wp2_with fail
  refine (Hr.out _ (Hh.out.below ?_)).mono ?_
  · (repeat (first | with_reducible exact Below.refl _ _ | with_reducible assumption | (with_reducible refine btrans ?_ (by with_reducible assumption)) | with_reducible refine bdrew ?_ | with_reducible refine balloc ?_ _))
  rintro e w2 ⟨rfl, hb2⟩
  go_wp2_with fail
  go_ret
  exact ⟨rfl, by (repeat (first | with_reducible exact Below.refl _ _ | with_reducible assumption | (with_reducible refine btrans ?_ (by with_reducible assumption)) | with_reducible refine bdrew ?_ | with_reducible refine balloc ?_ _))⟩
set_option maxHeartbeats 400000 in
theorem shape_block (a : Option Addr) (cap : Nat) (ps : List (Int × Int)) (w : World) (hm : ps.length ≤ 1099511627776) (hc : ps.length ≤ cap) (h : Pts w a ps) : Calls Tryz.prog 68 #[shv 2 a ps.length cap] w fun e w' => e = .returned (.bool (rectb ps && allok ps)) ∧ Below w.heap.size w w' := by
  have hr := fun w' (hw : Pts w' a ps) => block_right a cap ps w' hm hc hw
  generalize (rectb ps && allok ps) = v at *
  have Hr := hid hr
  have Hh := hid h
  clear hr h
  go_enter Tryz.func68, Tryz.ntmps68
  go_wp2_with fail
  refine (fig_block _ _ _ _).mono ?_
  rintro e w1 ⟨rfl, hb1⟩
  go_wp2_with fail
  refine (Hr.out _ (Hh.out.below ?_)).mono ?_
  · (repeat (first | with_reducible exact Below.refl _ _ | with_reducible assumption | (with_reducible refine btrans ?_ (by with_reducible assumption)) | with_reducible refine bdrew ?_ | with_reducible refine balloc ?_ _))
  rintro e w2 ⟨rfl, hb2⟩
  go_wp2_with fail
  go_ret
  exact ⟨rfl, by (repeat (first | with_reducible exact Below.refl _ _ | with_reducible assumption | (with_reducible refine btrans ?_ (by with_reducible assumption)) | with_reducible refine bdrew ?_ | with_reducible refine balloc ?_ _))⟩
set_option maxHeartbeats 400000 in
theorem shape_ring (a : Option Addr) (cap : Nat) (ps : List (Int × Int)) (w : World) (hm : ps.length ≤ 1099511627776) (hc : ps.length ≤ cap) (h : Pts w a ps) : Calls Tryz.prog 68 #[shv 3 a ps.length cap] w fun e w' => e = .returned (.bool (ringOk ps)) ∧ Below w.heap.size w w' := by
  have hr := fun w' (hw : Pts w' a ps) => ring_right a cap ps w' hm hc hw
  generalize (ringOk ps) = v at *
  have Hr := hid hr
  have Hh := hid h
  clear hr h
  go_enter Tryz.func68, Tryz.ntmps68
  go_wp2_with fail
  refine (fig_ring _ _ _ _).mono ?_
  rintro e w1 ⟨rfl, hb1⟩
  go_wp2_with fail
  refine (Hr.out _ (Hh.out.below ?_)).mono ?_
  · (repeat (first | with_reducible exact Below.refl _ _ | with_reducible assumption | (with_reducible refine btrans ?_ (by with_reducible assumption)) | with_reducible refine bdrew ?_ | with_reducible refine balloc ?_ _))
  rintro e w2 ⟨rfl, hb2⟩
  go_wp2_with fail
  go_ret
  exact ⟨rfl, by (repeat (first | with_reducible exact Below.refl _ _ | with_reducible assumption | (with_reducible refine btrans ?_ (by with_reducible assumption)) | with_reducible refine bdrew ?_ | with_reducible refine balloc ?_ _))⟩
def shok (k : Int) (ps : List (Int × Int)) : Bool := if k = 0 then (decide (ps.length = 1) && allok ps) else if k = 1 then (lineb ps && allok ps) else if k = 2 then (rectb ps && allok ps) else if k = 3 then ringOk ps else false
theorem impl_ShapeOk (k : Int) (a : Option Addr) (cap : Nat) (ps : List (Int × Int)) (w : World) (hm : ps.length ≤ 1099511627776) (hc : ps.length ≤ cap) (h : Pts w a ps) : Calls Tryz.prog 68 #[shv k a ps.length cap] w fun e w' => e = .returned (.bool (shok k ps)) ∧ Below w.heap.size w w' := by
  by_cases h0 : k = 0
  · subst h0; exact shape_dot a cap ps w hm hc h
  by_cases h1 : k = 1
  · subst h1; exact shape_path a cap ps w hm hc h
  by_cases h2 : k = 2
  · subst h2; exact shape_block a cap ps w hm hc h
  by_cases h3 : k = 3
  · subst h3; exact shape_ring a cap ps w hm hc h
  have hv : shok k ps = false := by unfold shok; rw [if_neg h0, if_neg h1, if_neg h2, if_neg h3]
  rw [hv]
  have q0 : (k == 0) = false := by rw [beq_eq_false_iff_ne]; exact h0
  have q1 : (k == 1) = false := by rw [beq_eq_false_iff_ne]; exact h1
  have q2 : (k == 2) = false := by rw [beq_eq_false_iff_ne]; exact h2
  have q3 : (k == 3) = false := by rw [beq_eq_false_iff_ne]; exact h3
  clear hv h
  go_enter Tryz.func68, Tryz.ntmps68
  go_wp2_with fail
  refine (fig_blank _ _ _ _ _ q0 q1 q2 q3).mono ?_
  rintro e w1 ⟨rfl, hb1⟩
  go_wp2_with fail
  refine (blank_right _).mono ?_
  rintro e w2 ⟨rfl, hb2⟩
  go_wp2_with fail
  go_ret
  exact ⟨rfl, by (repeat (first | with_reducible exact Below.refl _ _ | with_reducible assumption | (with_reducible refine btrans ?_ (by with_reducible assumption)) | with_reducible refine bdrew ?_ | with_reducible refine balloc ?_ _))⟩
end Go.Proofs.YtenlhgnobfadgaaGreatDoor
namespace Go.Proofs.YtenlhgnobfadgaaGreatDoor
open Go.RowKit
set_option linter.unusedSimpArgs false
set_option linter.unusedVariables false
theorem shok_no {k : Int} {ps : List (Int × Int)} (h : allok ps = false) : shok k ps = false := by
  unfold shok
  rw [h, Bool.and_false, Bool.and_false, Bool.and_false]
  have hr : ringOk ps = false := by
    unfold ringOk
    rw [decide_eq_false (show ¬ 0 < area2 ps by intro q; rw [area_allok q] at h; cases h), Bool.and_false]; rfl
  rw [hr]
  split <;> (try rfl)
  split <;> (try rfl)
  split <;> (try rfl)
  split <;> rfl
set_option maxHeartbeats 1000000 in
theorem spec_ShapeOk (k : Int) (a : Option Addr) (cap : Nat) (ps : List (Int × Int)) (w : World) (hm : ps.length ≤ 1099511627776) (hc : ps.length ≤ cap) (h : Pts w a ps) : Calls Tryz.prog 56 #[shv k a ps.length cap] w fun e w' => e = .returned (.bool (shok k ps)) ∧ Below w.heap.size w w' := by
  have hall := fun w' (hw : Pts w' a ps) => spec_all a cap ps w' hm hc hw
  have Hh := hid h
  clear h
  cases ha : allok ps
  · rw [shok_no ha]
    rw [ha] at hall
    have Hall := hid hall
    clear hall ha
    go_enter Tryz.func56, Tryz.ntmps56
    go_wp2_with fail
    refine (Hall.out _ (Hh.out.below ?_)).mono ?_
    · (repeat (first | with_reducible exact Below.refl _ _ | with_reducible assumption | (with_reducible refine btrans ?_ (by with_reducible assumption)) | with_reducible refine bdrew ?_ | with_reducible refine balloc ?_ _))
    rintro e w1 ⟨rfl, hb1⟩
    have q0 : w1.cell? ⟨w.heap.size, 0, none⟩ = some (.int .i64 k) := by (repeat (first | with_reducible assumption | (refine newcell _ _ _ _ _ _ ?_ rfl; simp; done) | refine keepcell (by with_reducible assumption) ?_ | refine keepdrew ?_ | refine keepalloc ?_ _))
    have q1 : w1.cell? ⟨w.heap.size, 1, none⟩ = some (.slice a ps.length cap) := by (repeat (first | with_reducible assumption | (refine newcell _ _ _ _ _ _ ?_ rfl; simp; done) | refine keepcell (by with_reducible assumption) ?_ | refine keepdrew ?_ | refine keepalloc ?_ _))
    go_wp2_with fail
    go_ret
    exact ⟨rfl, by (repeat (first | with_reducible exact Below.refl _ _ | with_reducible assumption | (with_reducible refine btrans ?_ (by with_reducible assumption)) | with_reducible refine bdrew ?_ | with_reducible refine balloc ?_ _))⟩
  rw [ha] at hall
  have Hall := hid hall
  have Ha := hid ha
  clear hall ha
  by_cases h0 : k = 0
  · subst h0
    have hv : shok 0 ps = ((ps.length : Int) == 1) := by
      unfold shok; rw [if_pos rfl, Ha.out, Bool.and_true, Bool.eq_iff_iff, decide_eq_true_eq, beq_iff_eq]; omega
    rw [hv]
    go_enter Tryz.func56, Tryz.ntmps56
    go_wp2_with fail
    refine (Hall.out _ (Hh.out.below ?_)).mono ?_
    · (repeat (first | with_reducible exact Below.refl _ _ | with_reducible assumption | (with_reducible refine btrans ?_ (by with_reducible assumption)) | with_reducible refine bdrew ?_ | with_reducible refine balloc ?_ _))
    rintro e w1 ⟨rfl, hb1⟩
    have q0 : w1.cell? ⟨w.heap.size, 0, none⟩ = some (.int .i64 0) := by (repeat (first | with_reducible assumption | (refine newcell _ _ _ _ _ _ ?_ rfl; simp; done) | refine keepcell (by with_reducible assumption) ?_ | refine keepdrew ?_ | refine keepalloc ?_ _))
    have q1 : w1.cell? ⟨w.heap.size, 1, none⟩ = some (.slice a ps.length cap) := by (repeat (first | with_reducible assumption | (refine newcell _ _ _ _ _ _ ?_ rfl; simp; done) | refine keepcell (by with_reducible assumption) ?_ | refine keepdrew ?_ | refine keepalloc ?_ _))
    go_wp2_with fail
    go_ret
    exact ⟨rfl, by (repeat (first | with_reducible exact Below.refl _ _ | with_reducible assumption | (with_reducible refine btrans ?_ (by with_reducible assumption)) | with_reducible refine bdrew ?_ | with_reducible refine balloc ?_ _))⟩
  have q0 : (k == 0) = false := by rw [beq_eq_false_iff_ne]; exact h0
  by_cases h1 : k = 1
  · subst h1
    have hv : shok 1 ps = lineb ps := by unfold shok; rw [if_neg (by decide), if_pos rfl, Ha.out, Bool.and_true]
    rw [hv]
    have hl := fun w' (hw : Pts w' a ps) => spec_line a cap ps w' hm hc hw
    generalize lineb ps = v at *
    have Hl := hid hl
    clear hl hv
    go_enter Tryz.func56, Tryz.ntmps56
    go_wp2_with fail
    refine (Hall.out _ (Hh.out.below ?_)).mono ?_
    · (repeat (first | with_reducible exact Below.refl _ _ | with_reducible assumption | (with_reducible refine btrans ?_ (by with_reducible assumption)) | with_reducible refine bdrew ?_ | with_reducible refine balloc ?_ _))
    rintro e w1 ⟨rfl, hb1⟩
    have q0 : w1.cell? ⟨w.heap.size, 0, none⟩ = some (.int .i64 1) := by (repeat (first | with_reducible assumption | (refine newcell _ _ _ _ _ _ ?_ rfl; simp; done) | refine keepcell (by with_reducible assumption) ?_ | refine keepdrew ?_ | refine keepalloc ?_ _))
    have q1 : w1.cell? ⟨w.heap.size, 1, none⟩ = some (.slice a ps.length cap) := by (repeat (first | with_reducible assumption | (refine newcell _ _ _ _ _ _ ?_ rfl; simp; done) | refine keepcell (by with_reducible assumption) ?_ | refine keepdrew ?_ | refine keepalloc ?_ _))
    go_wp2_with fail
    refine (Hl.out _ (Hh.out.below ?_)).mono ?_
    · (repeat (first | with_reducible exact Below.refl _ _ | with_reducible assumption | (with_reducible refine btrans ?_ (by with_reducible assumption)) | with_reducible refine bdrew ?_ | with_reducible refine balloc ?_ _))
    rintro e w2 ⟨rfl, hb2⟩
    go_wp2_with fail
    go_ret
    exact ⟨rfl, by (repeat (first | with_reducible exact Below.refl _ _ | with_reducible assumption | (with_reducible refine btrans ?_ (by with_reducible assumption)) | with_reducible refine bdrew ?_ | with_reducible refine balloc ?_ _))⟩
  have q1 : (k == 1) = false := by rw [beq_eq_false_iff_ne]; exact h1
  by_cases h2 : k = 2
  · subst h2
    have hv : shok 2 ps = rectb ps := by unfold shok; rw [if_neg (by decide), if_neg (by decide), if_pos rfl, Ha.out, Bool.and_true]
    rw [hv]
    clear hv q0 q1 h0 h1
    by_cases hl : ps.length = 2
    · obtain ⟨x, y, u, v, rfl⟩ := len2 hl
      have hv : rectb [(x, y), (u, v)] = (decide (x ≤ u) && decide (y ≤ v)) := by simp [rectb]
      rw [hv]
      clear hv hl hm
      obtain ⟨b, off, rfl, hbs, hp⟩ : ∃ b off, a = some ⟨b, off, none⟩ ∧ b < w.heap.size ∧ PtsAt w b off [(x, y), (u, v)] := by
        rcases Hh.out with h | h
        · cases h
        · exact h
      obtain ⟨c0, c1⟩ := hp 0 (by simp)
      obtain ⟨d0, d1⟩ := hp 1 (by simp)
      simp only [Nat.zero_mul, Nat.add_zero, List.getD_cons_zero, List.getD_cons_succ, Nat.one_mul] at c0 c1 d0 d1
      have Hp := hid hp
      clear hp
      simp only [List.length_cons, List.length_nil, Nat.zero_add, Nat.reduceAdd] at *
      cases hx : decide (x ≤ u)
      · go_enter Tryz.func56, Tryz.ntmps56
        go_wp2_with fail
        refine (Hall.out _ (Hh.out.below ?_)).mono ?_
        · (repeat (first | with_reducible exact Below.refl _ _ | with_reducible assumption | (with_reducible refine btrans ?_ (by with_reducible assumption)) | with_reducible refine bdrew ?_ | with_reducible refine balloc ?_ _))
        rintro e w1 ⟨rfl, hb1⟩
        have q0 : w1.cell? ⟨w.heap.size, 0, none⟩ = some (.int .i64 2) := by (repeat (first | with_reducible assumption | (refine newcell _ _ _ _ _ _ ?_ rfl; simp; done) | refine keepcell (by with_reducible assumption) ?_ | refine keepdrew ?_ | refine keepalloc ?_ _))
        have q1 : w1.cell? ⟨w.heap.size, 1, none⟩ = some (.slice (some ⟨b, off, none⟩) 2 cap) := by (repeat (first | with_reducible assumption | (refine newcell _ _ _ _ _ _ ?_ rfl; simp; done) | refine keepcell (by with_reducible assumption) ?_ | refine keepdrew ?_ | refine keepalloc ?_ _))
        have e0 : w1.cell? ⟨b, off, none⟩ = some (.int .i64 x) := by (repeat (first | with_reducible assumption | (refine newcell _ _ _ _ _ _ ?_ rfl; simp; done) | refine keepcell (by with_reducible assumption) ?_ | refine keepdrew ?_ | refine keepalloc ?_ _))
        have e1 : w1.cell? ⟨b, off + 1, none⟩ = some (.int .i64 y) := by (repeat (first | with_reducible assumption | (refine newcell _ _ _ _ _ _ ?_ rfl; simp; done) | refine keepcell (by with_reducible assumption) ?_ | refine keepdrew ?_ | refine keepalloc ?_ _))
        have e2 : w1.cell? ⟨b, off + 2, none⟩ = some (.int .i64 u) := by (repeat (first | with_reducible assumption | (refine newcell _ _ _ _ _ _ ?_ rfl; simp; done) | refine keepcell (by with_reducible assumption) ?_ | refine keepdrew ?_ | refine keepalloc ?_ _))
        have e3 : w1.cell? ⟨b, off + 2 + 1, none⟩ = some (.int .i64 v) := by (repeat (first | with_reducible assumption | (refine newcell _ _ _ _ _ _ ?_ rfl; simp; done) | refine keepcell (by with_reducible assumption) ?_ | refine keepdrew ?_ | refine keepalloc ?_ _))
        have hB1 : Below w.heap.size w w1 := by (repeat (first | with_reducible exact Below.refl _ _ | with_reducible assumption | (with_reducible refine btrans ?_ (by with_reducible assumption)) | with_reducible refine bdrew ?_ | with_reducible refine balloc ?_ _))
        clear c0 c1 d0 d1
        go_wp2_with fail
        go_quiet (fail)
        go_wp2_with fail
        go_ret
        exact ⟨by first | rfl | simp, by first | exact hB1 | exact beldrew hB1 _ | exact beldrew (beldrew hB1 _) _⟩
      · skip
        go_enter Tryz.func56, Tryz.ntmps56
        go_wp2_with fail
        refine (Hall.out _ (Hh.out.below ?_)).mono ?_
        · (repeat (first | with_reducible exact Below.refl _ _ | with_reducible assumption | (with_reducible refine btrans ?_ (by with_reducible assumption)) | with_reducible refine bdrew ?_ | with_reducible refine balloc ?_ _))
        rintro e w1 ⟨rfl, hb1⟩
        have q0 : w1.cell? ⟨w.heap.size, 0, none⟩ = some (.int .i64 2) := by (repeat (first | with_reducible assumption | (refine newcell _ _ _ _ _ _ ?_ rfl; simp; done) | refine keepcell (by with_reducible assumption) ?_ | refine keepdrew ?_ | refine keepalloc ?_ _))
        have q1 : w1.cell? ⟨w.heap.size, 1, none⟩ = some (.slice (some ⟨b, off, none⟩) 2 cap) := by (repeat (first | with_reducible assumption | (refine newcell _ _ _ _ _ _ ?_ rfl; simp; done) | refine keepcell (by with_reducible assumption) ?_ | refine keepdrew ?_ | refine keepalloc ?_ _))
        have e0 : w1.cell? ⟨b, off, none⟩ = some (.int .i64 x) := by (repeat (first | with_reducible assumption | (refine newcell _ _ _ _ _ _ ?_ rfl; simp; done) | refine keepcell (by with_reducible assumption) ?_ | refine keepdrew ?_ | refine keepalloc ?_ _))
        have e1 : w1.cell? ⟨b, off + 1, none⟩ = some (.int .i64 y) := by (repeat (first | with_reducible assumption | (refine newcell _ _ _ _ _ _ ?_ rfl; simp; done) | refine keepcell (by with_reducible assumption) ?_ | refine keepdrew ?_ | refine keepalloc ?_ _))
        have e2 : w1.cell? ⟨b, off + 2, none⟩ = some (.int .i64 u) := by (repeat (first | with_reducible assumption | (refine newcell _ _ _ _ _ _ ?_ rfl; simp; done) | refine keepcell (by with_reducible assumption) ?_ | refine keepdrew ?_ | refine keepalloc ?_ _))
        have e3 : w1.cell? ⟨b, off + 2 + 1, none⟩ = some (.int .i64 v) := by (repeat (first | with_reducible assumption | (refine newcell _ _ _ _ _ _ ?_ rfl; simp; done) | refine keepcell (by with_reducible assumption) ?_ | refine keepdrew ?_ | refine keepalloc ?_ _))
        have hB1 : Below w.heap.size w w1 := by (repeat (first | with_reducible exact Below.refl _ _ | with_reducible assumption | (with_reducible refine btrans ?_ (by with_reducible assumption)) | with_reducible refine bdrew ?_ | with_reducible refine balloc ?_ _))
        clear c0 c1 d0 d1
        go_wp2_with fail
        go_quiet (fail)
        go_wp2_with fail
        go_ret
        exact ⟨by first | rfl | simp, by first | exact hB1 | exact beldrew hB1 _ | exact beldrew (beldrew hB1 _) _⟩
    · have hv : rectb ps = false := by unfold rectb; rw [decide_eq_false hl]; rfl
      rw [hv]
      have hne : ((ps.length : Int) == 2) = false := by rw [beq_eq_false_iff_ne]; omega
      clear hv hl
      go_enter Tryz.func56, Tryz.ntmps56
      go_wp2_with fail
      refine (Hall.out _ (Hh.out.below ?_)).mono ?_
      · (repeat (first | with_reducible exact Below.refl _ _ | with_reducible assumption | (with_reducible refine btrans ?_ (by with_reducible assumption)) | with_reducible refine bdrew ?_ | with_reducible refine balloc ?_ _))
      rintro e w1 ⟨rfl, hb1⟩
      have q0 : w1.cell? ⟨w.heap.size, 0, none⟩ = some (.int .i64 2) := by (repeat (first | with_reducible assumption | (refine newcell _ _ _ _ _ _ ?_ rfl; simp; done) | refine keepcell (by with_reducible assumption) ?_ | refine keepdrew ?_ | refine keepalloc ?_ _))
      have q1 : w1.cell? ⟨w.heap.size, 1, none⟩ = some (.slice a ps.length cap) := by (repeat (first | with_reducible assumption | (refine newcell _ _ _ _ _ _ ?_ rfl; simp; done) | refine keepcell (by with_reducible assumption) ?_ | refine keepdrew ?_ | refine keepalloc ?_ _))
      have hB1 : Below w.heap.size w w1 := by (repeat (first | with_reducible exact Below.refl _ _ | with_reducible assumption | (with_reducible refine btrans ?_ (by with_reducible assumption)) | with_reducible refine bdrew ?_ | with_reducible refine balloc ?_ _))
      go_wp2_with fail
      go_quiet (fail)
      go_wp2_with fail
      go_ret
      exact ⟨by first | rfl | simp, by first | exact hB1 | exact beldrew hB1 _ | exact beldrew (beldrew hB1 _) _⟩
  have q2 : (k == 2) = false := by rw [beq_eq_false_iff_ne]; exact h2
  by_cases h3 : k = 3
  · subst h3
    have hv : shok 3 ps = ringOk ps := by unfold shok; rw [if_neg (by decide), if_neg (by decide), if_neg (by decide), if_pos rfl]
    rw [hv]
    have hl := fun w' (hw : Pts w' a ps) => spec_ring a cap ps w' hm hc Ha.out hw
    generalize ringOk ps = v at *
    have Hl := hid hl
    clear hl hv
    go_enter Tryz.func56, Tryz.ntmps56
    go_wp2_with fail
    refine (Hall.out _ (Hh.out.below ?_)).mono ?_
    · (repeat (first | with_reducible exact Below.refl _ _ | with_reducible assumption | (with_reducible refine btrans ?_ (by with_reducible assumption)) | with_reducible refine bdrew ?_ | with_reducible refine balloc ?_ _))
    rintro e w1 ⟨rfl, hb1⟩
    have qq0 : w1.cell? ⟨w.heap.size, 0, none⟩ = some (.int .i64 3) := by (repeat (first | with_reducible assumption | (refine newcell _ _ _ _ _ _ ?_ rfl; simp; done) | refine keepcell (by with_reducible assumption) ?_ | refine keepdrew ?_ | refine keepalloc ?_ _))
    have qq1 : w1.cell? ⟨w.heap.size, 1, none⟩ = some (.slice a ps.length cap) := by (repeat (first | with_reducible assumption | (refine newcell _ _ _ _ _ _ ?_ rfl; simp; done) | refine keepcell (by with_reducible assumption) ?_ | refine keepdrew ?_ | refine keepalloc ?_ _))
    go_wp2_with fail
    refine (Hl.out _ (Hh.out.below ?_)).mono ?_
    · (repeat (first | with_reducible exact Below.refl _ _ | with_reducible assumption | (with_reducible refine btrans ?_ (by with_reducible assumption)) | with_reducible refine bdrew ?_ | with_reducible refine balloc ?_ _))
    rintro e w2 ⟨rfl, hb2⟩
    go_wp2_with fail
    go_ret
    exact ⟨rfl, by (repeat (first | with_reducible exact Below.refl _ _ | with_reducible assumption | (with_reducible refine btrans ?_ (by with_reducible assumption)) | with_reducible refine bdrew ?_ | with_reducible refine balloc ?_ _))⟩
  have q3 : (k == 3) = false := by rw [beq_eq_false_iff_ne]; exact h3
  have hv : shok k ps = false := by unfold shok; rw [if_neg h0, if_neg h1, if_neg h2, if_neg h3]
  rw [hv]
  clear hv
  go_enter Tryz.func56, Tryz.ntmps56
  go_wp2_with fail
  refine (Hall.out _ (Hh.out.below ?_)).mono ?_
  · (repeat (first | with_reducible exact Below.refl _ _ | with_reducible assumption | (with_reducible refine btrans ?_ (by with_reducible assumption)) | with_reducible refine bdrew ?_ | with_reducible refine balloc ?_ _))
  rintro e w1 ⟨rfl, hb1⟩
  have qq0 : w1.cell? ⟨w.heap.size, 0, none⟩ = some (.int .i64 k) := by (repeat (first | with_reducible assumption | (refine newcell _ _ _ _ _ _ ?_ rfl; simp; done) | refine keepcell (by with_reducible assumption) ?_ | refine keepdrew ?_ | refine keepalloc ?_ _))
  have qq1 : w1.cell? ⟨w.heap.size, 1, none⟩ = some (.slice a ps.length cap) := by (repeat (first | with_reducible assumption | (refine newcell _ _ _ _ _ _ ?_ rfl; simp; done) | refine keepcell (by with_reducible assumption) ?_ | refine keepdrew ?_ | refine keepalloc ?_ _))
  go_wp2_with fail
  go_ret
  exact ⟨rfl, by (repeat (first | with_reducible exact Below.refl _ _ | with_reducible assumption | (with_reducible refine btrans ?_ (by with_reducible assumption)) | with_reducible refine bdrew ?_ | with_reducible refine balloc ?_ _))⟩
end Go.Proofs.YtenlhgnobfadgaaGreatDoor
