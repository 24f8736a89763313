/- Texts of stores, joined: Area, AreaM, Rows3, DrawS. -/
import Derived.Test.YtenlhgnobfadgaaGreatDoorJ2
set_option maxRecDepth 100000
set_option maxHeartbeats 1000000
set_option linter.unusedSimpArgs false
set_option linter.unusedVariables false
namespace Go.Proofs.YtenlhgnobfadgaaGreatDoor
open Go.RowKit
def nxt (ps : List (Int × Int)) (k : Nat) : Int × Int := ps.getD ((k + 1) % ps.length) (0, 0)
def areaTo (ps : List (Int × Int)) : Nat → Int
 | 0 => 0
 | k + 1 => areaTo ps k + ((ps.getD k (0, 0)).1 * (nxt ps k).2 - (nxt ps k).1 * (ps.getD k (0, 0)).2)
def area2 (ps : List (Int × Int)) : Int := if ps.length ≤ 1000 ∧ allok ps = true then areaTo ps ps.length else 0
theorem allok_in {ps : List (Int × Int)} (h : allok ps = true) (k : Nat) (hk : k < ps.length) : In (ps.getD k (0, 0)).1 ∧ In (ps.getD k (0, 0)).2 := by
 rw [allok, List.all_eq_true] at h
 refine in_of_pok (h _ ?_)
 rw [List.getD_eq_getElem?_getD, List.getElem?_eq_getElem hk]
 exact List.getElem_mem hk
theorem nxt_in {ps : List (Int × Int)} (h : allok ps = true) (k : Nat) (hk : k < ps.length) : In (nxt ps k).1 ∧ In (nxt ps k).2 :=
 allok_in h _ (Nat.mod_lt _ (by omega))
theorem side_bd {x y u v : Int} (h1 : In x) (h2 : In y) (h3 : In u) (h4 : In v) : (-3600000000 ≤ x * v ∧ x * v ≤ 3600000000) ∧ (-3600000000 ≤ u * y ∧ u * y ≤ 3600000000) := by
 unfold In at *
 exact ⟨mulb x v (by omega) (by omega) (by omega) (by omega), mulb u y (by omega) (by omega) (by omega) (by omega)⟩
theorem area_bd {ps : List (Int × Int)} (h : allok ps = true) : ∀ k, k ≤ ps.length → -(7200000000 * (k : Int)) ≤ areaTo ps k ∧ areaTo ps k ≤ 7200000000 * (k : Int)
 | 0, _ => by simp [areaTo]
 | k + 1, hk => by
  obtain ⟨a, b⟩ := area_bd h k (by omega)
  obtain ⟨c, d⟩ := allok_in h k (by omega)
  obtain ⟨e, f⟩ := nxt_in h k (by omega)
  have := side_bd c d e f
  rw [areaTo]
  omega
theorem impl_Area2 (a : Option Addr) (cap : Nat) (ps : List (Int × Int)) (w : World) (hm : ps.length ≤ 1099511627776) (hc : ps.length ≤ cap) (h : Pts w a ps) : Calls Tryz.prog 254 #[.slice a ps.length cap] w fun e w' => e = .returned (.int .i64 (area2 ps)) ∧ Below w.heap.size w w' := by
 by_cases hl : (1000 : Int) < (ps.length : Int)
 ·have hv : area2 ps = 0 := by unfold area2; rw [if_neg (by omega)]
  go_enter Tryz.func254, Tryz.ntmps254
  go_wp2_with fail
  go_ret
  exact ⟨by rw [hv]; rfl, Below.refl _ _⟩
 cases ha : allok ps
 ·have hv : area2 ps = 0 := by unfold area2; rw [if_neg (by simp [ha])]
  have hb := impl_all a cap ps w hm hc h
  rw [ha] at hb
  have Hb := hid hb
  clear hb
  go_enter Tryz.func254, Tryz.ntmps254
  go_wp2_with fail
  refine (Hb.out).mono ?_
  rintro e w1 ⟨rfl, hb1⟩
  go_wp2_with fail
  go_ret
  exact ⟨by rw [hv]; rfl, hb1⟩
 have hv : area2 ps = areaTo ps ps.length := by unfold area2; rw [if_pos ⟨by omega, ha⟩]
 have Hv := hid hv
 have Ha := hid ha
 have hall := impl_all a cap ps w hm hc h
 rw [ha] at hall
 have Hall := hid hall
 have Hh := hid h
 clear hv ha hall h
 go_enter Tryz.func254, Tryz.ntmps254
 go_wp2_with fail
 refine (Hall.out).mono ?_
 rintro e w1 ⟨rfl, hb1⟩
 go_wp2_with fail
 go_loopw [3, 16] (fun ts ti wr => ∃ k : Nat, ts = .int .i64 (areaTo ps k) ∧ ti = .int .i64 k ∧ k ≤ ps.length ∧ Below w.heap.size w wr) (fun _ ti _ => ps.length - (intOf ti).toNat)
 case atStart => exact ⟨0, rfl, rfl, Nat.zero_le _, hb1⟩
 case round =>
  obtain ⟨k, rfl, rfl, hk, hb⟩ := hrel
  have hB := area_bd Ha.out k hk
  by_cases hlt : k < ps.length
  ·have hp := Hh.out.below hb
   have hbh : ∀ w', Pts w' a ps → Calls Tryz.prog 258 #[.slice a ps.length cap, .int .i64 k] w' fun e w'' => e = .returned (.agg #[.int .i64 (nxt ps k).1, .int .i64 (nxt ps k).2]) ∧ Below w'.heap.size w' w'' := fun w' hw' => impl_behind a cap ps k w' hm hc hlt hw'
   obtain ⟨i1, i2⟩ := allok_in Ha.out k hlt
   obtain ⟨i3, i4⟩ := nxt_in Ha.out k hlt
   have hs : Hid (areaTo ps (k + 1) = areaTo ps k + ((ps.getD k (0, 0)).1 * (nxt ps k).2 - (nxt ps k).1 * (ps.getD k (0, 0)).2)) := hid rfl
   rcases hp with rfl | ⟨b, off, rfl, hbs, hq⟩
   ·simp at hlt
   obtain ⟨c0, c1⟩ := hq k hlt
   generalize (ps.getD k (0, 0)).1 = x at *
   generalize (ps.getD k (0, 0)).2 = y at *
   generalize (nxt ps k).1 = u at *
   generalize (nxt ps k).2 = v at *
   generalize areaTo ps k = s at *
   have Hq := hid hq
   have Hbh := hid hbh
   clear hq hbh
   have hsb := side_bd i1 i2 i3 i4
   obtain ⟨⟨s1, s2⟩, s3, s4⟩ := hsb
   obtain ⟨s5, s6⟩ := hB
   have hcr := fun w' => impl_cross x y u v (by unfold In at i1; omega) (by unfold In at i2; omega) (by unfold In at i3; omega) (by unfold In at i4; omega) w'
   have Hcr := hid hcr
   clear hcr i1 i2 i3 i4
   have hk0 : (0 : Int) ≤ (k : Int) := by omega
   have hk1 : (k : Int) < (ps.length : Int) := by omega
   have hw1 : IntKind.i64.wrap (s + (x * v - u * y)) = s + (x * v - u * y) := by rw [IntKind.wrap_i64]; omega
   go_wp2_with fail
   go_region_held3 (fun w' => w'.cell? ⟨wr.heap.size, 0, none⟩ = some (.int .i64 x) ∧ w'.cell? ⟨wr.heap.size, 1, none⟩ = some (.int .i64 y)) ((go_split_ands; (repeat' apply And.intro) <;> (repeat (first | with_reducible assumption | (refine newcell _ _ _ _ _ _ ?_ rfl; simp; done) | refine keepcell (by with_reducible assumption) ?_ | refine keepdrew ?_ | refine keepalloc ?_ _))))
    (first
     | (go_at_call 258; refine (Hbh.out _ ?_).mono ?_; exact Hh.out.below (by (repeat (first | exact Below.refl _ _ | (refine btrans ?_ (by with_reducible assumption)) | refine bdrew ?_ | refine balloc ?_ _))); rintro e w2 ⟨rfl, hb2⟩)
     | (go_at_call 257; refine (Hcr.out _).mono ?_; rintro e w3 ⟨rfl, hb3⟩))
   go_wp2_with fail
   go_roundw
   case rel => exact ⟨k + 1, by rw [hs.out], by go_num, by omega, by (repeat (first | exact Below.refl _ _ | (refine btrans ?_ (by with_reducible assumption)) | refine bdrew ?_ | refine balloc ?_ _))⟩
   case measure => simp [intOf]; omega
  ·have hk' : k = ps.length := by omega
   subst hk'
   go_wp2_with fail
   go_ret
   exact ⟨by rw [Hv.out]; rfl, hb⟩
theorem spec_Area2 (a : Option Addr) (cap : Nat) (ps : List (Int × Int)) (w : World) (hm : ps.length ≤ 1099511627776) (hc : ps.length ≤ cap) (h : Pts w a ps) : Calls Tryz.prog 126 #[.slice a ps.length cap] w fun e w' => e = .returned (.int .i64 (area2 ps)) ∧ Below w.heap.size w w' := by
 cases ha : allok ps
 ·have hv : area2 ps = 0 := by unfold area2; rw [if_neg (by simp [ha])]
  have hb := spec_all a cap ps w hm hc h
  rw [ha] at hb
  have Hb := hid hb
  clear hb
  go_enter Tryz.func126, Tryz.ntmps126
  go_wp2_with fail
  refine (Hb.out).mono ?_
  rintro e w1 ⟨rfl, hb1⟩
  go_wp2_with fail
  go_ret
  exact ⟨by rw [hv]; rfl, hb1⟩
 have hall := spec_all a cap ps w hm hc h
 rw [ha] at hall
 have Hall := hid hall
 clear hall
 by_cases hl : (1000 : Int) < (ps.length : Int)
 ·have hv : area2 ps = 0 := by unfold area2; rw [if_neg (by omega)]
  go_enter Tryz.func126, Tryz.ntmps126
  go_wp2_with fail
  refine (Hall.out).mono ?_
  rintro e w1 ⟨rfl, hb1⟩
  go_wp2_with fail
  go_ret
  exact ⟨by rw [hv]; rfl, hb1⟩
 have hv : area2 ps = areaTo ps ps.length := by unfold area2; rw [if_pos ⟨by omega, ha⟩]
 have Hv := hid hv
 have Ha := hid ha
 have Hh := hid h
 clear hv ha h
 go_enter Tryz.func126, Tryz.ntmps126
 go_wp2_with fail
 refine (Hall.out).mono ?_
 rintro e w1 ⟨rfl, hb1⟩
 go_wp2_with fail
 go_loopw [3, 4] (fun ts ti wr => ∃ k : Nat, ts = .int .i64 (areaTo ps k) ∧ ti = .int .i64 k ∧ k ≤ ps.length ∧ Below w.heap.size w wr) (fun _ ti _ => ps.length - (intOf ti).toNat)
 case atStart => exact ⟨0, rfl, rfl, Nat.zero_le _, hb1⟩
 case round =>
  obtain ⟨k, rfl, rfl, hk, hb⟩ := hrel
  have hB := area_bd Ha.out k hk
  by_cases hlt : k < ps.length
  ·have hp := Hh.out.below hb
   obtain ⟨i1, i2⟩ := allok_in Ha.out k hlt
   obtain ⟨i3, i4⟩ := nxt_in Ha.out k hlt
   have hs : Hid (areaTo ps (k + 1) = areaTo ps k + ((ps.getD k (0, 0)).1 * (nxt ps k).2 - (nxt ps k).1 * (ps.getD k (0, 0)).2)) := hid rfl
   rcases hp with rfl | ⟨b, off, rfl, hbs, hq⟩
   ·simp at hlt
   obtain ⟨c0, c1⟩ := hq k hlt
   have hj : (k + 1) % ps.length < ps.length := Nat.mod_lt _ (by omega)
   obtain ⟨d0, d1⟩ := hq _ hj
   have e1 : ((k : Int) + 1).tmod (ps.length : Int) = (((k + 1) % ps.length : Nat) : Int) := by
    rw [show ((k : Int) + 1) = ((k + 1 : Nat) : Int) by omega]; rfl
   have hz : ¬ ((ps.length : Int) = 0) := by omega
   have hz1 : ¬ ps = [] := by rintro rfl; simp at hlt
   have hz2 : ¬ ps.length = 0 := by omega
   have e3 : nxt ps k = ps.getD ((k + 1) % ps.length) (0, 0) := rfl
   rw [← e3] at d0 d1
   generalize (ps.getD k (0, 0)).1 = x at *
   generalize (ps.getD k (0, 0)).2 = y at *
   clear e3
   generalize (nxt ps k).1 = u at *
   generalize (nxt ps k).2 = v at *
   generalize areaTo ps k = s at *
   generalize (k + 1) % ps.length = j at *
   have Hq := hid hq
   clear hq
   have hsb := side_bd i1 i2 i3 i4
   obtain ⟨⟨s1, s2⟩, s3, s4⟩ := hsb
   obtain ⟨s5, s6⟩ := hB
   clear i1 i2 i3 i4
   have hk0 : (0 : Int) ≤ (k : Int) := by omega
   have hk1 : (k : Int) < (ps.length : Int) := by omega
   have hj0 : (0 : Int) ≤ (j : Int) := by omega
   have hj1 : (j : Int) < (ps.length : Int) := by omega
   have hadd : IntKind.i64.wrap ((k : Int) + 1) = (k : Int) + 1 := by rw [IntKind.wrap_i64]; omega
   go_wp2_with fail
   go_region_held3 (fun w' => w'.cell? ⟨b, off + k * 2, none⟩ = some (.int .i64 x) ∧ w'.cell? ⟨b, off + k * 2 + 1, none⟩ = some (.int .i64 y) ∧ w'.cell? ⟨b, off + j * 2, none⟩ = some (.int .i64 u) ∧ w'.cell? ⟨b, off + j * 2 + 1, none⟩ = some (.int .i64 v)) ((go_split_ands; (repeat' apply And.intro) <;> (repeat (first | with_reducible assumption | (refine newcell _ _ _ _ _ _ ?_ rfl; simp; done) | refine keepcell (by with_reducible assumption) ?_ | refine keepdrew ?_ | refine keepalloc ?_ _))))
    (first
     | (fail))
   all_goals
    go_wp2_with fail
    go_roundw
    case rel => exact ⟨k + 1, by rw [hs.out]; go_num, by go_num, by omega, by (repeat (first | exact Below.refl _ _ | (refine btrans ?_ (by with_reducible assumption)) | refine bdrew ?_ | refine balloc ?_ _))⟩
    case measure => simp [intOf]; omega
  ·have hk' : k = ps.length := by omega
   subst hk'
   go_wp2_with fail
   go_ret
   exact ⟨by rw [Hv.out]; rfl, hb⟩
def tk (f : Nat → Int × Int) (i : Nat) : List (Int × Int) := (List.range i).map f
theorem row_self {w' : World} {B : Nat} {v' : Value} {l : List (Int × Int)} {x y : Int} (h : w'.ownsRow B 91 2 v' (l.length + 1) (flat2 l ++ [.int .i64 x, .int .i64 y])) : PtRow w' B v' (l ++ [(x, y)]) := by
 unfold PtRow; rw [flat2_snoc]; simpa using h
theorem undrew {w w' : World} {r : Option Nat} (h : w.drew.grownBy w' r) : w.grownBy w' r := ⟨h.os, h.tape, h.output, h.size, h.block⟩
theorem PtRow.mono {w : World} {B B' : Nat} {v : Value} {ps : List (Int × Int)} (h : PtRow w B v ps) (hb : B' ≤ B) : PtRow w B' v ps := by
 refine ⟨h.1, ?_⟩
 rcases h.2 with h | ⟨g, cap, cur, e, h1, h2⟩
 ·exact .inl h
 ·exact .inr ⟨g, cap, cur, e, by omega, h2⟩
theorem ptsat_of {w : World} {b : Nat} {t : TypeId} (ps : List (Int × Int)) (h : w.heap[b]? = some (.cells (flat2 ps).toArray t (0, 0))) : PtsAt w b 0 ps := by
 intro k hk
 obtain ⟨f0, f1⟩ := flat2_at ps k hk
 constructor
 ·rw [cell_of_row w b _ _ t (0, 0) h]; simpa using f0
 ·rw [cell_of_row w b _ _ t (0, 0) h]; simpa using f1
theorem ptrow_lit {w : World} {B b : Nat} (ps : List (Int × Int)) (hl : ps.length ≤ 1000) (hB : B ≤ b) (h : w.heap[b]? = some (.cells (flat2 ps).toArray 91 (0, 0))) : PtRow w B (.slice (some ⟨b, 0, none⟩) ps.length ps.length) ps := by
 have hf : (flat2 ps).length = ps.length * 2 := by
  clear h hl
  induction ps with
  | nil => rfl
  | cons q r ih => simp [flat2] at ih ⊢; omega
 refine ⟨hf, .inr ⟨b, ps.length, _, rfl, hB, h, Nat.le_refl _, by unfold maxLen; omega, by simpa using hf, ?_⟩⟩
 rw [List.take_of_length_le (by simp; omega)]
theorem grown_up0 {w w0 w1 : World} {r s : Option Nat} (h : w.grownBy w0 s) (k : w0.grownBy w1 r) (hr : ∀ x, r = some x → w.heap.size ≤ x) : w.grownBy w1 s :=
 ⟨k.os.trans h.os, k.tape.trans h.tape, k.output.trans h.output, Nat.le_trans h.size k.size, fun i hi hne => (k.block i (Nat.lt_of_lt_of_le hi h.size) (fun e => by have := hr i e.symm; omega)).trans (h.block i hi hne)⟩
def Four (w W : World) (q : Nat) : Prop := ∀ k, k < 4 → ∃ b, ∃ ps : List (Int × Int), W.cell? ⟨q, k, none⟩ = some (.slice (some ⟨b, 0, none⟩) ps.length ps.length) ∧ w.heap.size ≤ b ∧ b < W.heap.size ∧ PtsAt W b 0 ps ∧ 1 ≤ ps.length ∧ ps.length ≤ 8
theorem four_new (w : World) : Four w (((((w.alloc (.cells #[.int .i64 0, .int .i64 0, .int .i64 4, .int .i64 0, .int .i64 0, .int .i64 4] 91)).alloc (.cells #[.int .i64 0, .int .i64 0, .int .i64 6, .int .i64 0, .int .i64 6, .int .i64 6, .int .i64 3, .int .i64 2, .int .i64 0, .int .i64 6] 91)).alloc (.cells #[.int .i64 (-3), .int .i64 0, .int .i64 0, .int .i64 (-3), .int .i64 3, .int .i64 0, .int .i64 0, .int .i64 3] 91)).alloc (.cells #[.int .i64 0, .int .i64 0, .int .i64 8, .int .i64 0, .int .i64 8, .int .i64 8, .int .i64 6, .int .i64 8, .int .i64 6, .int .i64 2, .int .i64 2, .int .i64 2, .int .i64 2, .int .i64 8, .int .i64 0, .int .i64 8] 91)).alloc (.cells #[.slice (some ⟨w.heap.size, 0, none⟩) 3 3, .slice (some ⟨w.heap.size + 1, 0, none⟩) 5 5, .slice (some ⟨w.heap.size + 1 + 1, 0, none⟩) 4 4, .slice (some ⟨w.heap.size + 1 + 1 + 1, 0, none⟩) 8 8] 46)) (w.heap.size + 1 + 1 + 1 + 1) := by
 have g0 : (((((w.alloc (.cells #[.int .i64 0, .int .i64 0, .int .i64 4, .int .i64 0, .int .i64 0, .int .i64 4] 91)).alloc (.cells #[.int .i64 0, .int .i64 0, .int .i64 6, .int .i64 0, .int .i64 6, .int .i64 6, .int .i64 3, .int .i64 2, .int .i64 0, .int .i64 6] 91)).alloc (.cells #[.int .i64 (-3), .int .i64 0, .int .i64 0, .int .i64 (-3), .int .i64 3, .int .i64 0, .int .i64 0, .int .i64 3] 91)).alloc (.cells #[.int .i64 0, .int .i64 0, .int .i64 8, .int .i64 0, .int .i64 8, .int .i64 8, .int .i64 6, .int .i64 8, .int .i64 6, .int .i64 2, .int .i64 2, .int .i64 2, .int .i64 2, .int .i64 8, .int .i64 0, .int .i64 8] 91)).alloc (.cells #[.slice (some ⟨w.heap.size, 0, none⟩) 3 3, .slice (some ⟨w.heap.size + 1, 0, none⟩) 5 5, .slice (some ⟨w.heap.size + 1 + 1, 0, none⟩) 4 4, .slice (some ⟨w.heap.size + 1 + 1 + 1, 0, none⟩) 8 8] 46)).heap[w.heap.size]? = some (.cells #[.int .i64 0, .int .i64 0, .int .i64 4, .int .i64 0, .int .i64 0, .int .i64 4] 91 (0, 0)) := by (with_reducible repeat (first | (refine new_alloc _ _ _ ?_; (first | rfl | (simp; done))) | refine old_alloc ?_))
 have g1 : (((((w.alloc (.cells #[.int .i64 0, .int .i64 0, .int .i64 4, .int .i64 0, .int .i64 0, .int .i64 4] 91)).alloc (.cells #[.int .i64 0, .int .i64 0, .int .i64 6, .int .i64 0, .int .i64 6, .int .i64 6, .int .i64 3, .int .i64 2, .int .i64 0, .int .i64 6] 91)).alloc (.cells #[.int .i64 (-3), .int .i64 0, .int .i64 0, .int .i64 (-3), .int .i64 3, .int .i64 0, .int .i64 0, .int .i64 3] 91)).alloc (.cells #[.int .i64 0, .int .i64 0, .int .i64 8, .int .i64 0, .int .i64 8, .int .i64 8, .int .i64 6, .int .i64 8, .int .i64 6, .int .i64 2, .int .i64 2, .int .i64 2, .int .i64 2, .int .i64 8, .int .i64 0, .int .i64 8] 91)).alloc (.cells #[.slice (some ⟨w.heap.size, 0, none⟩) 3 3, .slice (some ⟨w.heap.size + 1, 0, none⟩) 5 5, .slice (some ⟨w.heap.size + 1 + 1, 0, none⟩) 4 4, .slice (some ⟨w.heap.size + 1 + 1 + 1, 0, none⟩) 8 8] 46)).heap[w.heap.size + 1]? = some (.cells #[.int .i64 0, .int .i64 0, .int .i64 6, .int .i64 0, .int .i64 6, .int .i64 6, .int .i64 3, .int .i64 2, .int .i64 0, .int .i64 6] 91 (0, 0)) := by (with_reducible repeat (first | (refine new_alloc _ _ _ ?_; (first | rfl | (simp; done))) | refine old_alloc ?_))
 have g2 : (((((w.alloc (.cells #[.int .i64 0, .int .i64 0, .int .i64 4, .int .i64 0, .int .i64 0, .int .i64 4] 91)).alloc (.cells #[.int .i64 0, .int .i64 0, .int .i64 6, .int .i64 0, .int .i64 6, .int .i64 6, .int .i64 3, .int .i64 2, .int .i64 0, .int .i64 6] 91)).alloc (.cells #[.int .i64 (-3), .int .i64 0, .int .i64 0, .int .i64 (-3), .int .i64 3, .int .i64 0, .int .i64 0, .int .i64 3] 91)).alloc (.cells #[.int .i64 0, .int .i64 0, .int .i64 8, .int .i64 0, .int .i64 8, .int .i64 8, .int .i64 6, .int .i64 8, .int .i64 6, .int .i64 2, .int .i64 2, .int .i64 2, .int .i64 2, .int .i64 8, .int .i64 0, .int .i64 8] 91)).alloc (.cells #[.slice (some ⟨w.heap.size, 0, none⟩) 3 3, .slice (some ⟨w.heap.size + 1, 0, none⟩) 5 5, .slice (some ⟨w.heap.size + 1 + 1, 0, none⟩) 4 4, .slice (some ⟨w.heap.size + 1 + 1 + 1, 0, none⟩) 8 8] 46)).heap[w.heap.size + 1 + 1]? = some (.cells #[.int .i64 (-3), .int .i64 0, .int .i64 0, .int .i64 (-3), .int .i64 3, .int .i64 0, .int .i64 0, .int .i64 3] 91 (0, 0)) := by (with_reducible repeat (first | (refine new_alloc _ _ _ ?_; (first | rfl | (simp; done))) | refine old_alloc ?_))
 have g3 : (((((w.alloc (.cells #[.int .i64 0, .int .i64 0, .int .i64 4, .int .i64 0, .int .i64 0, .int .i64 4] 91)).alloc (.cells #[.int .i64 0, .int .i64 0, .int .i64 6, .int .i64 0, .int .i64 6, .int .i64 6, .int .i64 3, .int .i64 2, .int .i64 0, .int .i64 6] 91)).alloc (.cells #[.int .i64 (-3), .int .i64 0, .int .i64 0, .int .i64 (-3), .int .i64 3, .int .i64 0, .int .i64 0, .int .i64 3] 91)).alloc (.cells #[.int .i64 0, .int .i64 0, .int .i64 8, .int .i64 0, .int .i64 8, .int .i64 8, .int .i64 6, .int .i64 8, .int .i64 6, .int .i64 2, .int .i64 2, .int .i64 2, .int .i64 2, .int .i64 8, .int .i64 0, .int .i64 8] 91)).alloc (.cells #[.slice (some ⟨w.heap.size, 0, none⟩) 3 3, .slice (some ⟨w.heap.size + 1, 0, none⟩) 5 5, .slice (some ⟨w.heap.size + 1 + 1, 0, none⟩) 4 4, .slice (some ⟨w.heap.size + 1 + 1 + 1, 0, none⟩) 8 8] 46)).heap[w.heap.size + 1 + 1 + 1]? = some (.cells #[.int .i64 0, .int .i64 0, .int .i64 8, .int .i64 0, .int .i64 8, .int .i64 8, .int .i64 6, .int .i64 8, .int .i64 6, .int .i64 2, .int .i64 2, .int .i64 2, .int .i64 2, .int .i64 8, .int .i64 0, .int .i64 8] 91 (0, 0)) := by (with_reducible repeat (first | (refine new_alloc _ _ _ ?_; (first | rfl | (simp; done))) | refine old_alloc ?_))
 have g4 : (((((w.alloc (.cells #[.int .i64 0, .int .i64 0, .int .i64 4, .int .i64 0, .int .i64 0, .int .i64 4] 91)).alloc (.cells #[.int .i64 0, .int .i64 0, .int .i64 6, .int .i64 0, .int .i64 6, .int .i64 6, .int .i64 3, .int .i64 2, .int .i64 0, .int .i64 6] 91)).alloc (.cells #[.int .i64 (-3), .int .i64 0, .int .i64 0, .int .i64 (-3), .int .i64 3, .int .i64 0, .int .i64 0, .int .i64 3] 91)).alloc (.cells #[.int .i64 0, .int .i64 0, .int .i64 8, .int .i64 0, .int .i64 8, .int .i64 8, .int .i64 6, .int .i64 8, .int .i64 6, .int .i64 2, .int .i64 2, .int .i64 2, .int .i64 2, .int .i64 8, .int .i64 0, .int .i64 8] 91)).alloc (.cells #[.slice (some ⟨w.heap.size, 0, none⟩) 3 3, .slice (some ⟨w.heap.size + 1, 0, none⟩) 5 5, .slice (some ⟨w.heap.size + 1 + 1, 0, none⟩) 4 4, .slice (some ⟨w.heap.size + 1 + 1 + 1, 0, none⟩) 8 8] 46)).heap[w.heap.size + 1 + 1 + 1 + 1]? = some (.cells #[.slice (some ⟨w.heap.size, 0, none⟩) 3 3, .slice (some ⟨w.heap.size + 1, 0, none⟩) 5 5, .slice (some ⟨w.heap.size + 1 + 1, 0, none⟩) 4 4, .slice (some ⟨w.heap.size + 1 + 1 + 1, 0, none⟩) 8 8] 46 (0, 0)) := by (with_reducible repeat (first | (refine new_alloc _ _ _ ?_; (first | rfl | (simp; done))) | refine old_alloc ?_))
 have hs : (((((w.alloc (.cells #[.int .i64 0, .int .i64 0, .int .i64 4, .int .i64 0, .int .i64 0, .int .i64 4] 91)).alloc (.cells #[.int .i64 0, .int .i64 0, .int .i64 6, .int .i64 0, .int .i64 6, .int .i64 6, .int .i64 3, .int .i64 2, .int .i64 0, .int .i64 6] 91)).alloc (.cells #[.int .i64 (-3), .int .i64 0, .int .i64 0, .int .i64 (-3), .int .i64 3, .int .i64 0, .int .i64 0, .int .i64 3] 91)).alloc (.cells #[.int .i64 0, .int .i64 0, .int .i64 8, .int .i64 0, .int .i64 8, .int .i64 8, .int .i64 6, .int .i64 8, .int .i64 6, .int .i64 2, .int .i64 2, .int .i64 2, .int .i64 2, .int .i64 8, .int .i64 0, .int .i64 8] 91)).alloc (.cells #[.slice (some ⟨w.heap.size, 0, none⟩) 3 3, .slice (some ⟨w.heap.size + 1, 0, none⟩) 5 5, .slice (some ⟨w.heap.size + 1 + 1, 0, none⟩) 4 4, .slice (some ⟨w.heap.size + 1 + 1 + 1, 0, none⟩) 8 8] 46)).heap.size = w.heap.size + 5 := by simp
 generalize (((((w.alloc (.cells #[.int .i64 0, .int .i64 0, .int .i64 4, .int .i64 0, .int .i64 0, .int .i64 4] 91)).alloc (.cells #[.int .i64 0, .int .i64 0, .int .i64 6, .int .i64 0, .int .i64 6, .int .i64 6, .int .i64 3, .int .i64 2, .int .i64 0, .int .i64 6] 91)).alloc (.cells #[.int .i64 (-3), .int .i64 0, .int .i64 0, .int .i64 (-3), .int .i64 3, .int .i64 0, .int .i64 0, .int .i64 3] 91)).alloc (.cells #[.int .i64 0, .int .i64 0, .int .i64 8, .int .i64 0, .int .i64 8, .int .i64 8, .int .i64 6, .int .i64 8, .int .i64 6, .int .i64 2, .int .i64 2, .int .i64 2, .int .i64 2, .int .i64 8, .int .i64 0, .int .i64 8] 91)).alloc (.cells #[.slice (some ⟨w.heap.size, 0, none⟩) 3 3, .slice (some ⟨w.heap.size + 1, 0, none⟩) 5 5, .slice (some ⟨w.heap.size + 1 + 1, 0, none⟩) 4 4, .slice (some ⟨w.heap.size + 1 + 1 + 1, 0, none⟩) 8 8] 46)) = W at *
 intro k hk
 match k, hk with
 | 0, _ => exact ⟨w.heap.size, [(0, 0), (4, 0), (0, 4)], by rw [cell_of_row _ _ _ _ _ (0, 0) g4]; rfl, by omega, by omega, ptsat_of (t := 91) [(0, 0), (4, 0), (0, 4)] g0, by decide, by decide⟩
 | 1, _ => exact ⟨w.heap.size + 1, [(0, 0), (6, 0), (6, 6), (3, 2), (0, 6)], by rw [cell_of_row _ _ _ _ _ (0, 0) g4]; rfl, by omega, by omega, ptsat_of (t := 91) [(0, 0), (6, 0), (6, 6), (3, 2), (0, 6)] g1, by decide, by decide⟩
 | 2, _ => exact ⟨w.heap.size + 1 + 1, [(-3, 0), (0, -3), (3, 0), (0, 3)], by rw [cell_of_row _ _ _ _ _ (0, 0) g4]; rfl, by omega, by omega, ptsat_of (t := 91) [(-3, 0), (0, -3), (3, 0), (0, 3)] g2, by decide, by decide⟩
 | 3, _ => exact ⟨w.heap.size + 1 + 1 + 1, [(0, 0), (8, 0), (8, 8), (6, 8), (6, 2), (2, 2), (2, 8), (0, 8)], by rw [cell_of_row _ _ _ _ _ (0, 0) g4]; rfl, by omega, by omega, ptsat_of (t := 91) [(0, 0), (8, 0), (8, 8), (6, 8), (6, 2), (2, 2), (2, 8), (0, 8)] g3, by decide, by decide⟩
theorem Four.kept {w W W' : World} {p q : Nat} (h : Four w W q) (hg : W.grownBy W' (some p)) (hp : p < w.heap.size) (hq : w.heap.size ≤ q) : Four w W' q := by
 intro k hk
 obtain ⟨b, ps, hc, h1, h2, h3, h4, h5⟩ := h k hk
 have hs := hg.size
 refine ⟨b, ps, hg.cell hc (fun e => by simp at e; omega), h1, by omega, ?_, h4, h5⟩
 intro j hj
 obtain ⟨c0, c1⟩ := h3 j hj
 exact ⟨hg.cell c0 (fun e => by simp at e; omega), hg.cell c1 (fun e => by simp at e; omega)⟩
theorem ring7_r (w : World) (p : Nat) (a : Option Addr) (len cap : Nat) (h : Ready w p a len cap) : Calls Tryz.prog 188 #[.pointer (some ⟨p, 0, none⟩)] w fun e w' => ∃ ps : List (Int × Int), ∃ v, e = .returned v ∧ 1 ≤ ps.length ∧ ps.length ≤ 8 ∧ PtRow w' w.heap.size v ps ∧ Ready w' p a len cap ∧ w.grownBy w' (some p) := by
 have hp := h.lt
 obtain ⟨i0, hi0, hz0, hz1, hz2⟩ := info_parts Tryz.infoP2
 go_enter Tryz.func188, Tryz.ntmps188
 go_wp2_with fail
 have hF := four_new w
 have hr : Ready (((((w.alloc (.cells #[.int .i64 0, .int .i64 0, .int .i64 4, .int .i64 0, .int .i64 0, .int .i64 4] 91)).alloc (.cells #[.int .i64 0, .int .i64 0, .int .i64 6, .int .i64 0, .int .i64 6, .int .i64 6, .int .i64 3, .int .i64 2, .int .i64 0, .int .i64 6] 91)).alloc (.cells #[.int .i64 (-3), .int .i64 0, .int .i64 0, .int .i64 (-3), .int .i64 3, .int .i64 0, .int .i64 0, .int .i64 3] 91)).alloc (.cells #[.int .i64 0, .int .i64 0, .int .i64 8, .int .i64 0, .int .i64 8, .int .i64 8, .int .i64 6, .int .i64 8, .int .i64 6, .int .i64 2, .int .i64 2, .int .i64 2, .int .i64 2, .int .i64 8, .int .i64 0, .int .i64 8] 91)).alloc (.cells #[.slice (some ⟨w.heap.size, 0, none⟩) 3 3, .slice (some ⟨w.heap.size + 1, 0, none⟩) 5 5, .slice (some ⟨w.heap.size + 1 + 1, 0, none⟩) 4 4, .slice (some ⟨w.heap.size + 1 + 1 + 1, 0, none⟩) 8 8] 46)) p a len cap := ((((h.alloc _).alloc _).alloc _).alloc _).alloc _
 have hg : w.grownBy (((((w.alloc (.cells #[.int .i64 0, .int .i64 0, .int .i64 4, .int .i64 0, .int .i64 0, .int .i64 4] 91)).alloc (.cells #[.int .i64 0, .int .i64 0, .int .i64 6, .int .i64 0, .int .i64 6, .int .i64 6, .int .i64 3, .int .i64 2, .int .i64 0, .int .i64 6] 91)).alloc (.cells #[.int .i64 (-3), .int .i64 0, .int .i64 0, .int .i64 (-3), .int .i64 3, .int .i64 0, .int .i64 0, .int .i64 3] 91)).alloc (.cells #[.int .i64 0, .int .i64 0, .int .i64 8, .int .i64 0, .int .i64 8, .int .i64 8, .int .i64 6, .int .i64 8, .int .i64 6, .int .i64 2, .int .i64 2, .int .i64 2, .int .i64 2, .int .i64 8, .int .i64 0, .int .i64 8] 91)).alloc (.cells #[.slice (some ⟨w.heap.size, 0, none⟩) 3 3, .slice (some ⟨w.heap.size + 1, 0, none⟩) 5 5, .slice (some ⟨w.heap.size + 1 + 1, 0, none⟩) 4 4, .slice (some ⟨w.heap.size + 1 + 1 + 1, 0, none⟩) 8 8] 46)) (some p) := grown_trans (grown_trans (grown_trans (grown_trans (grown_alloc _ _ _) (grown_alloc _ _ _)) (grown_alloc _ _ _)) (grown_alloc _ _ _)) (grown_alloc _ _ _)
 have hq : w.heap.size + 1 + 1 + 1 + 1 < (((((w.alloc (.cells #[.int .i64 0, .int .i64 0, .int .i64 4, .int .i64 0, .int .i64 0, .int .i64 4] 91)).alloc (.cells #[.int .i64 0, .int .i64 0, .int .i64 6, .int .i64 0, .int .i64 6, .int .i64 6, .int .i64 3, .int .i64 2, .int .i64 0, .int .i64 6] 91)).alloc (.cells #[.int .i64 (-3), .int .i64 0, .int .i64 0, .int .i64 (-3), .int .i64 3, .int .i64 0, .int .i64 0, .int .i64 3] 91)).alloc (.cells #[.int .i64 0, .int .i64 0, .int .i64 8, .int .i64 0, .int .i64 8, .int .i64 8, .int .i64 6, .int .i64 8, .int .i64 6, .int .i64 2, .int .i64 2, .int .i64 2, .int .i64 2, .int .i64 8, .int .i64 0, .int .i64 8] 91)).alloc (.cells #[.slice (some ⟨w.heap.size, 0, none⟩) 3 3, .slice (some ⟨w.heap.size + 1, 0, none⟩) 5 5, .slice (some ⟨w.heap.size + 1 + 1, 0, none⟩) 4 4, .slice (some ⟨w.heap.size + 1 + 1 + 1, 0, none⟩) 8 8] 46)).heap.size := by simp
 have HF := hid hF
 clear hF
 generalize (((((w.alloc (.cells #[.int .i64 0, .int .i64 0, .int .i64 4, .int .i64 0, .int .i64 0, .int .i64 4] 91)).alloc (.cells #[.int .i64 0, .int .i64 0, .int .i64 6, .int .i64 0, .int .i64 6, .int .i64 6, .int .i64 3, .int .i64 2, .int .i64 0, .int .i64 6] 91)).alloc (.cells #[.int .i64 (-3), .int .i64 0, .int .i64 0, .int .i64 (-3), .int .i64 3, .int .i64 0, .int .i64 0, .int .i64 3] 91)).alloc (.cells #[.int .i64 0, .int .i64 0, .int .i64 8, .int .i64 0, .int .i64 8, .int .i64 8, .int .i64 6, .int .i64 8, .int .i64 6, .int .i64 2, .int .i64 2, .int .i64 2, .int .i64 2, .int .i64 8, .int .i64 0, .int .i64 8] 91)).alloc (.cells #[.slice (some ⟨w.heap.size, 0, none⟩) 3 3, .slice (some ⟨w.heap.size + 1, 0, none⟩) 5 5, .slice (some ⟨w.heap.size + 1 + 1, 0, none⟩) 4 4, .slice (some ⟨w.heap.size + 1 + 1 + 1, 0, none⟩) 8 8] 46)) = v0 at HF hr hg hq ⊢
 generalize hQ : w.heap.size + 1 + 1 + 1 + 1 = q at *
 have hq0 : w.heap.size ≤ q := by omega
 have hqp : q ≠ p := by omega
 clear hQ
 refine (below_r _ p a len cap 4 (by omega) (by omega) hr).mono ?_
 rintro e v1 ⟨x, rfl, x0, x1, hr1, hg1⟩
 replace HF := hid (HF.out.kept hg1 hp hq0)
 replace hg := grown_trans hg hg1
 clear hr hg1
 obtain ⟨k, rfl⟩ := Int.eq_ofNat_of_zero_le x0
 obtain ⟨b, ps, hc, hb1, hb2, hpt, hl1, hl2⟩ := HF.out k (by omega)
 clear HF
 have HP := hid hpt
 clear hpt
 have hkc : ((k : Int)).toNat = k := by omega
 go_wp2_with fail
 refine (below_r _ p a len cap 13 (by omega) (by omega) hr1).mono ?_
 rintro e v2 ⟨dx, rfl, dx0, dx1, hr2, hg2⟩
 replace hg := grown_trans hg hg2
 have hne : b ≠ p := by omega
 replace hc := hg2.cell hc (fun e => by simp at e; omega)
 have hpt2 : PtsAt v2 b 0 ps := fun j hj => ⟨hg2.cell (HP.out j hj).1 (fun e => by simp at e; omega), hg2.cell (HP.out j hj).2 (fun e => by simp at e; omega)⟩
 have hbs2 := hg2.size
 clear HP hr1 hg2
 have HP := hid hpt2
 clear hpt2
 go_wp2_with fail
 refine (below_r _ p a len cap 13 (by omega) (by omega) hr2).mono ?_
 rintro e v3 ⟨dy, rfl, dy0, dy1, hr3, hg3⟩
 replace hg := grown_trans hg hg3
 have hpt3 : PtsAt v3 b 0 ps := fun j hj => ⟨hg3.cell (HP.out j hj).1 (fun e => by simp at e; omega), hg3.cell (HP.out j hj).2 (fun e => by simp at e; omega)⟩
 have hbs3 := hg3.size
 clear HP hr2 hg3 hc
 have HP := hid hpt3
 clear hpt3
 have hb3 : b < v3.heap.size := by omega
 have hg3s := hg.size
 go_wp2_with fail
 go_loopw [7, 8] (fun v ti wr => ∃ i : Nat, ∃ done : List (Int × Int), ti = .int .i64 i ∧ i ≤ ps.length ∧ Hid (done.length = i) ∧ Hid (PtRow wr v3.heap.size v done) ∧ Hid (v3.grownBy wr none)) (fun _ ti _ => ps.length - (intOf ti).toNat)
 case atStart => exact ⟨0, [], rfl, by omega, rfl, ptrow_new (Nat.le_refl _), grown_alloc _ _ _⟩
 case round =>
  obtain ⟨i, done, rfl, hin, HL, HO, HG⟩ := hrel
  have hsz := HG.out.size
  have hdl : done.length ≤ 8 := by have := HL.out; omega
  by_cases hlt : i < ps.length
  ·have c1 : (i : Int) < (ps.length : Int) := by omega
   have c0 : (0 : Int) ≤ (i : Int) := by omega
   obtain ⟨d0, d1⟩ := HP.out i hlt
   replace d0 := HG.out.cell d0 (by simp)
   replace d1 := HG.out.cell d1 (by simp)
   simp only [Nat.zero_add] at d0 d1
   generalize (ps.getD i (0, 0)).1 = x at *
   generalize (ps.getD i (0, 0)).2 = y at *
   have hown := HO.out
   unfold PtRow at hown
   have hvb : some b ≠ u7.ownBlock := fun e => absurd (hown.lt b e.symm).1 (by omega)
   go_wp2_with fail
   go_region_held3 (fun w' => w'.cell? ⟨b, i * 2, none⟩ = some (.int .i64 x) ∧ w'.cell? ⟨b, i * 2 + 1, none⟩ = some (.int .i64 y)) ((go_split_ands; (repeat' apply And.intro) <;> (repeat (first | with_reducible assumption | with_reducible refine keepdrew ?_ | with_reducible refine keepalloc ?_ _ | (refine hgrow.cell ?_ hvb)))))
    ((refine step_append_lies _ (by rfl) _ _ _ (by rfl) v3.heap.size 91 i0 _ 2 16 Tryz.underlying46 hi0 hz0 hz1 hz2 rfl (by omega) _ done.length (flat2 done) (by rfl) ((hown.alloc _).drew) ⟨wr.heap.size, 0, none⟩ 1 1 [.int .i64 (IntKind.i64.wrap (x + (dx - 6))), .int .i64 (IntKind.i64.wrap (y + (dy - 6)))] (by rfl) (by rfl) (World.news_of_block (cs := #[.int .i64 (IntKind.i64.wrap (x + (dx - 6))), .int .i64 (IntKind.i64.wrap (y + (dy - 6)))]) (t := 91) (fr := (0, 0)) (heap_alloc_new wr _)) (by simp [Value.oneCell']) (by omega) (by unfold maxLen; omega) (by omega) (by simp; omega) (wr.heap.size + 1) (by simp) ?_; intro gg cp y1 hown1 hgrow hat hlt1))
   go_wp2_with fail
   go_roundw
   case rel =>
    refine ⟨i + 1, done ++ [(IntKind.i64.wrap (x + (dx - 6)), IntKind.i64.wrap (y + (dy - 6)))], by go_num, by omega, ?_, ?_, ?_⟩
    ·show _ = _; have := HL.out; simp; exact this
    ·exact row_self hown1
    ·exact grown_up0 (grown_trans HG.out (grown_alloc _ _ _)) (undrew hgrow) (fun y hy => (hown.lt y hy).1)
   case measure => simp [intOf]; omega
  ·have c1 : (ps.length : Int) ≤ (i : Int) := by omega
   go_wp2_with fail
   go_ret
   exact ⟨done, _, rfl, by have := HL.out; omega, hdl, HO.out.mono (by omega), hr3.kept HG.out (fun _ e => by cases e), grown_trans hg ⟨HG.out.os, HG.out.tape, HG.out.output, HG.out.size, fun i hi _ => HG.out.block i hi (by simp)⟩⟩
end Go.Proofs.YtenlhgnobfadgaaGreatDoor
