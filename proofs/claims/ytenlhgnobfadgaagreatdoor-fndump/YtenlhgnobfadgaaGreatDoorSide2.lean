import Derived.Test.YtenlhgnobfadgaaGreatDoorJ5
set_option maxRecDepth 20000
set_option maxHeartbeats 4000000
set_option linter.unusedSimpArgs false
set_option linter.unusedVariables false
namespace Go.Proofs.YtenlhgnobfadgaaGreatDoor
open Go.RowKit
def farq (n i : Nat) : Nat := if i = 0 then n - 1 else n
def innerTo (qs : List Sd) (i : Nat) : Nat → Bool
 | 0 => true
 | m + 1 => innerTo qs i m && !meetq (qs.getD i (0, 0, 0, 0)) (qs.getD (i + 2 + m) (0, 0, 0, 0))
def apartTo (qs : List Sd) : Nat → Bool
 | 0 => true
 | i + 1 => apartTo qs i && (!foldq (qs.getD i (0, 0, 0, 0)) (qs.getD ((i + 1) % qs.length) (0, 0, 0, 0)) && innerTo qs i (farq qs.length i - (i + 2)))
theorem inner_step {qs : List Sd} {i j : Nat} (h : i + 2 ≤ j) : innerTo qs i (j + 1 - (i + 2)) = (innerTo qs i (j - (i + 2)) && !meetq (qs.getD i (0, 0, 0, 0)) (qs.getD j (0, 0, 0, 0))) := by
 rw [show j + 1 - (i + 2) = (j - (i + 2)) + 1 by omega, innerTo, show i + 2 + (j - (i + 2)) = j by omega]
theorem inner_at {qs : List Sd} {i m n : Nat} (h : innerTo qs i n = true) (e : m = n) : innerTo qs i m = true := by rw [e]; exact h
theorem inner_mono {qs : List Sd} {i k : Nat} (h : innerTo qs i k = false) : ∀ m, k ≤ m → innerTo qs i m = false
  | 0, hm => by obtain rfl : k = 0 := by omega
                exact h
  | m + 1, hm => by
    by_cases e : k = m + 1
    · subst e; exact h
    · rw [innerTo, inner_mono h m (by omega)]; rfl
theorem apart_mono {qs : List Sd} {k : Nat} (h : apartTo qs k = false) : ∀ m, k ≤ m → apartTo qs m = false
  | 0, hm => by obtain rfl : k = 0 := by omega
                exact h
  | m + 1, hm => by
    by_cases e : k = m + 1
    · subst e; exact h
    · rw [apartTo, apart_mono h m (by omega)]; rfl
theorem keep_apart (b off cap : Nat) (qs : List Sd) (w : World) (hm : qs.length ≤ 1099511627776) (hc : qs.length ≤ cap) (hbs0 : b < w.heap.size) (hq : SdAt w b off qs) (hsin : ∀ k, k < qs.length → SdIn (qs.getD k (0, 0, 0, 0))) : Calls Tryz.prog 255 #[.slice (some ⟨b, off, none⟩) qs.length cap] w fun e w' => e = .returned (.bool (apartTo qs qs.length)) ∧ Below w.heap.size w w' := by
 have hbs := hbs0
 have Hq := hid hq
 clear hq
 go_enter Tryz.func255, Tryz.ntmps255
 go_wp2_with fail
 go_loopw [9] (fun ti wr => ∃ k : Nat, ti = .int .i64 k ∧ k ≤ qs.length ∧ Below w.heap.size w wr ∧ Hid (apartTo qs k = true)) (fun ti _ => qs.length - (intOf ti).toNat)
 case atStart => exact ⟨0, rfl, Nat.zero_le _, Below.refl _ _, hid rfl⟩
 case round =>
  obtain ⟨k, rfl, hk, hb, H⟩ := hrel
  by_cases hlt : k < qs.length
  ·obtain ⟨c0, c1, c2, c3⟩ := Hq.out.below hbs hb k hlt
   have hj : (k + 1) % qs.length < qs.length := Nat.mod_lt _ (by omega)
   obtain ⟨d0, d1, d2, d3⟩ := Hq.out.below hbs hb _ hj
   obtain ⟨ia1, ia2, ia3, ia4⟩ := hsin k hlt
   obtain ⟨ib1, ib2, ib3, ib4⟩ := hsin _ hj
   have e1 : ((k : Int) + 1).tmod (qs.length : Int) = (((k + 1) % qs.length : Nat) : Int) := by
    rw [show ((k : Int) + 1) = ((k + 1 : Nat) : Int) by omega]; rfl
   have hz : ¬ ((qs.length : Int) = 0) := by omega
   have hz1 : ¬ qs = [] := by rintro rfl; simp at hlt
   have hz2 : ¬ qs.length = 0 := by omega
   have hap : apartTo qs (k + 1) = (apartTo qs k && (!foldq (qs.getD k (0, 0, 0, 0)) (qs.getD ((k + 1) % qs.length) (0, 0, 0, 0)) && innerTo qs k (farq qs.length k - (k + 2)))) := rfl
   have hfc := fun w' => side_folds (qs.getD k (0, 0, 0, 0)).1 (qs.getD k (0, 0, 0, 0)).2.1 (qs.getD k (0, 0, 0, 0)).2.2.1 (qs.getD k (0, 0, 0, 0)).2.2.2 (qs.getD ((k + 1) % qs.length) (0, 0, 0, 0)).1 (qs.getD ((k + 1) % qs.length) (0, 0, 0, 0)).2.1 (qs.getD ((k + 1) % qs.length) (0, 0, 0, 0)).2.2.1 (qs.getD ((k + 1) % qs.length) (0, 0, 0, 0)).2.2.2 ia1 ia2 ia3 ia4 ib1 ib2 ib3 ib4 w'
   have hfq : foldq ((qs.getD k (0, 0, 0, 0)).1, (qs.getD k (0, 0, 0, 0)).2.1, (qs.getD k (0, 0, 0, 0)).2.2.1, (qs.getD k (0, 0, 0, 0)).2.2.2) ((qs.getD ((k + 1) % qs.length) (0, 0, 0, 0)).1, (qs.getD ((k + 1) % qs.length) (0, 0, 0, 0)).2.1, (qs.getD ((k + 1) % qs.length) (0, 0, 0, 0)).2.2.1, (qs.getD ((k + 1) % qs.length) (0, 0, 0, 0)).2.2.2) = foldq (qs.getD k (0, 0, 0, 0)) (qs.getD ((k + 1) % qs.length) (0, 0, 0, 0)) := rfl
   rw [hfq] at hfc
   clear hfq
   generalize hfo : foldq (qs.getD k (0, 0, 0, 0)) (qs.getD ((k + 1) % qs.length) (0, 0, 0, 0)) = fo at *
   clear hfo
   have hsa : qs.getD k (0, 0, 0, 0) = ((qs.getD k (0, 0, 0, 0)).1, (qs.getD k (0, 0, 0, 0)).2.1, (qs.getD k (0, 0, 0, 0)).2.2.1, (qs.getD k (0, 0, 0, 0)).2.2.2) := rfl
   generalize hsb : qs.getD k (0, 0, 0, 0) = sa at *
   have Hsa' := hid hsb
   clear hsb hsa
   obtain ⟨afx, afy, atx, aty⟩ := sa
   have Hsa : Hid (qs.getD k (0, 0, 0, 0) = (afx, afy, atx, aty)) := Hsa'
   clear Hsa'
   dsimp only at *
   generalize (qs.getD ((k + 1) % qs.length) (0, 0, 0, 0)).1 = bfx at *
   generalize (qs.getD ((k + 1) % qs.length) (0, 0, 0, 0)).2.1 = bfy at *
   generalize (qs.getD ((k + 1) % qs.length) (0, 0, 0, 0)).2.2.1 = btx at *
   generalize (qs.getD ((k + 1) % qs.length) (0, 0, 0, 0)).2.2.2 = bty at *
   generalize (k + 1) % qs.length = j at *
   have Hfc := hid hfc
   have Hap := hid hap
   clear hfc hap ib1 ib2 ib3 ib4
   have hk0' : (0 : Int) ≤ (k : Int) := by omega
   have hk1 : (k : Int) < (qs.length : Int) := by omega
   have hj0 : (0 : Int) ≤ (j : Int) := by omega
   have hj1 : (j : Int) < (qs.length : Int) := by omega
   have hadd : IntKind.i64.wrap ((k : Int) + 1) = (k : Int) + 1 := by rw [IntKind.wrap_i64]; omega
   go_wp2_with fail
   go_region_held3 (fun w' => w'.cell? ⟨wr.heap.size, 0, none⟩ = some (.int .i64 afx) ∧ w'.cell? ⟨wr.heap.size, 1, none⟩ = some (.int .i64 afy) ∧ w'.cell? ⟨wr.heap.size, 2, none⟩ = some (.int .i64 atx) ∧ w'.cell? ⟨wr.heap.size, 3, none⟩ = some (.int .i64 aty) ∧ w'.cell? ⟨b, off + j * 4, none⟩ = some (.int .i64 bfx) ∧ w'.cell? ⟨b, off + j * 4 + 1, none⟩ = some (.int .i64 bfy) ∧ w'.cell? ⟨b, off + j * 4 + 2, none⟩ = some (.int .i64 btx) ∧ w'.cell? ⟨b, off + j * 4 + 3, none⟩ = some (.int .i64 bty)) ((go_split_ands; (repeat' apply And.intro) <;> (repeat (first | with_reducible assumption | (refine newcell _ _ _ _ _ _ ?_ rfl; simp; done) | refine keepcell (by with_reducible assumption) ?_ | refine keepdrew ?_ | refine keepalloc ?_ _))))
    (first
     | (go_at_call 259; refine (Hfc.out _).mono ?_; rintro e w2 ⟨rfl, hb2⟩))
   obtain ⟨r0, r1, r2, r3⟩ : w2.cell? ⟨wr.heap.size, 0, none⟩ = some (.int .i64 afx) ∧ w2.cell? ⟨wr.heap.size, 1, none⟩ = some (.int .i64 afy) ∧ w2.cell? ⟨wr.heap.size, 2, none⟩ = some (.int .i64 atx) ∧ w2.cell? ⟨wr.heap.size, 3, none⟩ = some (.int .i64 aty) := by (repeat' apply And.intro) <;> (repeat (first | with_reducible assumption | (refine newcell _ _ _ _ _ _ ?_ rfl; simp; done) | refine keepcell (by with_reducible assumption) ?_ | refine keepdrew ?_ | refine keepalloc ?_ _))
   have hB2 : Below w.heap.size w w2 := by (with_reducible repeat (first | exact Below.refl _ _ | assumption | (refine btrans ?_ (by assumption)) | refine bdrew ?_ | refine balloc ?_ _))
   clear c0 c1 c2 c3 d0 d1 d2 d3
   cases fo
   ·by_cases hk0 : k = 0
    ·have hk0b : ((k : Int) == 0) = true := by rw [beq_iff_eq]; omega
     have HK0 := hid hk0
     clear hk0
     generalize wr.heap.size = WB at *
     go_wp2_with fail
     go_loopw [6] (fun tj wv => ∃ j : Nat, tj = .int .i64 j ∧ k + 2 ≤ j ∧ (j = k + 2 ∨ j ≤ qs.length - 1) ∧ Below w.heap.size w wv ∧ wv.cell? ⟨WB, 0, none⟩ = some (.int .i64 afx) ∧ wv.cell? ⟨WB, 1, none⟩ = some (.int .i64 afy) ∧ wv.cell? ⟨WB, 2, none⟩ = some (.int .i64 atx) ∧ wv.cell? ⟨WB, 3, none⟩ = some (.int .i64 aty) ∧ Hid (innerTo qs k (j - (k + 2)) = true)) (fun tj _ => qs.length + 3 + k - (intOf tj).toNat)
     case atStart => exact ⟨k + 2, by go_num, by omega, .inl rfl, hB2, r0, r1, r2, r3, hid (by rw [Nat.sub_self]; rfl)⟩
     case round =>
      clear r0 r1 r2 r3 hb2 hB2
      obtain ⟨j, rfl, hj2, hm', hb', r0, r1, r2, r3, HI⟩ := hrel
      by_cases hj : j < qs.length - 1
      ·obtain ⟨d0, d1, d2, d3⟩ := Hq.out.below hbs hb' j (by omega)
       have hjn := hsin j (by omega)
       have hin := inner_step (qs := qs) hj2
       rw [HI.out, Bool.true_and, Hsa.out] at hin
       have hmt : meetq (afx, afy, atx, aty) (qs.getD j (0, 0, 0, 0)) = smeet afx afy atx aty (qs.getD j (0, 0, 0, 0)).1 (qs.getD j (0, 0, 0, 0)).2.1 (qs.getD j (0, 0, 0, 0)).2.2.1 (qs.getD j (0, 0, 0, 0)).2.2.2 := rfl
       have hmc := fun w' => side_meets afx afy atx aty (qs.getD j (0, 0, 0, 0)).1 (qs.getD j (0, 0, 0, 0)).2.1 (qs.getD j (0, 0, 0, 0)).2.2.1 (qs.getD j (0, 0, 0, 0)).2.2.2 ia1 ia2 ia3 ia4 hjn.1 hjn.2.1 hjn.2.2.1 hjn.2.2.2 w'
       rw [← hmt] at hmc
       clear hmt
       generalize meetq (afx, afy, atx, aty) (qs.getD j (0, 0, 0, 0)) = mt at *
       generalize (qs.getD j (0, 0, 0, 0)).1 = bfx at *
       generalize (qs.getD j (0, 0, 0, 0)).2.1 = bfy at *
       generalize (qs.getD j (0, 0, 0, 0)).2.2.1 = btx at *
       generalize (qs.getD j (0, 0, 0, 0)).2.2.2 = bty at *
       have Hin := hid hin
       have Hmc := hid hmc
       have Hb' := hid hb'
       have Hb := hid hb
       clear hin hmc hjn hb hb' hz hz1 hz2 e1 hadd
       have hj0 : (0 : Int) ≤ (j : Int) := by omega
       have hj1 : (j : Int) < (qs.length : Int) := by omega
       have hj3 : (j : Int) < (qs.length : Int) - 1 := by omega
       go_wp2_with fail
       go_region_held3 (fun w' => w'.cell? ⟨WB, 0, none⟩ = some (.int .i64 afx) ∧ w'.cell? ⟨WB, 1, none⟩ = some (.int .i64 afy) ∧ w'.cell? ⟨WB, 2, none⟩ = some (.int .i64 atx) ∧ w'.cell? ⟨WB, 3, none⟩ = some (.int .i64 aty) ∧ w'.cell? ⟨b, off + j * 4, none⟩ = some (.int .i64 bfx) ∧ w'.cell? ⟨b, off + j * 4 + 1, none⟩ = some (.int .i64 bfy) ∧ w'.cell? ⟨b, off + j * 4 + 2, none⟩ = some (.int .i64 btx) ∧ w'.cell? ⟨b, off + j * 4 + 3, none⟩ = some (.int .i64 bty)) ((go_split_ands; (repeat' apply And.intro) <;> (with_reducible repeat (first | assumption | refine keepset ?_ (by dsimp only; omega) | refine keepdrew ?_ | refine keepcell (by assumption) ?_ | refine keepalloc ?_ _))))
        (first
         | (go_at_call 260; refine (Hmc.out _).mono ?_; rintro e w3 ⟨rfl, hb3⟩))
       have hb' := Hb'.out
       cases mt
       ·go_wp2_with fail
        go_roundw
        case rel => exact ⟨j + 1, by go_num, by omega, .inr (by omega), by (with_reducible repeat (first | exact Below.refl _ _ | assumption | (refine btrans ?_ (by assumption)) | refine bdrew ?_ | refine balloc ?_ _)), keepcell hb3 (keepdrew r0), keepcell hb3 (keepdrew r1), keepcell hb3 (keepdrew r2), keepcell hb3 (keepdrew r3), hid (by rw [Hin.out]; rfl)⟩
        case measure => simp [intOf]; omega
       ·go_wp2_with fail
        go_ret
        exact ⟨by rw [apart_mono (show apartTo qs (k + 1) = false by rw [Hap.out, inner_mono (show innerTo qs k (j + 1 - (k + 2)) = false by rw [Hin.out]; rfl) _ (by have := HK0.out; unfold farq; rw [if_pos this]; omega)]; simp) _ (by omega)]; rfl, by (with_reducible repeat (first | exact Below.refl _ _ | assumption | (refine btrans ?_ (by assumption)) | refine bdrew ?_ | refine balloc ?_ _))⟩
      ·have hj' : ¬ ((j : Int) < (qs.length : Int) - 1) := by omega
       go_wp2_with fail
       go_roundw
       case rel => exact ⟨k + 1, by go_num, by omega, hb', hid (by rw [Hap.out, H.out, inner_at HI.out (show farq qs.length k - (k + 2) = j - (k + 2) by have := HK0.out; unfold farq; rw [if_pos this]; omega)]; rfl)⟩
       case measure => simp [intOf]; omega
    ·have hk0b : ((k : Int) == 0) = false := by rw [beq_eq_false_iff_ne]; omega
     generalize wr.heap.size = WB at *
     go_wp2_with fail
     go_loopw [6] (fun tj wv => ∃ j : Nat, tj = .int .i64 j ∧ k + 2 ≤ j ∧ (j = k + 2 ∨ j ≤ qs.length) ∧ Below w.heap.size w wv ∧ wv.cell? ⟨WB, 0, none⟩ = some (.int .i64 afx) ∧ wv.cell? ⟨WB, 1, none⟩ = some (.int .i64 afy) ∧ wv.cell? ⟨WB, 2, none⟩ = some (.int .i64 atx) ∧ wv.cell? ⟨WB, 3, none⟩ = some (.int .i64 aty) ∧ Hid (innerTo qs k (j - (k + 2)) = true)) (fun tj _ => qs.length + 3 + k - (intOf tj).toNat)
     case atStart => exact ⟨k + 2, by go_num, by omega, .inl rfl, hB2, r0, r1, r2, r3, hid (by rw [Nat.sub_self]; rfl)⟩
     case round =>
      clear r0 r1 r2 r3 hb2 hB2
      obtain ⟨j, rfl, hj2, hm', hb', r0, r1, r2, r3, HI⟩ := hrel
      by_cases hj : j < qs.length
      ·obtain ⟨d0, d1, d2, d3⟩ := Hq.out.below hbs hb' j (by omega)
       have hjn := hsin j (by omega)
       have hin := inner_step (qs := qs) hj2
       rw [HI.out, Bool.true_and, Hsa.out] at hin
       have hmt : meetq (afx, afy, atx, aty) (qs.getD j (0, 0, 0, 0)) = smeet afx afy atx aty (qs.getD j (0, 0, 0, 0)).1 (qs.getD j (0, 0, 0, 0)).2.1 (qs.getD j (0, 0, 0, 0)).2.2.1 (qs.getD j (0, 0, 0, 0)).2.2.2 := rfl
       have hmc := fun w' => side_meets afx afy atx aty (qs.getD j (0, 0, 0, 0)).1 (qs.getD j (0, 0, 0, 0)).2.1 (qs.getD j (0, 0, 0, 0)).2.2.1 (qs.getD j (0, 0, 0, 0)).2.2.2 ia1 ia2 ia3 ia4 hjn.1 hjn.2.1 hjn.2.2.1 hjn.2.2.2 w'
       rw [← hmt] at hmc
       clear hmt
       generalize meetq (afx, afy, atx, aty) (qs.getD j (0, 0, 0, 0)) = mt at *
       generalize (qs.getD j (0, 0, 0, 0)).1 = bfx at *
       generalize (qs.getD j (0, 0, 0, 0)).2.1 = bfy at *
       generalize (qs.getD j (0, 0, 0, 0)).2.2.1 = btx at *
       generalize (qs.getD j (0, 0, 0, 0)).2.2.2 = bty at *
       have Hin := hid hin
       have Hmc := hid hmc
       have Hb' := hid hb'
       have Hb := hid hb
       clear hin hmc hjn hb hb' hz hz1 hz2 e1 hadd
       have hj0 : (0 : Int) ≤ (j : Int) := by omega
       have hj1 : (j : Int) < (qs.length : Int) := by omega
       have hj3 : (j : Int) < (qs.length : Int) := by omega
       go_wp2_with fail
       go_region_held3 (fun w' => w'.cell? ⟨WB, 0, none⟩ = some (.int .i64 afx) ∧ w'.cell? ⟨WB, 1, none⟩ = some (.int .i64 afy) ∧ w'.cell? ⟨WB, 2, none⟩ = some (.int .i64 atx) ∧ w'.cell? ⟨WB, 3, none⟩ = some (.int .i64 aty) ∧ w'.cell? ⟨b, off + j * 4, none⟩ = some (.int .i64 bfx) ∧ w'.cell? ⟨b, off + j * 4 + 1, none⟩ = some (.int .i64 bfy) ∧ w'.cell? ⟨b, off + j * 4 + 2, none⟩ = some (.int .i64 btx) ∧ w'.cell? ⟨b, off + j * 4 + 3, none⟩ = some (.int .i64 bty)) ((go_split_ands; (repeat' apply And.intro) <;> (with_reducible repeat (first | assumption | refine keepset ?_ (by dsimp only; omega) | refine keepdrew ?_ | refine keepcell (by assumption) ?_ | refine keepalloc ?_ _))))
        (first
         | (go_at_call 260; refine (Hmc.out _).mono ?_; rintro e w3 ⟨rfl, hb3⟩))
       have hb' := Hb'.out
       cases mt
       ·go_wp2_with fail
        go_roundw
        case rel => exact ⟨j + 1, by go_num, by omega, .inr (by omega), by (with_reducible repeat (first | exact Below.refl _ _ | assumption | (refine btrans ?_ (by assumption)) | refine bdrew ?_ | refine balloc ?_ _)), keepcell hb3 (keepdrew r0), keepcell hb3 (keepdrew r1), keepcell hb3 (keepdrew r2), keepcell hb3 (keepdrew r3), hid (by rw [Hin.out]; rfl)⟩
        case measure => simp [intOf]; omega
       ·go_wp2_with fail
        go_ret
        exact ⟨by rw [apart_mono (show apartTo qs (k + 1) = false by rw [Hap.out, inner_mono (show innerTo qs k (j + 1 - (k + 2)) = false by rw [Hin.out]; rfl) _ (by unfold farq; rw [if_neg hk0]; omega)]; simp) _ (by omega)]; rfl, by (with_reducible repeat (first | exact Below.refl _ _ | assumption | (refine btrans ?_ (by assumption)) | refine bdrew ?_ | refine balloc ?_ _))⟩
      ·have hj' : ¬ ((j : Int) < (qs.length : Int)) := by omega
       go_wp2_with fail
       go_roundw
       case rel => exact ⟨k + 1, by go_num, by omega, hb', hid (by rw [Hap.out, H.out, inner_at HI.out (show farq qs.length k - (k + 2) = j - (k + 2) by unfold farq; rw [if_neg hk0]; omega)]; rfl)⟩
       case measure => simp [intOf]; omega
   ·go_wp2_with fail
    go_ret
    exact ⟨by rw [apart_mono (show apartTo qs (k + 1) = false by rw [Hap.out]; simp) _ (by omega)]; rfl, by (with_reducible repeat (first | exact Below.refl _ _ | assumption | (refine btrans ?_ (by assumption)) | refine bdrew ?_ | refine balloc ?_ _))⟩
  ·obtain rfl : k = qs.length := by omega
   go_wp2_with fail
   go_ret
   exact ⟨by rw [H.out]; rfl, hb⟩
end Go.Proofs.YtenlhgnobfadgaaGreatDoor
