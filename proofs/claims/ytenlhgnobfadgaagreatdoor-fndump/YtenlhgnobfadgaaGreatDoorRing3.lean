import Derived.Test.YtenlhgnobfadgaaGreatDoorSide2
set_option maxRecDepth 20000
set_option maxHeartbeats 4000000
set_option linter.unusedSimpArgs false
set_option linter.unusedVariables false
namespace Go.Proofs.YtenlhgnobfadgaaGreatDoor
open Go.RowKit
def badc (n i k : Nat) (x y u v z t p q : Int) : Bool := if k = i + 1 then (onb p q x y u v || onb x y z t p q) else if i = 0 ∧ k = n - 1 then (onb z t x y u v || onb u v z t p q) else smeet x y u v z t p q
def specC (ps : List (Int × Int)) (i k : Nat) : Bool := badc ps.length i k (ps.getD i (0, 0)).1 (ps.getD i (0, 0)).2 (nxt ps i).1 (nxt ps i).2 (ps.getD k (0, 0)).1 (ps.getD k (0, 0)).2 (nxt ps k).1 (nxt ps k).2
def specIn (ps : List (Int × Int)) (i : Nat) : Nat → Bool
 | 0 => true
 | m + 1 => specIn ps i m && !specC ps i (i + 1 + m)
def specTo (ps : List (Int × Int)) : Nat → Bool
 | 0 => true
 | i + 1 => specTo ps i && (!((ps.getD i (0, 0)).1 == (nxt ps i).1 && (ps.getD i (0, 0)).2 == (nxt ps i).2) && specIn ps i (ps.length - (i + 1)))
def ringOk (ps : List (Int × Int)) : Bool := decide (3 ≤ ps.length) && decide (ps.length ≤ 60) && decide (0 < area2 ps) && specTo ps ps.length
theorem specIn_step {ps : List (Int × Int)} {i j : Nat} (h : i + 1 ≤ j) : specIn ps i (j + 1 - (i + 1)) = (specIn ps i (j - (i + 1)) && !specC ps i j) := by
 rw [show j + 1 - (i + 1) = (j - (i + 1)) + 1 by omega, specIn, show i + 1 + (j - (i + 1)) = j by omega]
theorem specIn_at {ps : List (Int × Int)} {i m n : Nat} (h : specIn ps i n = true) (e : m = n) : specIn ps i m = true := by rw [e]; exact h
theorem specIn_mono {ps : List (Int × Int)} {i k : Nat} (h : specIn ps i k = false) : ∀ m, k ≤ m → specIn ps i m = false
  | 0, hm => by obtain rfl : k = 0 := by omega
                exact h
  | m + 1, hm => by
    by_cases e : k = m + 1
    · subst e; exact h
    · rw [specIn, specIn_mono h m (by omega)]; rfl
theorem spec_mono {ps : List (Int × Int)} {k : Nat} (h : specTo ps k = false) : ∀ m, k ≤ m → specTo ps m = false
  | 0, hm => by obtain rfl : k = 0 := by omega
                exact h
  | m + 1, hm => by
    by_cases e : k = m + 1
    · subst e; exact h
    · rw [specTo, spec_mono h m (by omega)]; rfl
theorem spec_sides_in (ax ay bx bY cx cy dx dy : Int) (h1 : In ax) (h2 : In ay) (h3 : In bx) (h4 : In bY) (h5 : In cx) (h6 : In cy) (h7 : In dx) (h8 : In dy) (w : World) : Calls Tryz.prog 128 #[.agg #[.int .i64 ax, .int .i64 ay], .agg #[.int .i64 bx, .int .i64 bY], .agg #[.int .i64 cx, .int .i64 cy], .agg #[.int .i64 dx, .int .i64 dy]] w fun e w' => e = .returned (.bool (smeet ax ay bx bY cx cy dx dy)) ∧ Below w.heap.size w w' := by
 have h := spec_SidesMeet ax ay bx bY cx cy dx dy w
 have hk : allok [(ax, ay), (bx, bY), (cx, cy), (dx, dy)] = true := by
  simp [allok, pok_of_in h1 h2, pok_of_in h3 h4, pok_of_in h5 h6, pok_of_in h7 h8]
 rw [hk, Bool.true_and] at h
 exact h
theorem spec_ring (a : Option Addr) (cap : Nat) (ps : List (Int × Int)) (w : World) (hm : ps.length ≤ 1099511627776) (hc : ps.length ≤ cap) (ha : allok ps = true) (h : Pts w a ps) : Calls Tryz.prog 94 #[.slice a ps.length cap] w fun e w' => e = .returned (.bool (ringOk ps)) ∧ Below w.heap.size w w' := by
 have Ha := hid ha
 have Hh := hid h
 clear ha h
 cases h3 : (decide ((3 : Int) ≤ (ps.length : Int)) && decide ((ps.length : Int) ≤ 60))
 ·have hv : ringOk ps = false := by
   unfold ringOk
   rw [show (decide (3 ≤ ps.length) && decide (ps.length ≤ 60)) = false by rw [← h3]; congr 1 <;> (rw [decide_eq_decide]; omega)]; rfl
  have h3' := hid h3
  have hin := fun w' => inn_calls (ps.length : Int) 3 60 w'
  rw [h3] at hin
  have Hin := hid hin
  clear hin h3
  go_enter Tryz.func94, Tryz.ntmps94
  go_wp2_with fail
  refine (Hin.out _).mono ?_
  rintro e w1 ⟨rfl, hw⟩
  replace hw := hw.symm
  subst hw
  go_wp2_with fail
  go_ret
  exact ⟨by rw [hv]; rfl, Below.refl _ _⟩
 have hb60 : 3 ≤ ps.length ∧ ps.length ≤ 60 := by
  simp only [Bool.and_eq_true, decide_eq_true_eq] at h3; omega
 have hin := fun w' => inn_calls (ps.length : Int) 3 60 w'
 rw [h3] at hin
 have Hin3 := hid hin
 clear hin h3
 have har := spec_Area2 a cap ps w hm hc Hh.out
 by_cases hA : area2 ps ≤ 0
 ·have hv : ringOk ps = false := by
   unfold ringOk
   rw [decide_eq_false (show ¬ 0 < area2 ps by omega), Bool.and_false]; rfl
  generalize area2 ps = A at *
  have Har := hid har
  clear har
  go_enter Tryz.func94, Tryz.ntmps94
  go_wp2_with fail
  refine (Hin3.out _).mono ?_
  rintro e w1 ⟨rfl, hw⟩
  replace hw := hw.symm
  subst hw
  go_wp2_with fail
  refine (Har.out).mono ?_
  rintro e w2 ⟨rfl, hb2⟩
  go_wp2_with fail
  go_ret
  exact ⟨by rw [hv]; rfl, hb2⟩
 have hv : ringOk ps = specTo ps ps.length := by
  unfold ringOk
  rw [decide_eq_true hb60.1, decide_eq_true hb60.2, decide_eq_true (show 0 < area2 ps by omega)]; rfl
 have Hv := hid hv
 generalize area2 ps = A at *
 have Har := hid har
 clear har hv
 obtain ⟨hn3, hn60⟩ := hb60
 obtain ⟨b, off, rfl, hbs, hq⟩ : ∃ b off, a = some ⟨b, off, none⟩ ∧ b < w.heap.size ∧ PtsAt w b off ps := by
  rcases Hh.out with h | h
  ·rw [h] at hn3; simp at hn3
  ·exact h
 have Hq := hid hq
 clear hq
 have hn3i : (3 : Int) ≤ (ps.length : Int) := by omega
 have hn6i : (ps.length : Int) ≤ 60 := by omega
 go_enter Tryz.func94, Tryz.ntmps94
 go_wp2_with fail
 refine (Hin3.out _).mono ?_
 rintro e w1 ⟨rfl, hw⟩
 replace hw := hw.symm
 subst hw
 go_wp2_with fail
 refine (Har.out).mono ?_
 rintro e w2 ⟨rfl, hb2⟩
 go_wp2_with fail
 go_loopw [4] (fun ti wr => ∃ i : Nat, ti = .int .i64 i ∧ i ≤ ps.length ∧ Below w.heap.size w wr ∧ Hid (specTo ps i = true)) (fun ti _ => ps.length - (intOf ti).toNat)
 case atStart => exact ⟨0, rfl, Nat.zero_le _, hb2, hid rfl⟩
 case round =>
  clear hb2 Har Hin3
  obtain ⟨i, rfl, hi, hb, H⟩ := hrel
  by_cases hlt : i < ps.length
  ·obtain ⟨c0, c1⟩ := Hq.out.below hbs hb i hlt
   have hj : (i + 1) % ps.length < ps.length := Nat.mod_lt _ (by omega)
   obtain ⟨d0, d1⟩ := Hq.out.below hbs hb _ hj
   have e1 : ((i : Int) + 1).tmod (ps.length : Int) = (((i + 1) % ps.length : Nat) : Int) := by
    rw [show ((i : Int) + 1) = ((i + 1 : Nat) : Int) by omega]; rfl
   have hz : ¬ ((ps.length : Int) = 0) := by omega
   have hz1 : ¬ ps = [] := by rintro rfl; simp at hlt
   have hz2 : ¬ ps.length = 0 := by omega
   have e3 : nxt ps i = ps.getD ((i + 1) % ps.length) (0, 0) := rfl
   rw [← e3] at d0 d1
   clear e3
   obtain ⟨ix, iy⟩ := allok_in Ha.out i hlt
   obtain ⟨iu, iv⟩ := nxt_in Ha.out i hlt
   have hsp : specTo ps (i + 1) = (specTo ps i && (!((ps.getD i (0, 0)).1 == (nxt ps i).1 && (ps.getD i (0, 0)).2 == (nxt ps i).2) && specIn ps i (ps.length - (i + 1)))) := rfl
   rw [H.out, Bool.true_and] at hsp
   have hcc : ∀ k, specC ps i k = badc ps.length i k (ps.getD i (0, 0)).1 (ps.getD i (0, 0)).2 (nxt ps i).1 (nxt ps i).2 (ps.getD k (0, 0)).1 (ps.getD k (0, 0)).2 (nxt ps k).1 (nxt ps k).2 := fun k => rfl
   generalize (ps.getD i (0, 0)).1 = x at *
   generalize (ps.getD i (0, 0)).2 = y at *
   generalize (nxt ps i).1 = u at *
   generalize (nxt ps i).2 = v at *
   generalize (i + 1) % ps.length = j at *
   have Hsp := hid hsp
   have Hcc := hid hcc
   clear hsp hcc
   have hk0 : (0 : Int) ≤ (i : Int) := by omega
   have hk1 : (i : Int) < (ps.length : Int) := by omega
   have hj0 : (0 : Int) ≤ (j : Int) := by omega
   have hj1 : (j : Int) < (ps.length : Int) := by omega
   have hadd : IntKind.i64.wrap ((i : Int) + 1) = (i : Int) + 1 := by rw [IntKind.wrap_i64]; omega
   go_wp2_with fail
   go_cut [5, 6] (fun t7 t8 wx => ∃ ba bb : Nat, t7 = .pointer (some ⟨ba, 0, none⟩) ∧ t8 = .pointer (some ⟨bb, 0, none⟩) ∧ Below w.heap.size w wx ∧ wx.heap[ba]? = some (.cells #[.int .i64 x, .int .i64 y] 91 (0, 0)) ∧ wx.heap[bb]? = some (.cells #[.int .i64 u, .int .i64 v] 91 (0, 0)))
   case first =>
    go_region_held3 (fun w' => w'.cell? ⟨b, off + i * 2, none⟩ = some (.int .i64 x) ∧ w'.cell? ⟨b, off + i * 2 + 1, none⟩ = some (.int .i64 y) ∧ w'.cell? ⟨b, off + j * 2, none⟩ = some (.int .i64 u) ∧ w'.cell? ⟨b, off + j * 2 + 1, none⟩ = some (.int .i64 v)) ((go_split_ands; (repeat' apply And.intro) <;> (repeat (first | with_reducible assumption | (refine newcell _ _ _ _ _ _ ?_ rfl; simp; done) | refine keepcell (by with_reducible assumption) ?_ | refine keepdrew ?_ | refine keepalloc ?_ _))))
     (first
      | (fail))
    all_goals
     go_wp2_with fail
     go_meet
     first
      | exact ⟨_, _, rfl, rfl, by (with_reducible repeat (first | exact Below.refl _ _ | assumption | (refine btrans ?_ (by assumption)) | refine bdrew ?_ | refine balloc ?_ _)), old_alloc (new_alloc _ _ _ (by simp)), new_alloc _ _ _ (by simp)⟩
      | exact ⟨_, _, rfl, rfl, by (with_reducible repeat (first | exact Below.refl _ _ | assumption | (refine btrans ?_ (by assumption)) | refine bdrew ?_ | refine balloc ?_ _)), new_alloc _ _ _ (by simp), old_alloc (new_alloc _ _ _ (by simp))⟩
   case rest =>
    clear c0 c1 d0 d1 e1 hb
    obtain ⟨ba, bb, rfl, rfl, hb, ga, gb⟩ := hcut
    obtain ⟨r00, r01, _, _⟩ := cell2f ga
    obtain ⟨r10, r11, _, _⟩ := cell2f gb
    clear ga gb
    have hlast : ∀ e : Bool, e = (x == u && y == v) → Hid (specTo ps (i + 1) = (!e && specIn ps i (ps.length - (i + 1)))) := by
     rintro e rfl; exact Hsp
    by_cases hxy : x = u ∧ y = v
    ·obtain ⟨rfl, rfl⟩ := hxy
     have Hsp2 := hlast true (by simp)
     clear Hsp hlast
     go_wp2_with fail
     go_ret
     exact ⟨by rw [Hv.out, spec_mono (show specTo ps (i + 1) = false by rw [Hsp2.out]; rfl) _ (by omega)]; rfl, hb⟩
    have Hsp2 := hlast false (by symm; rw [Bool.and_eq_false_iff, beq_eq_false_iff_ne, beq_eq_false_iff_ne]; by_cases e : x = u; exact .inr (fun e' => hxy ⟨e, e'⟩); exact .inl e)
    clear Hsp hlast
    have Hsp := Hsp2
    clear Hsp2
    by_cases hx : x = u
    ·subst hx
     have hy : ¬ y = v := fun e => hxy ⟨rfl, e⟩
     have hy' : (y == v) = false := by rw [beq_eq_false_iff_ne]; exact hy
     clear hxy
     go_wp2_with fail
     go_loopw [7] (fun tk wv => ∃ k : Nat, tk = .int .i64 k ∧ i + 1 ≤ k ∧ k ≤ ps.length ∧ Below w.heap.size w wv ∧ wv.cell? ⟨ba, 0, none⟩ = some (.int .i64 x) ∧ wv.cell? ⟨ba, 1, none⟩ = some (.int .i64 y) ∧ wv.cell? ⟨bb, 0, none⟩ = some (.int .i64 x) ∧ wv.cell? ⟨bb, 1, none⟩ = some (.int .i64 v) ∧ Hid (specIn ps i (k - (i + 1)) = true)) (fun tk _ => ps.length - (intOf tk).toNat)
     case atStart => exact ⟨i + 1, by go_num, Nat.le_refl _, by omega, hb, r00, r01, r10, r11, hid (by rw [Nat.sub_self]; rfl)⟩
     case round =>
      clear hb r00 r01 r10 r11 hj0 hj1 hadd
      obtain ⟨k, rfl, hk, hkn, hb, r00, r01, r10, r11, HI⟩ := hrel
      by_cases hkl : k < ps.length
      ·obtain ⟨c0, c1⟩ := Hq.out.below hbs hb k hkl
       have hjk : (k + 1) % ps.length < ps.length := Nat.mod_lt _ (by omega)
       obtain ⟨d0, d1⟩ := Hq.out.below hbs hb _ hjk
       have e1 : ((k : Int) + 1).tmod (ps.length : Int) = (((k + 1) % ps.length : Nat) : Int) := by
        rw [show ((k : Int) + 1) = ((k + 1 : Nat) : Int) by omega]; rfl
       have e3 : nxt ps k = ps.getD ((k + 1) % ps.length) (0, 0) := rfl
       rw [← e3] at d0 d1
       clear e3
       obtain ⟨iz, it⟩ := allok_in Ha.out k hkl
       obtain ⟨ip, iq⟩ := nxt_in Ha.out k hkl
       have hin := specIn_step (ps := ps) hk
       rw [HI.out, Bool.true_and, Hcc.out k] at hin
       generalize (ps.getD k (0, 0)).1 = z at *
       generalize (ps.getD k (0, 0)).2 = t at *
       generalize (nxt ps k).1 = p at *
       generalize (nxt ps k).2 = q at *
       generalize (k + 1) % ps.length = l at *
       have Hin := hid hin
       clear hin
       have hk0' : (0 : Int) ≤ (k : Int) := by omega
       have hk1' : (k : Int) < (ps.length : Int) := by omega
       have hl0 : (0 : Int) ≤ (l : Int) := by omega
       have hl1 : (l : Int) < (ps.length : Int) := by omega
       have hadd : IntKind.i64.wrap ((k : Int) + 1) = (k : Int) + 1 := by rw [IntKind.wrap_i64]; omega
       have Hb0 := hb
       go_wp2_with fail
       go_cut [8, 9] (fun t8 t9 wx => ∃ bc bd : Nat, t8 = .pointer (some ⟨bc, 0, none⟩) ∧ t9 = .pointer (some ⟨bd, 0, none⟩) ∧ Below w.heap.size w wx ∧ wx.heap[bc]? = some (.cells #[.int .i64 z, .int .i64 t] 91 (0, 0)) ∧ wx.heap[bd]? = some (.cells #[.int .i64 p, .int .i64 q] 91 (0, 0)) ∧ wx.cell? ⟨ba, 0, none⟩ = some (.int .i64 x) ∧ wx.cell? ⟨ba, 1, none⟩ = some (.int .i64 y) ∧ wx.cell? ⟨bb, 0, none⟩ = some (.int .i64 x) ∧ wx.cell? ⟨bb, 1, none⟩ = some (.int .i64 v))
       case first =>
        go_region_held3 (fun w' => w'.cell? ⟨b, off + k * 2, none⟩ = some (.int .i64 z) ∧ w'.cell? ⟨b, off + k * 2 + 1, none⟩ = some (.int .i64 t) ∧ w'.cell? ⟨b, off + l * 2, none⟩ = some (.int .i64 p) ∧ w'.cell? ⟨b, off + l * 2 + 1, none⟩ = some (.int .i64 q)) ((go_split_ands; (repeat' apply And.intro) <;> (repeat (first | with_reducible assumption | (refine newcell _ _ _ _ _ _ ?_ rfl; simp; done) | refine keepcell (by with_reducible assumption) ?_ | refine keepdrew ?_ | refine keepalloc ?_ _))))
         (first
          | (fail))
        all_goals
         go_wp2_with fail
         go_meet
         first
          | exact ⟨_, _, rfl, rfl, by (with_reducible repeat (first | exact Below.refl _ _ | assumption | (refine btrans ?_ (by assumption)) | refine bdrew ?_ | refine balloc ?_ _)), old_alloc (new_alloc _ _ _ (by simp)), new_alloc _ _ _ (by simp), by (with_reducible repeat (first | assumption | refine keepset ?_ (by dsimp only; omega) | refine keepdrew ?_ | refine keepcell (by assumption) ?_ | refine keepalloc ?_ _)), by (with_reducible repeat (first | assumption | refine keepset ?_ (by dsimp only; omega) | refine keepdrew ?_ | refine keepcell (by assumption) ?_ | refine keepalloc ?_ _)), by (with_reducible repeat (first | assumption | refine keepset ?_ (by dsimp only; omega) | refine keepdrew ?_ | refine keepcell (by assumption) ?_ | refine keepalloc ?_ _)), by (with_reducible repeat (first | assumption | refine keepset ?_ (by dsimp only; omega) | refine keepdrew ?_ | refine keepcell (by assumption) ?_ | refine keepalloc ?_ _))⟩
          | exact ⟨_, _, rfl, rfl, by (with_reducible repeat (first | exact Below.refl _ _ | assumption | (refine btrans ?_ (by assumption)) | refine bdrew ?_ | refine balloc ?_ _)), new_alloc _ _ _ (by simp), old_alloc (new_alloc _ _ _ (by simp)), by (with_reducible repeat (first | assumption | refine keepset ?_ (by dsimp only; omega) | refine keepdrew ?_ | refine keepcell (by assumption) ?_ | refine keepalloc ?_ _)), by (with_reducible repeat (first | assumption | refine keepset ?_ (by dsimp only; omega) | refine keepdrew ?_ | refine keepcell (by assumption) ?_ | refine keepalloc ?_ _)), by (with_reducible repeat (first | assumption | refine keepset ?_ (by dsimp only; omega) | refine keepdrew ?_ | refine keepcell (by assumption) ?_ | refine keepalloc ?_ _)), by (with_reducible repeat (first | assumption | refine keepset ?_ (by dsimp only; omega) | refine keepdrew ?_ | refine keepcell (by assumption) ?_ | refine keepalloc ?_ _))⟩
       case rest =>
        clear c0 c1 d0 d1 e1 hb r00 r01 r10 r11 Hb0 hl0 hl1 hadd
        obtain ⟨bc, bd, rfl, rfl, hb, gc, gd, r00, r01, r10, r11⟩ := hcut
        obtain ⟨r20, r21, _, _⟩ := cell2f gc
        obtain ⟨r30, r31, _, _⟩ := cell2f gd
        clear gc gd
        by_cases hA1 : k = i + 1
        ·have hc1 : ((k : Int) == (i : Int) + 1) = true := by rw [beq_iff_eq]; omega
         have hbd : badc ps.length i k x y x v z t p q = (onb p q x y x v || onb x y z t p q) := by unfold badc; rw [if_pos hA1]
         rw [hbd] at Hin
         have ho1 := fun w' => spec_onside_in p q x y x v ip iq ix iy iu iv w'
         have ho2 := fun w' => spec_onside_in x y z t p q ix iy iz it ip iq w'
         generalize onb p q x y x v = o1 at *
         generalize onb x y z t p q = o2 at *
         have Ho1 := hid ho1
         have Ho2 := hid ho2
         have HA1 := hid hA1
         clear ho1 ho2 hbd hA1
         cases o1
         ·cases o2
          ·go_wp2_with fail
           refine (Ho1.out _).mono ?_
           rintro e w5 ⟨rfl, hb5⟩
           have s00 := keepcell hb5 r00
           have s01 := keepcell hb5 r01
           have s10 := keepcell hb5 r10
           have s11 := keepcell hb5 r11
           have s20 := keepcell hb5 r20
           have s21 := keepcell hb5 r21
           have s30 := keepcell hb5 r30
           have s31 := keepcell hb5 r31
           go_wp2_with fail
           refine (Ho2.out _).mono ?_
           rintro e w6 ⟨rfl, hb6⟩
           have t00 := keepcell hb6 s00
           have t01 := keepcell hb6 s01
           have t10 := keepcell hb6 s10
           have t11 := keepcell hb6 s11
           have t20 := keepcell hb6 s20
           have t21 := keepcell hb6 s21
           have t30 := keepcell hb6 s30
           have t31 := keepcell hb6 s31
           go_wp2_with fail
           go_roundw
           case rel => exact ⟨k + 1, by go_num, by omega, by omega, by (with_reducible repeat (first | exact Below.refl _ _ | assumption | (refine btrans ?_ (by assumption)) | refine bdrew ?_ | refine balloc ?_ _)), t00, t01, t10, t11, hid (by rw [Hin.out]; simp)⟩
           case measure => simp [intOf]; omega
          ·go_wp2_with fail
           refine (Ho1.out _).mono ?_
           rintro e w5 ⟨rfl, hb5⟩
           have s00 := keepcell hb5 r00
           have s01 := keepcell hb5 r01
           have s10 := keepcell hb5 r10
           have s11 := keepcell hb5 r11
           have s20 := keepcell hb5 r20
           have s21 := keepcell hb5 r21
           have s30 := keepcell hb5 r30
           have s31 := keepcell hb5 r31
           go_wp2_with fail
           refine (Ho2.out _).mono ?_
           rintro e w6 ⟨rfl, hb6⟩
           go_wp2_with fail
           go_ret
           exact ⟨by rw [Hv.out, spec_mono (show specTo ps (i + 1) = false by rw [Hsp.out, specIn_mono (show specIn ps i (k + 1 - (i + 1)) = false by rw [Hin.out]; simp) _ (by omega)]; simp) _ (by omega)]; rfl, by (with_reducible repeat (first | exact Below.refl _ _ | assumption | (refine btrans ?_ (by assumption)) | refine bdrew ?_ | refine balloc ?_ _))⟩
         ·go_wp2_with fail
          refine (Ho1.out _).mono ?_
          rintro e w5 ⟨rfl, hb5⟩
          go_wp2_with fail
          go_ret
          exact ⟨by rw [Hv.out, spec_mono (show specTo ps (i + 1) = false by rw [Hsp.out, specIn_mono (show specIn ps i (k + 1 - (i + 1)) = false by rw [Hin.out]; simp) _ (by omega)]; simp) _ (by omega)]; rfl, by (with_reducible repeat (first | exact Below.refl _ _ | assumption | (refine btrans ?_ (by assumption)) | refine bdrew ?_ | refine balloc ?_ _))⟩
        ·have hc1 : ((k : Int) == (i : Int) + 1) = false := by rw [beq_eq_false_iff_ne]; omega
         by_cases hA2 : i = 0 ∧ k = ps.length - 1
         ·have hc2 : ((i : Int) == 0) = true := by rw [beq_iff_eq]; omega
          have hc3 : ((k : Int) == (ps.length : Int) - 1) = true := by rw [beq_iff_eq]; omega
          have hbd : badc ps.length i k x y x v z t p q = (onb z t x y x v || onb x v z t p q) := by unfold badc; rw [if_neg hA1, if_pos hA2]
          rw [hbd] at Hin
          have ho1 := fun w' => spec_onside_in z t x y x v iz it ix iy iu iv w'
          have ho2 := fun w' => spec_onside_in x v z t p q iu iv iz it ip iq w'
          generalize onb z t x y x v = o1 at *
          generalize onb x v z t p q = o2 at *
          have Ho1 := hid ho1
          have Ho2 := hid ho2
          have HA1 := hid hA1
          have HA2 := hid hA2
          clear ho1 ho2 hbd hA1 hA2
          cases o1
          ·cases o2
           ·go_wp2_with fail
            refine (Ho1.out _).mono ?_
            rintro e w5 ⟨rfl, hb5⟩
            have s00 := keepcell hb5 r00
            have s01 := keepcell hb5 r01
            have s10 := keepcell hb5 r10
            have s11 := keepcell hb5 r11
            have s20 := keepcell hb5 r20
            have s21 := keepcell hb5 r21
            have s30 := keepcell hb5 r30
            have s31 := keepcell hb5 r31
            go_wp2_with fail
            refine (Ho2.out _).mono ?_
            rintro e w6 ⟨rfl, hb6⟩
            have t00 := keepcell hb6 s00
            have t01 := keepcell hb6 s01
            have t10 := keepcell hb6 s10
            have t11 := keepcell hb6 s11
            have t20 := keepcell hb6 s20
            have t21 := keepcell hb6 s21
            have t30 := keepcell hb6 s30
            have t31 := keepcell hb6 s31
            go_wp2_with fail
            go_roundw
            case rel => exact ⟨k + 1, by go_num, by omega, by omega, by (with_reducible repeat (first | exact Below.refl _ _ | assumption | (refine btrans ?_ (by assumption)) | refine bdrew ?_ | refine balloc ?_ _)), t00, t01, t10, t11, hid (by rw [Hin.out]; simp)⟩
            case measure => simp [intOf]; omega
           ·go_wp2_with fail
            refine (Ho1.out _).mono ?_
            rintro e w5 ⟨rfl, hb5⟩
            have s00 := keepcell hb5 r00
            have s01 := keepcell hb5 r01
            have s10 := keepcell hb5 r10
            have s11 := keepcell hb5 r11
            have s20 := keepcell hb5 r20
            have s21 := keepcell hb5 r21
            have s30 := keepcell hb5 r30
            have s31 := keepcell hb5 r31
            go_wp2_with fail
            refine (Ho2.out _).mono ?_
            rintro e w6 ⟨rfl, hb6⟩
            go_wp2_with fail
            go_ret
            exact ⟨by rw [Hv.out, spec_mono (show specTo ps (i + 1) = false by rw [Hsp.out, specIn_mono (show specIn ps i (k + 1 - (i + 1)) = false by rw [Hin.out]; simp) _ (by omega)]; simp) _ (by omega)]; rfl, by (with_reducible repeat (first | exact Below.refl _ _ | assumption | (refine btrans ?_ (by assumption)) | refine bdrew ?_ | refine balloc ?_ _))⟩
          ·go_wp2_with fail
           refine (Ho1.out _).mono ?_
           rintro e w5 ⟨rfl, hb5⟩
           go_wp2_with fail
           go_ret
           exact ⟨by rw [Hv.out, spec_mono (show specTo ps (i + 1) = false by rw [Hsp.out, specIn_mono (show specIn ps i (k + 1 - (i + 1)) = false by rw [Hin.out]; simp) _ (by omega)]; simp) _ (by omega)]; rfl, by (with_reducible repeat (first | exact Below.refl _ _ | assumption | (refine btrans ?_ (by assumption)) | refine bdrew ?_ | refine balloc ?_ _))⟩
         ·have hbd : badc ps.length i k x y x v z t p q = smeet x y x v z t p q := by unfold badc; rw [if_neg hA1, if_neg hA2]
          rw [hbd] at Hin
          have ho1 := fun w' => spec_sides_in x y x v z t p q ix iy iu iv iz it ip iq w'
          generalize smeet x y x v z t p q = o1 at *
          have Ho1 := hid ho1
          clear ho1 hbd
          by_cases hi0 : i = 0
          ·have hc2 : ((i : Int) == 0) = true := by rw [beq_iff_eq]; omega
           have hc3 : ((k : Int) == (ps.length : Int) - 1) = false := by rw [beq_eq_false_iff_ne]; omega
           have HI0 := hid hi0
           clear hi0 hA1 hA2
           cases o1
           ·go_wp2_with fail
            refine (Ho1.out _).mono ?_
            rintro e w6 ⟨rfl, hb6⟩
            have t00 := keepcell hb6 r00
            have t01 := keepcell hb6 r01
            have t10 := keepcell hb6 r10
            have t11 := keepcell hb6 r11
            have t20 := keepcell hb6 r20
            have t21 := keepcell hb6 r21
            have t30 := keepcell hb6 r30
            have t31 := keepcell hb6 r31
            go_wp2_with fail
            go_roundw
            case rel => exact ⟨k + 1, by go_num, by omega, by omega, by (with_reducible repeat (first | exact Below.refl _ _ | assumption | (refine btrans ?_ (by assumption)) | refine bdrew ?_ | refine balloc ?_ _)), t00, t01, t10, t11, hid (by rw [Hin.out]; simp)⟩
            case measure => simp [intOf]; omega
           ·go_wp2_with fail
            refine (Ho1.out _).mono ?_
            rintro e w6 ⟨rfl, hb6⟩
            go_wp2_with fail
            go_ret
            exact ⟨by rw [Hv.out, spec_mono (show specTo ps (i + 1) = false by rw [Hsp.out, specIn_mono (show specIn ps i (k + 1 - (i + 1)) = false by rw [Hin.out]; simp) _ (by omega)]; simp) _ (by omega)]; rfl, by (with_reducible repeat (first | exact Below.refl _ _ | assumption | (refine btrans ?_ (by assumption)) | refine bdrew ?_ | refine balloc ?_ _))⟩
          ·have hc2 : ((i : Int) == 0) = false := by rw [beq_eq_false_iff_ne]; omega
           skip
           have HI0 := hid hi0
           clear hi0 hA1 hA2
           cases o1
           ·go_wp2_with fail
            refine (Ho1.out _).mono ?_
            rintro e w6 ⟨rfl, hb6⟩
            have t00 := keepcell hb6 r00
            have t01 := keepcell hb6 r01
            have t10 := keepcell hb6 r10
            have t11 := keepcell hb6 r11
            have t20 := keepcell hb6 r20
            have t21 := keepcell hb6 r21
            have t30 := keepcell hb6 r30
            have t31 := keepcell hb6 r31
            go_wp2_with fail
            go_roundw
            case rel => exact ⟨k + 1, by go_num, by omega, by omega, by (with_reducible repeat (first | exact Below.refl _ _ | assumption | (refine btrans ?_ (by assumption)) | refine bdrew ?_ | refine balloc ?_ _)), t00, t01, t10, t11, hid (by rw [Hin.out]; simp)⟩
            case measure => simp [intOf]; omega
           ·go_wp2_with fail
            refine (Ho1.out _).mono ?_
            rintro e w6 ⟨rfl, hb6⟩
            go_wp2_with fail
            go_ret
            exact ⟨by rw [Hv.out, spec_mono (show specTo ps (i + 1) = false by rw [Hsp.out, specIn_mono (show specIn ps i (k + 1 - (i + 1)) = false by rw [Hin.out]; simp) _ (by omega)]; simp) _ (by omega)]; rfl, by (with_reducible repeat (first | exact Below.refl _ _ | assumption | (refine btrans ?_ (by assumption)) | refine bdrew ?_ | refine balloc ?_ _))⟩
      ·have hkl' : ¬ ((k : Int) < (ps.length : Int)) := by omega
       go_wp2_with fail
       go_roundw
       case rel => exact ⟨i + 1, by go_num, by omega, hb, hid (by rw [Hsp.out, specIn_at HI.out (by omega)]; rfl)⟩
       case measure => simp [intOf]; omega
    ·have hx' : (x == u) = false := by rw [beq_eq_false_iff_ne]; exact hx
     clear hxy
     go_wp2_with fail
     go_loopw [7] (fun tk wv => ∃ k : Nat, tk = .int .i64 k ∧ i + 1 ≤ k ∧ k ≤ ps.length ∧ Below w.heap.size w wv ∧ wv.cell? ⟨ba, 0, none⟩ = some (.int .i64 x) ∧ wv.cell? ⟨ba, 1, none⟩ = some (.int .i64 y) ∧ wv.cell? ⟨bb, 0, none⟩ = some (.int .i64 u) ∧ wv.cell? ⟨bb, 1, none⟩ = some (.int .i64 v) ∧ Hid (specIn ps i (k - (i + 1)) = true)) (fun tk _ => ps.length - (intOf tk).toNat)
     case atStart => exact ⟨i + 1, by go_num, Nat.le_refl _, by omega, hb, r00, r01, r10, r11, hid (by rw [Nat.sub_self]; rfl)⟩
     case round =>
      clear hb r00 r01 r10 r11 hj0 hj1 hadd
      obtain ⟨k, rfl, hk, hkn, hb, r00, r01, r10, r11, HI⟩ := hrel
      by_cases hkl : k < ps.length
      ·obtain ⟨c0, c1⟩ := Hq.out.below hbs hb k hkl
       have hjk : (k + 1) % ps.length < ps.length := Nat.mod_lt _ (by omega)
       obtain ⟨d0, d1⟩ := Hq.out.below hbs hb _ hjk
       have e1 : ((k : Int) + 1).tmod (ps.length : Int) = (((k + 1) % ps.length : Nat) : Int) := by
        rw [show ((k : Int) + 1) = ((k + 1 : Nat) : Int) by omega]; rfl
       have e3 : nxt ps k = ps.getD ((k + 1) % ps.length) (0, 0) := rfl
       rw [← e3] at d0 d1
       clear e3
       obtain ⟨iz, it⟩ := allok_in Ha.out k hkl
       obtain ⟨ip, iq⟩ := nxt_in Ha.out k hkl
       have hin := specIn_step (ps := ps) hk
       rw [HI.out, Bool.true_and, Hcc.out k] at hin
       generalize (ps.getD k (0, 0)).1 = z at *
       generalize (ps.getD k (0, 0)).2 = t at *
       generalize (nxt ps k).1 = p at *
       generalize (nxt ps k).2 = q at *
       generalize (k + 1) % ps.length = l at *
       have Hin := hid hin
       clear hin
       have hk0' : (0 : Int) ≤ (k : Int) := by omega
       have hk1' : (k : Int) < (ps.length : Int) := by omega
       have hl0 : (0 : Int) ≤ (l : Int) := by omega
       have hl1 : (l : Int) < (ps.length : Int) := by omega
       have hadd : IntKind.i64.wrap ((k : Int) + 1) = (k : Int) + 1 := by rw [IntKind.wrap_i64]; omega
       have Hb0 := hb
       go_wp2_with fail
       go_cut [8, 9] (fun t8 t9 wx => ∃ bc bd : Nat, t8 = .pointer (some ⟨bc, 0, none⟩) ∧ t9 = .pointer (some ⟨bd, 0, none⟩) ∧ Below w.heap.size w wx ∧ wx.heap[bc]? = some (.cells #[.int .i64 z, .int .i64 t] 91 (0, 0)) ∧ wx.heap[bd]? = some (.cells #[.int .i64 p, .int .i64 q] 91 (0, 0)) ∧ wx.cell? ⟨ba, 0, none⟩ = some (.int .i64 x) ∧ wx.cell? ⟨ba, 1, none⟩ = some (.int .i64 y) ∧ wx.cell? ⟨bb, 0, none⟩ = some (.int .i64 u) ∧ wx.cell? ⟨bb, 1, none⟩ = some (.int .i64 v))
       case first =>
        go_region_held3 (fun w' => w'.cell? ⟨b, off + k * 2, none⟩ = some (.int .i64 z) ∧ w'.cell? ⟨b, off + k * 2 + 1, none⟩ = some (.int .i64 t) ∧ w'.cell? ⟨b, off + l * 2, none⟩ = some (.int .i64 p) ∧ w'.cell? ⟨b, off + l * 2 + 1, none⟩ = some (.int .i64 q)) ((go_split_ands; (repeat' apply And.intro) <;> (repeat (first | with_reducible assumption | (refine newcell _ _ _ _ _ _ ?_ rfl; simp; done) | refine keepcell (by with_reducible assumption) ?_ | refine keepdrew ?_ | refine keepalloc ?_ _))))
         (first
          | (fail))
        all_goals
         go_wp2_with fail
         go_meet
         first
          | exact ⟨_, _, rfl, rfl, by (with_reducible repeat (first | exact Below.refl _ _ | assumption | (refine btrans ?_ (by assumption)) | refine bdrew ?_ | refine balloc ?_ _)), old_alloc (new_alloc _ _ _ (by simp)), new_alloc _ _ _ (by simp), by (with_reducible repeat (first | assumption | refine keepset ?_ (by dsimp only; omega) | refine keepdrew ?_ | refine keepcell (by assumption) ?_ | refine keepalloc ?_ _)), by (with_reducible repeat (first | assumption | refine keepset ?_ (by dsimp only; omega) | refine keepdrew ?_ | refine keepcell (by assumption) ?_ | refine keepalloc ?_ _)), by (with_reducible repeat (first | assumption | refine keepset ?_ (by dsimp only; omega) | refine keepdrew ?_ | refine keepcell (by assumption) ?_ | refine keepalloc ?_ _)), by (with_reducible repeat (first | assumption | refine keepset ?_ (by dsimp only; omega) | refine keepdrew ?_ | refine keepcell (by assumption) ?_ | refine keepalloc ?_ _))⟩
          | exact ⟨_, _, rfl, rfl, by (with_reducible repeat (first | exact Below.refl _ _ | assumption | (refine btrans ?_ (by assumption)) | refine bdrew ?_ | refine balloc ?_ _)), new_alloc _ _ _ (by simp), old_alloc (new_alloc _ _ _ (by simp)), by (with_reducible repeat (first | assumption | refine keepset ?_ (by dsimp only; omega) | refine keepdrew ?_ | refine keepcell (by assumption) ?_ | refine keepalloc ?_ _)), by (with_reducible repeat (first | assumption | refine keepset ?_ (by dsimp only; omega) | refine keepdrew ?_ | refine keepcell (by assumption) ?_ | refine keepalloc ?_ _)), by (with_reducible repeat (first | assumption | refine keepset ?_ (by dsimp only; omega) | refine keepdrew ?_ | refine keepcell (by assumption) ?_ | refine keepalloc ?_ _)), by (with_reducible repeat (first | assumption | refine keepset ?_ (by dsimp only; omega) | refine keepdrew ?_ | refine keepcell (by assumption) ?_ | refine keepalloc ?_ _))⟩
       case rest =>
        clear c0 c1 d0 d1 e1 hb r00 r01 r10 r11 Hb0 hl0 hl1 hadd
        obtain ⟨bc, bd, rfl, rfl, hb, gc, gd, r00, r01, r10, r11⟩ := hcut
        obtain ⟨r20, r21, _, _⟩ := cell2f gc
        obtain ⟨r30, r31, _, _⟩ := cell2f gd
        clear gc gd
        by_cases hA1 : k = i + 1
        ·have hc1 : ((k : Int) == (i : Int) + 1) = true := by rw [beq_iff_eq]; omega
         have hbd : badc ps.length i k x y u v z t p q = (onb p q x y u v || onb x y z t p q) := by unfold badc; rw [if_pos hA1]
         rw [hbd] at Hin
         have ho1 := fun w' => spec_onside_in p q x y u v ip iq ix iy iu iv w'
         have ho2 := fun w' => spec_onside_in x y z t p q ix iy iz it ip iq w'
         generalize onb p q x y u v = o1 at *
         generalize onb x y z t p q = o2 at *
         have Ho1 := hid ho1
         have Ho2 := hid ho2
         have HA1 := hid hA1
         clear ho1 ho2 hbd hA1
         cases o1
         ·cases o2
          ·go_wp2_with fail
           refine (Ho1.out _).mono ?_
           rintro e w5 ⟨rfl, hb5⟩
           have s00 := keepcell hb5 r00
           have s01 := keepcell hb5 r01
           have s10 := keepcell hb5 r10
           have s11 := keepcell hb5 r11
           have s20 := keepcell hb5 r20
           have s21 := keepcell hb5 r21
           have s30 := keepcell hb5 r30
           have s31 := keepcell hb5 r31
           go_wp2_with fail
           refine (Ho2.out _).mono ?_
           rintro e w6 ⟨rfl, hb6⟩
           have t00 := keepcell hb6 s00
           have t01 := keepcell hb6 s01
           have t10 := keepcell hb6 s10
           have t11 := keepcell hb6 s11
           have t20 := keepcell hb6 s20
           have t21 := keepcell hb6 s21
           have t30 := keepcell hb6 s30
           have t31 := keepcell hb6 s31
           go_wp2_with fail
           go_roundw
           case rel => exact ⟨k + 1, by go_num, by omega, by omega, by (with_reducible repeat (first | exact Below.refl _ _ | assumption | (refine btrans ?_ (by assumption)) | refine bdrew ?_ | refine balloc ?_ _)), t00, t01, t10, t11, hid (by rw [Hin.out]; simp)⟩
           case measure => simp [intOf]; omega
          ·go_wp2_with fail
           refine (Ho1.out _).mono ?_
           rintro e w5 ⟨rfl, hb5⟩
           have s00 := keepcell hb5 r00
           have s01 := keepcell hb5 r01
           have s10 := keepcell hb5 r10
           have s11 := keepcell hb5 r11
           have s20 := keepcell hb5 r20
           have s21 := keepcell hb5 r21
           have s30 := keepcell hb5 r30
           have s31 := keepcell hb5 r31
           go_wp2_with fail
           refine (Ho2.out _).mono ?_
           rintro e w6 ⟨rfl, hb6⟩
           go_wp2_with fail
           go_ret
           exact ⟨by rw [Hv.out, spec_mono (show specTo ps (i + 1) = false by rw [Hsp.out, specIn_mono (show specIn ps i (k + 1 - (i + 1)) = false by rw [Hin.out]; simp) _ (by omega)]; simp) _ (by omega)]; rfl, by (with_reducible repeat (first | exact Below.refl _ _ | assumption | (refine btrans ?_ (by assumption)) | refine bdrew ?_ | refine balloc ?_ _))⟩
         ·go_wp2_with fail
          refine (Ho1.out _).mono ?_
          rintro e w5 ⟨rfl, hb5⟩
          go_wp2_with fail
          go_ret
          exact ⟨by rw [Hv.out, spec_mono (show specTo ps (i + 1) = false by rw [Hsp.out, specIn_mono (show specIn ps i (k + 1 - (i + 1)) = false by rw [Hin.out]; simp) _ (by omega)]; simp) _ (by omega)]; rfl, by (with_reducible repeat (first | exact Below.refl _ _ | assumption | (refine btrans ?_ (by assumption)) | refine bdrew ?_ | refine balloc ?_ _))⟩
        ·have hc1 : ((k : Int) == (i : Int) + 1) = false := by rw [beq_eq_false_iff_ne]; omega
         by_cases hA2 : i = 0 ∧ k = ps.length - 1
         ·have hc2 : ((i : Int) == 0) = true := by rw [beq_iff_eq]; omega
          have hc3 : ((k : Int) == (ps.length : Int) - 1) = true := by rw [beq_iff_eq]; omega
          have hbd : badc ps.length i k x y u v z t p q = (onb z t x y u v || onb u v z t p q) := by unfold badc; rw [if_neg hA1, if_pos hA2]
          rw [hbd] at Hin
          have ho1 := fun w' => spec_onside_in z t x y u v iz it ix iy iu iv w'
          have ho2 := fun w' => spec_onside_in u v z t p q iu iv iz it ip iq w'
          generalize onb z t x y u v = o1 at *
          generalize onb u v z t p q = o2 at *
          have Ho1 := hid ho1
          have Ho2 := hid ho2
          have HA1 := hid hA1
          have HA2 := hid hA2
          clear ho1 ho2 hbd hA1 hA2
          cases o1
          ·cases o2
           ·go_wp2_with fail
            refine (Ho1.out _).mono ?_
            rintro e w5 ⟨rfl, hb5⟩
            have s00 := keepcell hb5 r00
            have s01 := keepcell hb5 r01
            have s10 := keepcell hb5 r10
            have s11 := keepcell hb5 r11
            have s20 := keepcell hb5 r20
            have s21 := keepcell hb5 r21
            have s30 := keepcell hb5 r30
            have s31 := keepcell hb5 r31
            go_wp2_with fail
            refine (Ho2.out _).mono ?_
            rintro e w6 ⟨rfl, hb6⟩
            have t00 := keepcell hb6 s00
            have t01 := keepcell hb6 s01
            have t10 := keepcell hb6 s10
            have t11 := keepcell hb6 s11
            have t20 := keepcell hb6 s20
            have t21 := keepcell hb6 s21
            have t30 := keepcell hb6 s30
            have t31 := keepcell hb6 s31
            go_wp2_with fail
            go_roundw
            case rel => exact ⟨k + 1, by go_num, by omega, by omega, by (with_reducible repeat (first | exact Below.refl _ _ | assumption | (refine btrans ?_ (by assumption)) | refine bdrew ?_ | refine balloc ?_ _)), t00, t01, t10, t11, hid (by rw [Hin.out]; simp)⟩
            case measure => simp [intOf]; omega
           ·go_wp2_with fail
            refine (Ho1.out _).mono ?_
            rintro e w5 ⟨rfl, hb5⟩
            have s00 := keepcell hb5 r00
            have s01 := keepcell hb5 r01
            have s10 := keepcell hb5 r10
            have s11 := keepcell hb5 r11
            have s20 := keepcell hb5 r20
            have s21 := keepcell hb5 r21
            have s30 := keepcell hb5 r30
            have s31 := keepcell hb5 r31
            go_wp2_with fail
            refine (Ho2.out _).mono ?_
            rintro e w6 ⟨rfl, hb6⟩
            go_wp2_with fail
            go_ret
            exact ⟨by rw [Hv.out, spec_mono (show specTo ps (i + 1) = false by rw [Hsp.out, specIn_mono (show specIn ps i (k + 1 - (i + 1)) = false by rw [Hin.out]; simp) _ (by omega)]; simp) _ (by omega)]; rfl, by (with_reducible repeat (first | exact Below.refl _ _ | assumption | (refine btrans ?_ (by assumption)) | refine bdrew ?_ | refine balloc ?_ _))⟩
          ·go_wp2_with fail
           refine (Ho1.out _).mono ?_
           rintro e w5 ⟨rfl, hb5⟩
           go_wp2_with fail
           go_ret
           exact ⟨by rw [Hv.out, spec_mono (show specTo ps (i + 1) = false by rw [Hsp.out, specIn_mono (show specIn ps i (k + 1 - (i + 1)) = false by rw [Hin.out]; simp) _ (by omega)]; simp) _ (by omega)]; rfl, by (with_reducible repeat (first | exact Below.refl _ _ | assumption | (refine btrans ?_ (by assumption)) | refine bdrew ?_ | refine balloc ?_ _))⟩
         ·have hbd : badc ps.length i k x y u v z t p q = smeet x y u v z t p q := by unfold badc; rw [if_neg hA1, if_neg hA2]
          rw [hbd] at Hin
          have ho1 := fun w' => spec_sides_in x y u v z t p q ix iy iu iv iz it ip iq w'
          generalize smeet x y u v z t p q = o1 at *
          have Ho1 := hid ho1
          clear ho1 hbd
          by_cases hi0 : i = 0
          ·have hc2 : ((i : Int) == 0) = true := by rw [beq_iff_eq]; omega
           have hc3 : ((k : Int) == (ps.length : Int) - 1) = false := by rw [beq_eq_false_iff_ne]; omega
           have HI0 := hid hi0
           clear hi0 hA1 hA2
           cases o1
           ·go_wp2_with fail
            refine (Ho1.out _).mono ?_
            rintro e w6 ⟨rfl, hb6⟩
            have t00 := keepcell hb6 r00
            have t01 := keepcell hb6 r01
            have t10 := keepcell hb6 r10
            have t11 := keepcell hb6 r11
            have t20 := keepcell hb6 r20
            have t21 := keepcell hb6 r21
            have t30 := keepcell hb6 r30
            have t31 := keepcell hb6 r31
            go_wp2_with fail
            go_roundw
            case rel => exact ⟨k + 1, by go_num, by omega, by omega, by (with_reducible repeat (first | exact Below.refl _ _ | assumption | (refine btrans ?_ (by assumption)) | refine bdrew ?_ | refine balloc ?_ _)), t00, t01, t10, t11, hid (by rw [Hin.out]; simp)⟩
            case measure => simp [intOf]; omega
           ·go_wp2_with fail
            refine (Ho1.out _).mono ?_
            rintro e w6 ⟨rfl, hb6⟩
            go_wp2_with fail
            go_ret
            exact ⟨by rw [Hv.out, spec_mono (show specTo ps (i + 1) = false by rw [Hsp.out, specIn_mono (show specIn ps i (k + 1 - (i + 1)) = false by rw [Hin.out]; simp) _ (by omega)]; simp) _ (by omega)]; rfl, by (with_reducible repeat (first | exact Below.refl _ _ | assumption | (refine btrans ?_ (by assumption)) | refine bdrew ?_ | refine balloc ?_ _))⟩
          ·have hc2 : ((i : Int) == 0) = false := by rw [beq_eq_false_iff_ne]; omega
           skip
           have HI0 := hid hi0
           clear hi0 hA1 hA2
           cases o1
           ·go_wp2_with fail
            refine (Ho1.out _).mono ?_
            rintro e w6 ⟨rfl, hb6⟩
            have t00 := keepcell hb6 r00
            have t01 := keepcell hb6 r01
            have t10 := keepcell hb6 r10
            have t11 := keepcell hb6 r11
            have t20 := keepcell hb6 r20
            have t21 := keepcell hb6 r21
            have t30 := keepcell hb6 r30
            have t31 := keepcell hb6 r31
            go_wp2_with fail
            go_roundw
            case rel => exact ⟨k + 1, by go_num, by omega, by omega, by (with_reducible repeat (first | exact Below.refl _ _ | assumption | (refine btrans ?_ (by assumption)) | refine bdrew ?_ | refine balloc ?_ _)), t00, t01, t10, t11, hid (by rw [Hin.out]; simp)⟩
            case measure => simp [intOf]; omega
           ·go_wp2_with fail
            refine (Ho1.out _).mono ?_
            rintro e w6 ⟨rfl, hb6⟩
            go_wp2_with fail
            go_ret
            exact ⟨by rw [Hv.out, spec_mono (show specTo ps (i + 1) = false by rw [Hsp.out, specIn_mono (show specIn ps i (k + 1 - (i + 1)) = false by rw [Hin.out]; simp) _ (by omega)]; simp) _ (by omega)]; rfl, by (with_reducible repeat (first | exact Below.refl _ _ | assumption | (refine btrans ?_ (by assumption)) | refine bdrew ?_ | refine balloc ?_ _))⟩
      ·have hkl' : ¬ ((k : Int) < (ps.length : Int)) := by omega
       go_wp2_with fail
       go_roundw
       case rel => exact ⟨i + 1, by go_num, by omega, hb, hid (by rw [Hsp.out, specIn_at HI.out (by omega)]; rfl)⟩
       case measure => simp [intOf]; omega
  ·obtain rfl : i = ps.length := by omega
   go_wp2_with fail
   go_ret
   exact ⟨by rw [Hv.out, H.out]; rfl, hb⟩
end Go.Proofs.YtenlhgnobfadgaaGreatDoor
