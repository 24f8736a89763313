/- Texts of stores, joined: Ring3, ShapeOk, ShapeSp. -/
import Derived.Test.YtjafahhoihlliaaGreatDoorJ23
namespace Go.Proofs.YtjafahhoihlliaaGreatDoor
open Go.RowKit
set_option linter.unusedSimpArgs false
set_option linter.unusedVariables false
def badc (n i k : Nat) (x y u v z t p q : Int) : Bool := if k = i + 1 then (onb p q x y u v || onb x y z t p q) else if i = 0 ∧ k = n - 1 then (onb z t x y u v || onb u v z t p q) else smeet x y u v z t p q
def specC (ps : List (Int × Int)) (i k : Nat) : Bool := badc ps.length i k (ps.getD i (0, 0)).1 (ps.getD i (0, 0)).2 (nxt ps i).1 (nxt ps i).2 (ps.getD k (0, 0)).1 (ps.getD k (0, 0)).2 (nxt ps k).1 (nxt ps k).2
def specIn (ps : List (Int × Int)) (i : Nat) : Nat → Bool
  | 0 => true
  | m + 1 => specIn ps i m && !specC ps i (i + 1 + m)
def specTo (ps : List (Int × Int)) : Nat → Bool
  | 0 => true
  | i + 1 => specTo ps i && (!((ps.getD i (0, 0)).1 == (nxt ps i).1 && (ps.getD i (0, 0)).2 == (nxt ps i).2) && specIn ps i (ps.length - (i + 1)))
def ringOk (ps : List (Int × Int)) : Bool := decide (3 ≤ ps.length) && decide (ps.length ≤ 60) && decide (0 < area2 ps) && specTo ps ps.length
theorem specIn_step {ps : List (Int × Int)} {i j : Nat} (h : i + 1 ≤ j) : specIn ps i (j + 1 - (i + 1)) = (specIn ps i (j - (i + 1)) && !specC ps i j) := by
  rw [show j + 1 - (i + 1) = (j - (i + 1)) + 1 by omega, specIn, show i + 1 + (j - (i + 1)) = j by omega]
theorem specIn_at {ps : List (Int × Int)} {i m n : Nat} (h : specIn ps i n = true) (e : m = n) : specIn ps i m = true := by rw [e]; exact h
theorem specIn_mono {ps : List (Int × Int)} {i k : Nat} (h : specIn ps i k = false) : ∀ m, k ≤ m → specIn ps i m = false
  | 0, hm => by obtain rfl : k = 0 := by omega
                exact h
  | m + 1, hm => by
    by_cases e : k = m + 1
    · subst e; exact h
    · rw [specIn, specIn_mono h m (by omega)]; rfl
theorem spec_mono {ps : List (Int × Int)} {k : Nat} (h : specTo ps k = false) : ∀ m, k ≤ m → specTo ps m = false
  | 0, hm => by obtain rfl : k = 0 := by omega
                exact h
  | m + 1, hm => by
    by_cases e : k = m + 1
    · subst e; exact h
    · rw [specTo, spec_mono h m (by omega)]; rfl
theorem spec_sides_in (ax ay bx bY cx cy dx dy : Int) (h1 : In ax) (h2 : In ay) (h3 : In bx) (h4 : In bY) (h5 : In cx) (h6 : In cy) (h7 : In dx) (h8 : In dy) (w : World) : Calls Tryz.prog 60 #[.agg #[.int .i64 ax, .int .i64 ay], .agg #[.int .i64 bx, .int .i64 bY], .agg #[.int .i64 cx, .int .i64 cy], .agg #[.int .i64 dx, .int .i64 dy]] w fun e w' => e = .returned (.bool (smeet ax ay bx bY cx cy dx dy)) ∧ Below w.heap.size w w' := by
  have h := spec_SidesMeet ax ay bx bY cx cy dx dy w
  have hk : allok [(ax, ay), (bx, bY), (cx, cy), (dx, dy)] = true := by
    simp [allok, pok_of_in h1 h2, pok_of_in h3 h4, pok_of_in h5 h6, pok_of_in h7 h8]
  rw [hk, Bool.true_and] at h
  exact h
set_option maxRecDepth 20000 in
set_option maxHeartbeats 4000000 in
theorem spec_ring (a : Option Addr) (cap : Nat) (ps : List (Int × Int)) (w : World) (hm : ps.length ≤ 1099511627776) (hc : ps.length ≤ cap) (ha : allok ps = true) (h : Pts w a ps) : Calls Tryz.prog 36 #[.slice a ps.length cap] w fun e w' => e = .returned (.bool (ringOk ps)) ∧ Below w.heap.size w w' := by
  have Ha := hid ha
  have Hh := hid h
  clear ha h
  cases h3 : (decide ((3 : Int) ≤ (ps.length : Int)) && decide ((ps.length : Int) ≤ 60))
  · have hv : ringOk ps = false := by
      unfold ringOk
      rw [show (decide (3 ≤ ps.length) && decide (ps.length ≤ 60)) = false by rw [← h3]; congr 1 <;> (rw [decide_eq_decide]; omega)]; rfl
    have h3' := hid h3
    have hin := fun w' => inn_calls (ps.length : Int) 3 60 w'
    rw [h3] at hin
    have Hin := hid hin
    clear hin h3
    go_enter Tryz.func36, Tryz.ntmps36
    go_wp2_with fail
    refine (Hin.out _).mono ?_
    rintro e w1 ⟨rfl, hw⟩
    replace hw := hw.symm
    subst hw
    go_wp2_with fail
    go_ret
    exact ⟨by rw [hv]; rfl, Below.refl _ _⟩
  have hb60 : 3 ≤ ps.length ∧ ps.length ≤ 60 := by
    simp only [Bool.and_eq_true, decide_eq_true_eq] at h3; omega
  have hin := fun w' => inn_calls (ps.length : Int) 3 60 w'
  rw [h3] at hin
  have Hin3 := hid hin
  clear hin h3
  have har := spec_Area2 a cap ps w hm hc Hh.out
  by_cases hA : area2 ps ≤ 0
  · have hv : ringOk ps = false := by
      unfold ringOk
      rw [decide_eq_false (show ¬ 0 < area2 ps by omega), Bool.and_false]; rfl
    generalize area2 ps = A at *
    have Har := hid har
    clear har
    go_enter Tryz.func36, Tryz.ntmps36
    go_wp2_with fail
    refine (Hin3.out _).mono ?_
    rintro e w1 ⟨rfl, hw⟩
    replace hw := hw.symm
    subst hw
    go_wp2_with fail
    refine (Har.out).mono ?_
    rintro e w2 ⟨rfl, hb2⟩
    go_wp2_with fail
    go_ret
    exact ⟨by rw [hv]; rfl, hb2⟩
  have hv : ringOk ps = specTo ps ps.length := by
    unfold ringOk
    rw [decide_eq_true hb60.1, decide_eq_true hb60.2, decide_eq_true (show 0 < area2 ps by omega)]; rfl
  have Hv := hid hv
  generalize area2 ps = A at *
  have Har := hid har
  clear har hv
  obtain ⟨hn3, hn60⟩ := hb60
  obtain ⟨b, off, rfl, hbs, hq⟩ : ∃ b off, a = some ⟨b, off, none⟩ ∧ b < w.heap.size ∧ PtsAt w b off ps := by
    rcases Hh.out with h | h
    · rw [h] at hn3; simp at hn3
    · exact h
  have Hq := hid hq
  clear hq
  have hn3i : (3 : Int) ≤ (ps.length : Int) := by omega
  have hn6i : (ps.length : Int) ≤ 60 := by omega
  go_enter Tryz.func36, Tryz.ntmps36
  go_wp2_with fail
  refine (Hin3.out _).mono ?_
  rintro e w1 ⟨rfl, hw⟩
  replace hw := hw.symm
  subst hw
  go_wp2_with fail
  refine (Har.out).mono ?_
  rintro e w2 ⟨rfl, hb2⟩
  go_wp2_with fail
  go_loopw [4] (fun ti wr => ∃ i : Nat, ti = .int .i64 i ∧ i ≤ ps.length ∧ Below w.heap.size w wr ∧ Hid (specTo ps i = true)) (fun ti _ => ps.length - (intOf ti).toNat)
  case atStart => exact ⟨0, rfl, Nat.zero_le _, hb2, hid rfl⟩
  case round =>
    clear hb2 Har Hin3
    obtain ⟨i, rfl, hi, hb, H⟩ := hrel
    by_cases hlt : i < ps.length
    · obtain ⟨c0, c1⟩ := Hq.out.below hbs hb i hlt
      have hj : (i + 1) % ps.length < ps.length := Nat.mod_lt _ (by omega)
      obtain ⟨d0, d1⟩ := Hq.out.below hbs hb _ hj
      have e1 : ((i : Int) + 1).tmod (ps.length : Int) = (((i + 1) % ps.length : Nat) : Int) := by
        rw [show ((i : Int) + 1) = ((i + 1 : Nat) : Int) by omega]; rfl
      have hz : ¬ ((ps.length : Int) = 0) := by omega
      have hz1 : ¬ ps = [] := by rintro rfl; simp at hlt
      have hz2 : ¬ ps.length = 0 := by omega
      have e3 : nxt ps i = ps.getD ((i + 1) % ps.length) (0, 0) := rfl
      rw [← e3] at d0 d1
      clear e3
      obtain ⟨ix, iy⟩ := allok_in Ha.out i hlt
      obtain ⟨iu, iv⟩ := nxt_in Ha.out i hlt
      have hsp : specTo ps (i + 1) = (specTo ps i && (!((ps.getD i (0, 0)).1 == (nxt ps i).1 && (ps.getD i (0, 0)).2 == (nxt ps i).2) && specIn ps i (ps.length - (i + 1)))) := rfl
      rw [H.out, Bool.true_and] at hsp
      have hcc : ∀ k, specC ps i k = badc ps.length i k (ps.getD i (0, 0)).1 (ps.getD i (0, 0)).2 (nxt ps i).1 (nxt ps i).2 (ps.getD k (0, 0)).1 (ps.getD k (0, 0)).2 (nxt ps k).1 (nxt ps k).2 := fun k => rfl
      generalize (ps.getD i (0, 0)).1 = x at *
      generalize (ps.getD i (0, 0)).2 = y at *
      generalize (nxt ps i).1 = u at *
      generalize (nxt ps i).2 = v at *
      generalize (i + 1) % ps.length = j at *
      have Hsp := hid hsp
      have Hcc := hid hcc
      clear hsp hcc
      have hk0 : (0 : Int) ≤ (i : Int) := by omega
      have hk1 : (i : Int) < (ps.length : Int) := by omega
      have hj0 : (0 : Int) ≤ (j : Int) := by omega
      have hj1 : (j : Int) < (ps.length : Int) := by omega
      have hadd : IntKind.i64.wrap ((i : Int) + 1) = (i : Int) + 1 := by rw [IntKind.wrap_i64]; omega
      go_wp2_with fail
      go_cut [5, 6] (fun t7 t8 wx => ∃ ba bb : Nat, t7 = .pointer (some ⟨ba, 0, none⟩) ∧ t8 = .pointer (some ⟨bb, 0, none⟩) ∧ Below w.heap.size w wx ∧ wx.heap[ba]? = some (.cells #[.int .i64 x, .int .i64 y] 44 (0, 0)) ∧ wx.heap[bb]? = some (.cells #[.int .i64 u, .int .i64 v] 44 (0, 0)))
      case first =>
        go_region_held3 (fun w' => w'.cell? ⟨b, off + i * 2, none⟩ = some (.int .i64 x) ∧ w'.cell? ⟨b, off + i * 2 + 1, none⟩ = some (.int .i64 y) ∧ w'.cell? ⟨b, off + j * 2, none⟩ = some (.int .i64 u) ∧ w'.cell? ⟨b, off + j * 2 + 1, none⟩ = some (.int .i64 v)) ((go_split_ands; (repeat' apply And.intro) <;> (repeat (first | with_reducible assumption | (refine newcell _ _ _ _ _ _ ?_ rfl; simp; done) | refine keepcell (by with_reducible assumption) ?_ | refine keepdrew ?_ | refine keepalloc ?_ _))))
          (first
            | (fail))
        all_goals
          go_wp2_with fail
          go_meet
          first
            | exact ⟨_, _, rfl, rfl, by (repeat (first | with_reducible exact Below.refl _ _ | with_reducible assumption | (with_reducible refine btrans ?_ (by with_reducible assumption)) | with_reducible refine bdrew ?_ | with_reducible refine balloc ?_ _)), old_alloc (new_alloc _ _ _ (by simp)), new_alloc _ _ _ (by simp)⟩
            | exact ⟨_, _, rfl, rfl, by (repeat (first | with_reducible exact Below.refl _ _ | with_reducible assumption | (with_reducible refine btrans ?_ (by with_reducible assumption)) | with_reducible refine bdrew ?_ | with_reducible refine balloc ?_ _)), new_alloc _ _ _ (by simp), old_alloc (new_alloc _ _ _ (by simp))⟩
      case rest =>
        clear c0 c1 d0 d1 e1 hb
        obtain ⟨ba, bb, rfl, rfl, hb, ga, gb⟩ := hcut
        obtain ⟨r00, r01, _, _⟩ := cell2f ga
        obtain ⟨r10, r11, _, _⟩ := cell2f gb
        clear ga gb
        have hlast : ∀ e : Bool, e = (x == u && y == v) → Hid (specTo ps (i + 1) = (!e && specIn ps i (ps.length - (i + 1)))) := by
          rintro e rfl; exact Hsp
        by_cases hxy : x = u ∧ y = v
        · obtain ⟨rfl, rfl⟩ := hxy
          have Hsp2 := hlast true (by simp)
          clear Hsp hlast
          go_wp2_with fail
          go_ret
          exact ⟨by rw [Hv.out, spec_mono (show specTo ps (i + 1) = false by rw [Hsp2.out]; rfl) _ (by omega)]; rfl, hb⟩
        have Hsp2 := hlast false (by symm; rw [Bool.and_eq_false_iff, beq_eq_false_iff_ne, beq_eq_false_iff_ne]; by_cases e : x = u; exact .inr (fun e' => hxy ⟨e, e'⟩); exact .inl e)
        clear Hsp hlast
        have Hsp := Hsp2
        clear Hsp2
        by_cases hx : x = u
        · subst hx
          have hy : ¬ y = v := fun e => hxy ⟨rfl, e⟩
          have hy' : (y == v) = false := by rw [beq_eq_false_iff_ne]; exact hy
          clear hxy
          go_wp2_with fail
          go_loopw [7] (fun tk wv => ∃ k : Nat, tk = .int .i64 k ∧ i + 1 ≤ k ∧ k ≤ ps.length ∧ Below w.heap.size w wv ∧ wv.cell? ⟨ba, 0, none⟩ = some (.int .i64 x) ∧ wv.cell? ⟨ba, 1, none⟩ = some (.int .i64 y) ∧ wv.cell? ⟨bb, 0, none⟩ = some (.int .i64 x) ∧ wv.cell? ⟨bb, 1, none⟩ = some (.int .i64 v) ∧ Hid (specIn ps i (k - (i + 1)) = true)) (fun tk _ => ps.length - (intOf tk).toNat)
          case atStart => exact ⟨i + 1, by go_num, Nat.le_refl _, by omega, hb, r00, r01, r10, r11, hid (by rw [Nat.sub_self]; rfl)⟩
          case round =>
            clear hb r00 r01 r10 r11 hj0 hj1 hadd
            obtain ⟨k, rfl, hk, hkn, hb, r00, r01, r10, r11, HI⟩ := hrel
            by_cases hkl : k < ps.length
            · obtain ⟨c0, c1⟩ := Hq.out.below hbs hb k hkl
              have hjk : (k + 1) % ps.length < ps.length := Nat.mod_lt _ (by omega)
              obtain ⟨d0, d1⟩ := Hq.out.below hbs hb _ hjk
              have e1 : ((k : Int) + 1).tmod (ps.length : Int) = (((k + 1) % ps.length : Nat) : Int) := by
                rw [show ((k : Int) + 1) = ((k + 1 : Nat) : Int) by omega]; rfl
              have e3 : nxt ps k = ps.getD ((k + 1) % ps.length) (0, 0) := rfl
              rw [← e3] at d0 d1
              clear e3
              obtain ⟨iz, it⟩ := allok_in Ha.out k hkl
              obtain ⟨ip, iq⟩ := nxt_in Ha.out k hkl
              have hin := specIn_step (ps := ps) hk
              rw [HI.out, Bool.true_and, Hcc.out k] at hin
              generalize (ps.getD k (0, 0)).1 = z at *
              generalize (ps.getD k (0, 0)).2 = t at *
              generalize (nxt ps k).1 = p at *
              generalize (nxt ps k).2 = q at *
              generalize (k + 1) % ps.length = l at *
              have Hin := hid hin
              clear hin
              have hk0' : (0 : Int) ≤ (k : Int) := by omega
              have hk1' : (k : Int) < (ps.length : Int) := by omega
              have hl0 : (0 : Int) ≤ (l : Int) := by omega
              have hl1 : (l : Int) < (ps.length : Int) := by omega
              have hadd : IntKind.i64.wrap ((k : Int) + 1) = (k : Int) + 1 := by rw [IntKind.wrap_i64]; omega
              have Hb0 := hb
              go_wp2_with fail
              go_cut [8, 9] (fun t8 t9 wx => ∃ bc bd : Nat, t8 = .pointer (some ⟨bc, 0, none⟩) ∧ t9 = .pointer (some ⟨bd, 0, none⟩) ∧ Below w.heap.size w wx ∧ wx.heap[bc]? = some (.cells #[.int .i64 z, .int .i64 t] 44 (0, 0)) ∧ wx.heap[bd]? = some (.cells #[.int .i64 p, .int .i64 q] 44 (0, 0)) ∧ wx.cell? ⟨ba, 0, none⟩ = some (.int .i64 x) ∧ wx.cell? ⟨ba, 1, none⟩ = some (.int .i64 y) ∧ wx.cell? ⟨bb, 0, none⟩ = some (.int .i64 x) ∧ wx.cell? ⟨bb, 1, none⟩ = some (.int .i64 v))
              case first =>
                go_region_held3 (fun w' => w'.cell? ⟨b, off + k * 2, none⟩ = some (.int .i64 z) ∧ w'.cell? ⟨b, off + k * 2 + 1, none⟩ = some (.int .i64 t) ∧ w'.cell? ⟨b, off + l * 2, none⟩ = some (.int .i64 p) ∧ w'.cell? ⟨b, off + l * 2 + 1, none⟩ = some (.int .i64 q)) ((go_split_ands; (repeat' apply And.intro) <;> (repeat (first | with_reducible assumption | (refine newcell _ _ _ _ _ _ ?_ rfl; simp; done) | refine keepcell (by with_reducible assumption) ?_ | refine keepdrew ?_ | refine keepalloc ?_ _))))
                  (first
                    | (fail))
                all_goals
                  go_wp2_with fail
                  go_meet
                  first
                    | exact ⟨_, _, rfl, rfl, by (repeat (first | with_reducible exact Below.refl _ _ | with_reducible assumption | (with_reducible refine btrans ?_ (by with_reducible assumption)) | with_reducible refine bdrew ?_ | with_reducible refine balloc ?_ _)), old_alloc (new_alloc _ _ _ (by simp)), new_alloc _ _ _ (by simp), by (repeat (first | with_reducible assumption | with_reducible refine keepset ?_ (by dsimp only; omega) | with_reducible refine keepdrew ?_ | with_reducible refine keepcell (by with_reducible assumption) ?_ | with_reducible refine keepalloc ?_ _)), by (repeat (first | with_reducible assumption | with_reducible refine keepset ?_ (by dsimp only; omega) | with_reducible refine keepdrew ?_ | with_reducible refine keepcell (by with_reducible assumption) ?_ | with_reducible refine keepalloc ?_ _)), by (repeat (first | with_reducible assumption | with_reducible refine keepset ?_ (by dsimp only; omega) | with_reducible refine keepdrew ?_ | with_reducible refine keepcell (by with_reducible assumption) ?_ | with_reducible refine keepalloc ?_ _)), by (repeat (first | with_reducible assumption | with_reducible refine keepset ?_ (by dsimp only; omega) | with_reducible refine keepdrew ?_ | with_reducible refine keepcell (by with_reducible assumption) ?_ | with_reducible refine keepalloc ?_ _))⟩
                    | exact ⟨_, _, rfl, rfl, by (repeat (first | with_reducible exact Below.refl _ _ | with_reducible assumption | (with_reducible refine btrans ?_ (by with_reducible assumption)) | with_reducible refine bdrew ?_ | with_reducible refine balloc ?_ _)), new_alloc _ _ _ (by simp), old_alloc (new_alloc _ _ _ (by simp)), by (repeat (first | with_reducible assumption | with_reducible refine keepset ?_ (by dsimp only; omega) | with_reducible refine keepdrew ?_ | with_reducible refine keepcell (by with_reducible assumption) ?_ | with_reducible refine keepalloc ?_ _)), by (repeat (first | with_reducible assumption | with_reducible refine keepset ?_ (by dsimp only; omega) | with_reducible refine keepdrew ?_ | with_reducible refine keepcell (by with_reducible assumption) ?_ | with_reducible refine keepalloc ?_ _)), by (repeat (first | with_reducible assumption | with_reducible refine keepset ?_ (by dsimp only; omega) | with_reducible refine keepdrew ?_ | with_reducible refine keepcell (by with_reducible assumption) ?_ | with_reducible refine keepalloc ?_ _)), by (repeat (first | with_reducible assumption | with_reducible refine keepset ?_ (by dsimp only; omega) | with_reducible refine keepdrew ?_ | with_reducible refine keepcell (by with_reducible assumption) ?_ | with_reducible refine keepalloc ?_ _))⟩
              case rest =>
                clear c0 c1 d0 d1 e1 hb r00 r01 r10 r11 Hb0 hl0 hl1 hadd
                obtain ⟨bc, bd, rfl, rfl, hb, gc, gd, r00, r01, r10, r11⟩ := hcut
                obtain ⟨r20, r21, _, _⟩ := cell2f gc
                obtain ⟨r30, r31, _, _⟩ := cell2f gd
                clear gc gd
                by_cases hA1 : k = i + 1
                · have hc1 : ((k : Int) == (i : Int) + 1) = true := by rw [beq_iff_eq]; omega
                  have hbd : badc ps.length i k x y x v z t p q = (onb p q x y x v || onb x y z t p q) := by unfold badc; rw [if_pos hA1]
                  rw [hbd] at Hin
                  have ho1 := fun w' => spec_onside_in p q x y x v ip iq ix iy iu iv w'
                  have ho2 := fun w' => spec_onside_in x y z t p q ix iy iz it ip iq w'
                  generalize onb p q x y x v = o1 at *
                  generalize onb x y z t p q = o2 at *
                  have Ho1 := hid ho1
                  have Ho2 := hid ho2
                  have HA1 := hid hA1
                  clear ho1 ho2 hbd hA1
                  cases o1
                  · cases o2
                    · go_wp2_with fail
                      refine (Ho1.out _).mono ?_
                      rintro e w5 ⟨rfl, hb5⟩
                      have s00 := keepcell hb5 r00
                      have s01 := keepcell hb5 r01
                      have s10 := keepcell hb5 r10
                      have s11 := keepcell hb5 r11
                      have s20 := keepcell hb5 r20
                      have s21 := keepcell hb5 r21
                      have s30 := keepcell hb5 r30
                      have s31 := keepcell hb5 r31
                      go_wp2_with fail
                      refine (Ho2.out _).mono ?_
                      rintro e w6 ⟨rfl, hb6⟩
                      have t00 := keepcell hb6 s00
                      have t01 := keepcell hb6 s01
                      have t10 := keepcell hb6 s10
                      have t11 := keepcell hb6 s11
                      have t20 := keepcell hb6 s20
                      have t21 := keepcell hb6 s21
                      have t30 := keepcell hb6 s30
                      have t31 := keepcell hb6 s31
                      go_wp2_with fail
                      go_roundw
                      case rel => exact ⟨k + 1, by go_num, by omega, by omega, by (repeat (first | with_reducible exact Below.refl _ _ | with_reducible assumption | (with_reducible refine btrans ?_ (by with_reducible assumption)) | with_reducible refine bdrew ?_ | with_reducible refine balloc ?_ _)), t00, t01, t10, t11, hid (by rw [Hin.out]; simp)⟩
                      case measure => simp [intOf]; omega
                    · go_wp2_with fail
                      refine (Ho1.out _).mono ?_
                      rintro e w5 ⟨rfl, hb5⟩
                      have s00 := keepcell hb5 r00
                      have s01 := keepcell hb5 r01
                      have s10 := keepcell hb5 r10
                      have s11 := keepcell hb5 r11
                      have s20 := keepcell hb5 r20
                      have s21 := keepcell hb5 r21
                      have s30 := keepcell hb5 r30
                      have s31 := keepcell hb5 r31
                      go_wp2_with fail
                      refine (Ho2.out _).mono ?_
                      rintro e w6 ⟨rfl, hb6⟩
                      go_wp2_with fail
                      go_ret
                      exact ⟨by rw [Hv.out, spec_mono (show specTo ps (i + 1) = false by rw [Hsp.out, specIn_mono (show specIn ps i (k + 1 - (i + 1)) = false by rw [Hin.out]; simp) _ (by omega)]; simp) _ (by omega)]; rfl, by (repeat (first | with_reducible exact Below.refl _ _ | with_reducible assumption | (with_reducible refine btrans ?_ (by with_reducible assumption)) | with_reducible refine bdrew ?_ | with_reducible refine balloc ?_ _))⟩
                  · go_wp2_with fail
                    refine (Ho1.out _).mono ?_
                    rintro e w5 ⟨rfl, hb5⟩
                    go_wp2_with fail
                    go_ret
                    exact ⟨by rw [Hv.out, spec_mono (show specTo ps (i + 1) = false by rw [Hsp.out, specIn_mono (show specIn ps i (k + 1 - (i + 1)) = false by rw [Hin.out]; simp) _ (by omega)]; simp) _ (by omega)]; rfl, by (repeat (first | with_reducible exact Below.refl _ _ | with_reducible assumption | (with_reducible refine btrans ?_ (by with_reducible assumption)) | with_reducible refine bdrew ?_ | with_reducible refine balloc ?_ _))⟩
                · have hc1 : ((k : Int) == (i : Int) + 1) = false := by rw [beq_eq_false_iff_ne]; omega
                  by_cases hA2 : i = 0 ∧ k = ps.length - 1
                  · have hc2 : ((i : Int) == 0) = true := by rw [beq_iff_eq]; omega
                    have hc3 : ((k : Int) == (ps.length : Int) - 1) = true := by rw [beq_iff_eq]; omega
                    have hbd : badc ps.length i k x y x v z t p q = (onb z t x y x v || onb x v z t p q) := by unfold badc; rw [if_neg hA1, if_pos hA2]
                    rw [hbd] at Hin
                    have ho1 := fun w' => spec_onside_in z t x y x v iz it ix iy iu iv w'
                    have ho2 := fun w' => spec_onside_in x v z t p q iu iv iz it ip iq w'
                    generalize onb z t x y x v = o1 at *
                    generalize onb x v z t p q = o2 at *
                    have Ho1 := hid ho1
                    have Ho2 := hid ho2
                    have HA1 := hid hA1
                    have HA2 := hid hA2
                    clear ho1 ho2 hbd hA1 hA2
                    cases o1
                    · cases o2
                      · go_wp2_with fail
                        refine (Ho1.out _).mono ?_
                        rintro e w5 ⟨rfl, hb5⟩
                        have s00 := keepcell hb5 r00
                        have s01 := keepcell hb5 r01
                        have s10 := keepcell hb5 r10
                        have s11 := keepcell hb5 r11
                        have s20 := keepcell hb5 r20
                        have s21 := keepcell hb5 r21
                        have s30 := keepcell hb5 r30
                        have s31 := keepcell hb5 r31
                        go_wp2_with fail
                        refine (Ho2.out _).mono ?_
                        rintro e w6 ⟨rfl, hb6⟩
                        have t00 := keepcell hb6 s00
                        have t01 := keepcell hb6 s01
                        have t10 := keepcell hb6 s10
                        have t11 := keepcell hb6 s11
                        have t20 := keepcell hb6 s20
                        have t21 := keepcell hb6 s21
                        have t30 := keepcell hb6 s30
                        have t31 := keepcell hb6 s31
                        go_wp2_with fail
                        go_roundw
                        case rel => exact ⟨k + 1, by go_num, by omega, by omega, by (repeat (first | with_reducible exact Below.refl _ _ | with_reducible assumption | (with_reducible refine btrans ?_ (by with_reducible assumption)) | with_reducible refine bdrew ?_ | with_reducible refine balloc ?_ _)), t00, t01, t10, t11, hid (by rw [Hin.out]; simp)⟩
                        case measure => simp [intOf]; omega
                      · go_wp2_with fail
                        refine (Ho1.out _).mono ?_
                        rintro e w5 ⟨rfl, hb5⟩
                        have s00 := keepcell hb5 r00
                        have s01 := keepcell hb5 r01
                        have s10 := keepcell hb5 r10
                        have s11 := keepcell hb5 r11
                        have s20 := keepcell hb5 r20
                        have s21 := keepcell hb5 r21
                        have s30 := keepcell hb5 r30
                        have s31 := keepcell hb5 r31
                        go_wp2_with fail
                        refine (Ho2.out _).mono ?_
                        rintro e w6 ⟨rfl, hb6⟩
                        go_wp2_with fail
                        go_ret
                        exact ⟨by rw [Hv.out, spec_mono (show specTo ps (i + 1) = false by rw [Hsp.out, specIn_mono (show specIn ps i (k + 1 - (i + 1)) = false by rw [Hin.out]; simp) _ (by omega)]; simp) _ (by omega)]; rfl, by (repeat (first | with_reducible exact Below.refl _ _ | with_reducible assumption | (with_reducible refine btrans ?_ (by with_reducible assumption)) | with_reducible refine bdrew ?_ | with_reducible refine balloc ?_ _))⟩
                    · go_wp2_with fail
                      refine (Ho1.out _).mono ?_
                      rintro e w5 ⟨rfl, hb5⟩
                      go_wp2_with fail
                      go_ret
                      exact ⟨by rw [Hv.out, spec_mono (show specTo ps (i + 1) = false by rw [Hsp.out, specIn_mono (show specIn ps i (k + 1 - (i + 1)) = false by rw [Hin.out]; simp) _ (by omega)]; simp) _ (by omega)]; rfl, by (repeat (first | with_reducible exact Below.refl _ _ | with_reducible assumption | (with_reducible refine btrans ?_ (by with_reducible assumption)) | with_reducible refine bdrew ?_ | with_reducible refine balloc ?_ _))⟩
                  · have hbd : badc ps.length i k x y x v z t p q = smeet x y x v z t p q := by unfold badc; rw [if_neg hA1, if_neg hA2]
                    rw [hbd] at Hin
                    have ho1 := fun w' => spec_sides_in x y x v z t p q ix iy iu iv iz it ip iq w'
                    generalize smeet x y x v z t p q = o1 at *
                    have Ho1 := hid ho1
                    clear ho1 hbd
                    by_cases hi0 : i = 0
                    · have hc2 : ((i : Int) == 0) = true := by rw [beq_iff_eq]; omega
                      have hc3 : ((k : Int) == (ps.length : Int) - 1) = false := by rw [beq_eq_false_iff_ne]; omega
                      have HI0 := hid hi0
                      clear hi0 hA1 hA2
                      cases o1
                      · go_wp2_with fail
                        refine (Ho1.out _).mono ?_
                        rintro e w6 ⟨rfl, hb6⟩
                        have t00 := keepcell hb6 r00
                        have t01 := keepcell hb6 r01
                        have t10 := keepcell hb6 r10
                        have t11 := keepcell hb6 r11
                        have t20 := keepcell hb6 r20
                        have t21 := keepcell hb6 r21
                        have t30 := keepcell hb6 r30
                        have t31 := keepcell hb6 r31
                        go_wp2_with fail
                        go_roundw
                        case rel => exact ⟨k + 1, by go_num, by omega, by omega, by (repeat (first | with_reducible exact Below.refl _ _ | with_reducible assumption | (with_reducible refine btrans ?_ (by with_reducible assumption)) | with_reducible refine bdrew ?_ | with_reducible refine balloc ?_ _)), t00, t01, t10, t11, hid (by rw [Hin.out]; simp)⟩
                        case measure => simp [intOf]; omega
                      · go_wp2_with fail
                        refine (Ho1.out _).mono ?_
                        rintro e w6 ⟨rfl, hb6⟩
                        go_wp2_with fail
                        go_ret
                        exact ⟨by rw [Hv.out, spec_mono (show specTo ps (i + 1) = false by rw [Hsp.out, specIn_mono (show specIn ps i (k + 1 - (i + 1)) = false by rw [Hin.out]; simp) _ (by omega)]; simp) _ (by omega)]; rfl, by (repeat (first | with_reducible exact Below.refl _ _ | with_reducible assumption | (with_reducible refine btrans ?_ (by with_reducible assumption)) | with_reducible refine bdrew ?_ | with_reducible refine balloc ?_ _))⟩
                    · have hc2 : ((i : Int) == 0) = false := by rw [beq_eq_false_iff_ne]; omega
                      skip
                      have HI0 := hid hi0
                      clear hi0 hA1 hA2
                      cases o1
                      · go_wp2_with fail
                        refine (Ho1.out _).mono ?_
                        rintro e w6 ⟨rfl, hb6⟩
                        have t00 := keepcell hb6 r00
                        have t01 := keepcell hb6 r01
                        have t10 := keepcell hb6 r10
                        have t11 := keepcell hb6 r11
                        have t20 := keepcell hb6 r20
                        have t21 := keepcell hb6 r21
                        have t30 := keepcell hb6 r30
                        have t31 := keepcell hb6 r31
                        go_wp2_with fail
                        go_roundw
                        case rel => exact ⟨k + 1, by go_num, by omega, by omega, by (repeat (first | with_reducible exact Below.refl _ _ | with_reducible assumption | (with_reducible refine btrans ?_ (by with_reducible assumption)) | with_reducible refine bdrew ?_ | with_reducible refine balloc ?_ _)), t00, t01, t10, t11, hid (by rw [Hin.out]; simp)⟩
                        case measure => simp [intOf]; omega
                      · go_wp2_with fail
                        refine (Ho1.out _).mono ?_
                        rintro e w6 ⟨rfl, hb6⟩
                        go_wp2_with fail
                        go_ret
                        exact ⟨by rw [Hv.out, spec_mono (show specTo ps (i + 1) = false by rw [Hsp.out, specIn_mono (show specIn ps i (k + 1 - (i + 1)) = false by rw [Hin.out]; simp) _ (by omega)]; simp) _ (by omega)]; rfl, by (repeat (first | with_reducible exact Below.refl _ _ | with_reducible assumption | (with_reducible refine btrans ?_ (by with_reducible assumption)) | with_reducible refine bdrew ?_ | with_reducible refine balloc ?_ _))⟩
            · have hkl' : ¬ ((k : Int) < (ps.length : Int)) := by omega
              go_wp2_with fail
              go_roundw
              case rel => exact ⟨i + 1, by go_num, by omega, hb, hid (by rw [Hsp.out, specIn_at HI.out (by omega)]; rfl)⟩
              case measure => simp [intOf]; omega
        · have hx' : (x == u) = false := by rw [beq_eq_false_iff_ne]; exact hx
          clear hxy
          go_wp2_with fail
          go_loopw [7] (fun tk wv => ∃ k : Nat, tk = .int .i64 k ∧ i + 1 ≤ k ∧ k ≤ ps.length ∧ Below w.heap.size w wv ∧ wv.cell? ⟨ba, 0, none⟩ = some (.int .i64 x) ∧ wv.cell? ⟨ba, 1, none⟩ = some (.int .i64 y) ∧ wv.cell? ⟨bb, 0, none⟩ = some (.int .i64 u) ∧ wv.cell? ⟨bb, 1, none⟩ = some (.int .i64 v) ∧ Hid (specIn ps i (k - (i + 1)) = true)) (fun tk _ => ps.length - (intOf tk).toNat)
          case atStart => exact ⟨i + 1, by go_num, Nat.le_refl _, by omega, hb, r00, r01, r10, r11, hid (by rw [Nat.sub_self]; rfl)⟩
          case round =>
            clear hb r00 r01 r10 r11 hj0 hj1 hadd
            obtain ⟨k, rfl, hk, hkn, hb, r00, r01, r10, r11, HI⟩ := hrel
            by_cases hkl : k < ps.length
            · obtain ⟨c0, c1⟩ := Hq.out.below hbs hb k hkl
              have hjk : (k + 1) % ps.length < ps.length := Nat.mod_lt _ (by omega)
              obtain ⟨d0, d1⟩ := Hq.out.below hbs hb _ hjk
              have e1 : ((k : Int) + 1).tmod (ps.length : Int) = (((k + 1) % ps.length : Nat) : Int) := by
                rw [show ((k : Int) + 1) = ((k + 1 : Nat) : Int) by omega]; rfl
              have e3 : nxt ps k = ps.getD ((k + 1) % ps.length) (0, 0) := rfl
              rw [← e3] at d0 d1
              clear e3
              obtain ⟨iz, it⟩ := allok_in Ha.out k hkl
              obtain ⟨ip, iq⟩ := nxt_in Ha.out k hkl
              have hin := specIn_step (ps := ps) hk
              rw [HI.out, Bool.true_and, Hcc.out k] at hin
              generalize (ps.getD k (0, 0)).1 = z at *
              generalize (ps.getD k (0, 0)).2 = t at *
              generalize (nxt ps k).1 = p at *
              generalize (nxt ps k).2 = q at *
              generalize (k + 1) % ps.length = l at *
              have Hin := hid hin
              clear hin
              have hk0' : (0 : Int) ≤ (k : Int) := by omega
              have hk1' : (k : Int) < (ps.length : Int) := by omega
              have hl0 : (0 : Int) ≤ (l : Int) := by omega
              have hl1 : (l : Int) < (ps.length : Int) := by omega
              have hadd : IntKind.i64.wrap ((k : Int) + 1) = (k : Int) + 1 := by rw [IntKind.wrap_i64]; omega
              have Hb0 := hb
              go_wp2_with fail
              go_cut [8, 9] (fun t8 t9 wx => ∃ bc bd : Nat, t8 = .pointer (some ⟨bc, 0, none⟩) ∧ t9 = .pointer (some ⟨bd, 0, none⟩) ∧ Below w.heap.size w wx ∧ wx.heap[bc]? = some (.cells #[.int .i64 z, .int .i64 t] 44 (0, 0)) ∧ wx.heap[bd]? = some (.cells #[.int .i64 p, .int .i64 q] 44 (0, 0)) ∧ wx.cell? ⟨ba, 0, none⟩ = some (.int .i64 x) ∧ wx.cell? ⟨ba, 1, none⟩ = some (.int .i64 y) ∧ wx.cell? ⟨bb, 0, none⟩ = some (.int .i64 u) ∧ wx.cell? ⟨bb, 1, none⟩ = some (.int .i64 v))
              case first =>
                go_region_held3 (fun w' => w'.cell? ⟨b, off + k * 2, none⟩ = some (.int .i64 z) ∧ w'.cell? ⟨b, off + k * 2 + 1, none⟩ = some (.int .i64 t) ∧ w'.cell? ⟨b, off + l * 2, none⟩ = some (.int .i64 p) ∧ w'.cell? ⟨b, off + l * 2 + 1, none⟩ = some (.int .i64 q)) ((go_split_ands; (repeat' apply And.intro) <;> (repeat (first | with_reducible assumption | (refine newcell _ _ _ _ _ _ ?_ rfl; simp; done) | refine keepcell (by with_reducible assumption) ?_ | refine keepdrew ?_ | refine keepalloc ?_ _))))
                  (first
                    | (fail))
                all_goals
                  go_wp2_with fail
                  go_meet
                  first
                    | exact ⟨_, _, rfl, rfl, by (repeat (first | with_reducible exact Below.refl _ _ | with_reducible assumption | (with_reducible refine btrans ?_ (by with_reducible assumption)) | with_reducible refine bdrew ?_ | with_reducible refine balloc ?_ _)), old_alloc (new_alloc _ _ _ (by simp)), new_alloc _ _ _ (by simp), by (repeat (first | with_reducible assumption | with_reducible refine keepset ?_ (by dsimp only; omega) | with_reducible refine keepdrew ?_ | with_reducible refine keepcell (by with_reducible assumption) ?_ | with_reducible refine keepalloc ?_ _)), by (repeat (first | with_reducible assumption | with_reducible refine keepset ?_ (by dsimp only; omega) | with_reducible refine keepdrew ?_ | with_reducible refine keepcell (by with_reducible assumption) ?_ | with_reducible refine keepalloc ?_ _)), by (repeat (first | with_reducible assumption | with_reducible refine keepset ?_ (by dsimp only; omega) | with_reducible refine keepdrew ?_ | with_reducible refine keepcell (by with_reducible assumption) ?_ | with_reducible refine keepalloc ?_ _)), by (repeat (first | with_reducible assumption | with_reducible refine keepset ?_ (by dsimp only; omega) | with_reducible refine keepdrew ?_ | with_reducible refine keepcell (by with_reducible assumption) ?_ | with_reducible refine keepalloc ?_ _))⟩
                    | exact ⟨_, _, rfl, rfl, by (repeat (first | with_reducible exact Below.refl _ _ | with_reducible assumption | (with_reducible refine btrans ?_ (by with_reducible assumption)) | with_reducible refine bdrew ?_ | with_reducible refine balloc ?_ _)), new_alloc _ _ _ (by simp), old_alloc (new_alloc _ _ _ (by simp)), by (repeat (first | with_reducible assumption | with_reducible refine keepset ?_ (by dsimp only; omega) | with_reducible refine keepdrew ?_ | with_reducible refine keepcell (by with_reducible assumption) ?_ | with_reducible refine keepalloc ?_ _)), by (repeat (first | with_reducible assumption | with_reducible refine keepset ?_ (by dsimp only; omega) | with_reducible refine keepdrew ?_ | with_reducible refine keepcell (by with_reducible assumption) ?_ | with_reducible refine keepalloc ?_ _)), by (repeat (first | with_reducible assumption | with_reducible refine keepset ?_ (by dsimp only; omega) | with_reducible refine keepdrew ?_ | with_reducible refine keepcell (by with_reducible assumption) ?_ | with_reducible refine keepalloc ?_ _)), by (repeat (first | with_reducible assumption | with_reducible refine keepset ?_ (by dsimp only; omega) | with_reducible refine keepdrew ?_ | with_reducible refine keepcell (by with_reducible assumption) ?_ | with_reducible refine keepalloc ?_ _))⟩
              case rest =>
                clear c0 c1 d0 d1 e1 hb r00 r01 r10 r11 Hb0 hl0 hl1 hadd
                obtain ⟨bc, bd, rfl, rfl, hb, gc, gd, r00, r01, r10, r11⟩ := hcut
                obtain ⟨r20, r21, _, _⟩ := cell2f gc
                obtain ⟨r30, r31, _, _⟩ := cell2f gd
                clear gc gd
                by_cases hA1 : k = i + 1
                · have hc1 : ((k : Int) == (i : Int) + 1) = true := by rw [beq_iff_eq]; omega
                  have hbd : badc ps.length i k x y u v z t p q = (onb p q x y u v || onb x y z t p q) := by unfold badc; rw [if_pos hA1]
                  rw [hbd] at Hin
                  have ho1 := fun w' => spec_onside_in p q x y u v ip iq ix iy iu iv w'
                  have ho2 := fun w' => spec_onside_in x y z t p q ix iy iz it ip iq w'
                  generalize onb p q x y u v = o1 at *
                  generalize onb x y z t p q = o2 at *
                  have Ho1 := hid ho1
                  have Ho2 := hid ho2
                  have HA1 := hid hA1
                  clear ho1 ho2 hbd hA1
                  cases o1
                  · cases o2
                    · go_wp2_with fail
                      refine (Ho1.out _).mono ?_
                      rintro e w5 ⟨rfl, hb5⟩
                      have s00 := keepcell hb5 r00
                      have s01 := keepcell hb5 r01
                      have s10 := keepcell hb5 r10
                      have s11 := keepcell hb5 r11
                      have s20 := keepcell hb5 r20
                      have s21 := keepcell hb5 r21
                      have s30 := keepcell hb5 r30
                      have s31 := keepcell hb5 r31
                      go_wp2_with fail
                      refine (Ho2.out _).mono ?_
                      rintro e w6 ⟨rfl, hb6⟩
                      have t00 := keepcell hb6 s00
                      have t01 := keepcell hb6 s01
                      have t10 := keepcell hb6 s10
                      have t11 := keepcell hb6 s11
                      have t20 := keepcell hb6 s20
                      have t21 := keepcell hb6 s21
                      have t30 := keepcell hb6 s30
                      have t31 := keepcell hb6 s31
                      go_wp2_with fail
                      go_roundw
                      case rel => exact ⟨k + 1, by go_num, by omega, by omega, by (repeat (first | with_reducible exact Below.refl _ _ | with_reducible assumption | (with_reducible refine btrans ?_ (by with_reducible assumption)) | with_reducible refine bdrew ?_ | with_reducible refine balloc ?_ _)), t00, t01, t10, t11, hid (by rw [Hin.out]; simp)⟩
                      case measure => simp [intOf]; omega
                    · go_wp2_with fail
                      refine (Ho1.out _).mono ?_
                      rintro e w5 ⟨rfl, hb5⟩
                      have s00 := keepcell hb5 r00
                      have s01 := keepcell hb5 r01
                      have s10 := keepcell hb5 r10
                      have s11 := keepcell hb5 r11
                      have s20 := keepcell hb5 r20
                      have s21 := keepcell hb5 r21
                      have s30 := keepcell hb5 r30
                      have s31 := keepcell hb5 r31
                      go_wp2_with fail
                      refine (Ho2.out _).mono ?_
                      rintro e w6 ⟨rfl, hb6⟩
                      go_wp2_with fail
                      go_ret
                      exact ⟨by rw [Hv.out, spec_mono (show specTo ps (i + 1) = false by rw [Hsp.out, specIn_mono (show specIn ps i (k + 1 - (i + 1)) = false by rw [Hin.out]; simp) _ (by omega)]; simp) _ (by omega)]; rfl, by (repeat (first | with_reducible exact Below.refl _ _ | with_reducible assumption | (with_reducible refine btrans ?_ (by with_reducible assumption)) | with_reducible refine bdrew ?_ | with_reducible refine balloc ?_ _))⟩
                  · go_wp2_with fail
                    refine (Ho1.out _).mono ?_
                    rintro e w5 ⟨rfl, hb5⟩
                    go_wp2_with fail
                    go_ret
                    exact ⟨by rw [Hv.out, spec_mono (show specTo ps (i + 1) = false by rw [Hsp.out, specIn_mono (show specIn ps i (k + 1 - (i + 1)) = false by rw [Hin.out]; simp) _ (by omega)]; simp) _ (by omega)]; rfl, by (repeat (first | with_reducible exact Below.refl _ _ | with_reducible assumption | (with_reducible refine btrans ?_ (by with_reducible assumption)) | with_reducible refine bdrew ?_ | with_reducible refine balloc ?_ _))⟩
                · have hc1 : ((k : Int) == (i : Int) + 1) = false := by rw [beq_eq_false_iff_ne]; omega
                  by_cases hA2 : i = 0 ∧ k = ps.length - 1
                  · have hc2 : ((i : Int) == 0) = true := by rw [beq_iff_eq]; omega
                    have hc3 : ((k : Int) == (ps.length : Int) - 1) = true := by rw [beq_iff_eq]; omega
                    have hbd : badc ps.length i k x y u v z t p q = (onb z t x y u v || onb u v z t p q) := by unfold badc; rw [if_neg hA1, if_pos hA2]
                    rw [hbd] at Hin
                    have ho1 := fun w' => spec_onside_in z t x y u v iz it ix iy iu iv w'
                    have ho2 := fun w' => spec_onside_in u v z t p q iu iv iz it ip iq w'
                    generalize onb z t x y u v = o1 at *
                    generalize onb u v z t p q = o2 at *
                    have Ho1 := hid ho1
                    have Ho2 := hid ho2
                    have HA1 := hid hA1
                    have HA2 := hid hA2
                    clear ho1 ho2 hbd hA1 hA2
                    cases o1
                    · cases o2
                      · go_wp2_with fail
                        refine (Ho1.out _).mono ?_
                        rintro e w5 ⟨rfl, hb5⟩
                        have s00 := keepcell hb5 r00
                        have s01 := keepcell hb5 r01
                        have s10 := keepcell hb5 r10
                        have s11 := keepcell hb5 r11
                        have s20 := keepcell hb5 r20
                        have s21 := keepcell hb5 r21
                        have s30 := keepcell hb5 r30
                        have s31 := keepcell hb5 r31
                        go_wp2_with fail
                        refine (Ho2.out _).mono ?_
                        rintro e w6 ⟨rfl, hb6⟩
                        have t00 := keepcell hb6 s00
                        have t01 := keepcell hb6 s01
                        have t10 := keepcell hb6 s10
                        have t11 := keepcell hb6 s11
                        have t20 := keepcell hb6 s20
                        have t21 := keepcell hb6 s21
                        have t30 := keepcell hb6 s30
                        have t31 := keepcell hb6 s31
                        go_wp2_with fail
                        go_roundw
                        case rel => exact ⟨k + 1, by go_num, by omega, by omega, by (repeat (first | with_reducible exact Below.refl _ _ | with_reducible assumption | (with_reducible refine btrans ?_ (by with_reducible assumption)) | with_reducible refine bdrew ?_ | with_reducible refine balloc ?_ _)), t00, t01, t10, t11, hid (by rw [Hin.out]; simp)⟩
                        case measure => simp [intOf]; omega
                      · go_wp2_with fail
                        refine (Ho1.out _).mono ?_
                        rintro e w5 ⟨rfl, hb5⟩
                        have s00 := keepcell hb5 r00
                        have s01 := keepcell hb5 r01
                        have s10 := keepcell hb5 r10
                        have s11 := keepcell hb5 r11
                        have s20 := keepcell hb5 r20
                        have s21 := keepcell hb5 r21
                        have s30 := keepcell hb5 r30
                        have s31 := keepcell hb5 r31
                        go_wp2_with fail
                        refine (Ho2.out _).mono ?_
                        rintro e w6 ⟨rfl, hb6⟩
                        go_wp2_with fail
                        go_ret
                        exact ⟨by rw [Hv.out, spec_mono (show specTo ps (i + 1) = false by rw [Hsp.out, specIn_mono (show specIn ps i (k + 1 - (i + 1)) = false by rw [Hin.out]; simp) _ (by omega)]; simp) _ (by omega)]; rfl, by (repeat (first | with_reducible exact Below.refl _ _ | with_reducible assumption | (with_reducible refine btrans ?_ (by with_reducible assumption)) | with_reducible refine bdrew ?_ | with_reducible refine balloc ?_ _))⟩
                    · go_wp2_with fail
                      refine (Ho1.out _).mono ?_
                      rintro e w5 ⟨rfl, hb5⟩
                      go_wp2_with fail
                      go_ret
                      exact ⟨by rw [Hv.out, spec_mono (show specTo ps (i + 1) = false by rw [Hsp.out, specIn_mono (show specIn ps i (k + 1 - (i + 1)) = false by rw [Hin.out]; simp) _ (by omega)]; simp) _ (by omega)]; rfl, by (repeat (first | with_reducible exact Below.refl _ _ | with_reducible assumption | (with_reducible refine btrans ?_ (by with_reducible assumption)) | with_reducible refine bdrew ?_ | with_reducible refine balloc ?_ _))⟩
                  · have hbd : badc ps.length i k x y u v z t p q = smeet x y u v z t p q := by unfold badc; rw [if_neg hA1, if_neg hA2]
                    rw [hbd] at Hin
                    have ho1 := fun w' => spec_sides_in x y u v z t p q ix iy iu iv iz it ip iq w'
                    generalize smeet x y u v z t p q = o1 at *
                    have Ho1 := hid ho1
                    clear ho1 hbd
                    by_cases hi0 : i = 0
                    · have hc2 : ((i : Int) == 0) = true := by rw [beq_iff_eq]; omega
                      have hc3 : ((k : Int) == (ps.length : Int) - 1) = false := by rw [beq_eq_false_iff_ne]; omega
                      have HI0 := hid hi0
                      clear hi0 hA1 hA2
                      cases o1
                      · go_wp2_with fail
                        refine (Ho1.out _).mono ?_
                        rintro e w6 ⟨rfl, hb6⟩
                        have t00 := keepcell hb6 r00
                        have t01 := keepcell hb6 r01
                        have t10 := keepcell hb6 r10
                        have t11 := keepcell hb6 r11
                        have t20 := keepcell hb6 r20
                        have t21 := keepcell hb6 r21
                        have t30 := keepcell hb6 r30
                        have t31 := keepcell hb6 r31
                        go_wp2_with fail
                        go_roundw
                        case rel => exact ⟨k + 1, by go_num, by omega, by omega, by (repeat (first | with_reducible exact Below.refl _ _ | with_reducible assumption | (with_reducible refine btrans ?_ (by with_reducible assumption)) | with_reducible refine bdrew ?_ | with_reducible refine balloc ?_ _)), t00, t01, t10, t11, hid (by rw [Hin.out]; simp)⟩
                        case measure => simp [intOf]; omega
                      · go_wp2_with fail
                        refine (Ho1.out _).mono ?_
                        rintro e w6 ⟨rfl, hb6⟩
                        go_wp2_with fail
                        go_ret
                        exact ⟨by rw [Hv.out, spec_mono (show specTo ps (i + 1) = false by rw [Hsp.out, specIn_mono (show specIn ps i (k + 1 - (i + 1)) = false by rw [Hin.out]; simp) _ (by omega)]; simp) _ (by omega)]; rfl, by (repeat (first | with_reducible exact Below.refl _ _ | with_reducible assumption | (with_reducible refine btrans ?_ (by with_reducible assumption)) | with_reducible refine bdrew ?_ | with_reducible refine balloc ?_ _))⟩
                    · have hc2 : ((i : Int) == 0) = false := by rw [beq_eq_false_iff_ne]; omega
                      skip
                      have HI0 := hid hi0
                      clear hi0 hA1 hA2
                      cases o1
                      · go_wp2_with fail
                        refine (Ho1.out _).mono ?_
                        rintro e w6 ⟨rfl, hb6⟩
                        have t00 := keepcell hb6 r00
                        have t01 := keepcell hb6 r01
                        have t10 := keepcell hb6 r10
                        have t11 := keepcell hb6 r11
                        have t20 := keepcell hb6 r20
                        have t21 := keepcell hb6 r21
                        have t30 := keepcell hb6 r30
                        have t31 := keepcell hb6 r31
                        go_wp2_with fail
                        go_roundw
                        case rel => exact ⟨k + 1, by go_num, by omega, by omega, by (repeat (first | with_reducible exact Below.refl _ _ | with_reducible assumption | (with_reducible refine btrans ?_ (by with_reducible assumption)) | with_reducible refine bdrew ?_ | with_reducible refine balloc ?_ _)), t00, t01, t10, t11, hid (by rw [Hin.out]; simp)⟩
                        case measure => simp [intOf]; omega
                      · go_wp2_with fail
                        refine (Ho1.out _).mono ?_
                        rintro e w6 ⟨rfl, hb6⟩
                        go_wp2_with fail
                        go_ret
                        exact ⟨by rw [Hv.out, spec_mono (show specTo ps (i + 1) = false by rw [Hsp.out, specIn_mono (show specIn ps i (k + 1 - (i + 1)) = false by rw [Hin.out]; simp) _ (by omega)]; simp) _ (by omega)]; rfl, by (repeat (first | with_reducible exact Below.refl _ _ | with_reducible assumption | (with_reducible refine btrans ?_ (by with_reducible assumption)) | with_reducible refine bdrew ?_ | with_reducible refine balloc ?_ _))⟩
            · have hkl' : ¬ ((k : Int) < (ps.length : Int)) := by omega
              go_wp2_with fail
              go_roundw
              case rel => exact ⟨i + 1, by go_num, by omega, hb, hid (by rw [Hsp.out, specIn_at HI.out (by omega)]; rfl)⟩
              case measure => simp [intOf]; omega
    · obtain rfl : i = ps.length := by omega
      go_wp2_with fail
      go_ret
      exact ⟨by rw [Hv.out, H.out]; rfl, hb⟩
end Go.Proofs.YtjafahhoihlliaaGreatDoor
namespace Go.Proofs.YtjafahhoihlliaaGreatDoor
open Go.RowKit
set_option linter.unusedSimpArgs false
set_option linter.unusedVariables false
theorem onb_start (x y u v : Int) : onb x y x y u v = true := by
  unfold onb hasb cr
  simp only [Int.sub_self, Int.mul_zero, Int.zero_mul, decide_true, Bool.true_and, Bool.and_eq_true, decide_eq_true_eq]
  omega
theorem inner_iff (qs : List Sd) (i : Nat) : ∀ m, innerTo qs i m = true ↔ ∀ j, i + 2 ≤ j → j < i + 2 + m → meetq (qs.getD i (0, 0, 0, 0)) (qs.getD j (0, 0, 0, 0)) = false
  | 0 => ⟨fun _ j h1 h2 => absurd h2 (by omega), fun _ => rfl⟩
  | m + 1 => by
    rw [innerTo, Bool.and_eq_true, inner_iff qs i m, Bool.not_eq_true']
    constructor
    · rintro ⟨h1, h2⟩ j hj hjm
      by_cases e : j = i + 2 + m
      · subst e; exact h2
      · exact h1 j hj (by omega)
    · intro h
      exact ⟨fun j h1 h2 => h j h1 (by omega), h _ (by omega) (by omega)⟩
theorem apart_iff (qs : List Sd) : ∀ k, apartTo qs k = true ↔ ∀ i, i < k → foldq (qs.getD i (0, 0, 0, 0)) (qs.getD ((i + 1) % qs.length) (0, 0, 0, 0)) = false ∧ ∀ j, i + 2 ≤ j → j < farq qs.length i → meetq (qs.getD i (0, 0, 0, 0)) (qs.getD j (0, 0, 0, 0)) = false
  | 0 => ⟨fun _ i h => absurd h (by omega), fun _ => rfl⟩
  | k + 1 => by
    rw [apartTo, Bool.and_eq_true, Bool.and_eq_true, apart_iff qs k, Bool.not_eq_true', inner_iff]
    constructor
    · rintro ⟨h1, h2, h3⟩ i hi
      by_cases e : i = k
      · subst e; exact ⟨h2, fun j a b => h3 j a (by omega)⟩
      · exact h1 i (by omega)
    · intro h
      exact ⟨fun i hi => h i (by omega), (h k (by omega)).1, fun j a b => (h k (by omega)).2 j a (by omega)⟩
theorem specIn_iff (ps : List (Int × Int)) (i : Nat) : ∀ m, specIn ps i m = true ↔ ∀ j, i + 1 ≤ j → j < i + 1 + m → specC ps i j = false
  | 0 => ⟨fun _ j h1 h2 => absurd h2 (by omega), fun _ => rfl⟩
  | m + 1 => by
    rw [specIn, Bool.and_eq_true, specIn_iff ps i m, Bool.not_eq_true']
    constructor
    · rintro ⟨h1, h2⟩ j hj hjm
      by_cases e : j = i + 1 + m
      · subst e; exact h2
      · exact h1 j hj (by omega)
    · intro h
      exact ⟨fun j h1 h2 => h j h1 (by omega), h _ (by omega) (by omega)⟩
theorem specTo_iff (ps : List (Int × Int)) : ∀ k, k ≤ ps.length → (specTo ps k = true ↔ ∀ i, i < k → ((ps.getD i (0, 0)).1 == (nxt ps i).1 && (ps.getD i (0, 0)).2 == (nxt ps i).2) = false ∧ ∀ j, i + 1 ≤ j → j < ps.length → specC ps i j = false)
  | 0, _ => ⟨fun _ i h => absurd h (by omega), fun _ => rfl⟩
  | k + 1, hk => by
    rw [specTo, Bool.and_eq_true, Bool.and_eq_true, specTo_iff ps k (by omega), Bool.not_eq_true', specIn_iff]
    constructor
    · rintro ⟨h1, h2, h3⟩ i hi
      by_cases e : i = k
      · subst e; exact ⟨h2, fun j a b => h3 j a (by omega)⟩
      · exact h1 i (by omega)
    · intro h
      exact ⟨fun i hi => h i (by omega), (h k (by omega)).1, fun j a b => (h k (by omega)).2 j a (by omega)⟩
theorem apart_spec (ps : List (Int × Int)) (h3 : 3 ≤ ps.length) : apartTo (ringSides ps) (ringSides ps).length = specTo ps ps.length := by
  rw [Bool.eq_iff_iff, apart_iff, specTo_iff ps _ (Nat.le_refl _), ringSides_len]
  have hf : ∀ i j, i < ps.length → j < ps.length → foldq ((ringSides ps).getD i (0, 0, 0, 0)) ((ringSides ps).getD j (0, 0, 0, 0)) = (onb (nxt ps j).1 (nxt ps j).2 (ps.getD i (0, 0)).1 (ps.getD i (0, 0)).2 (nxt ps i).1 (nxt ps i).2 || onb (ps.getD i (0, 0)).1 (ps.getD i (0, 0)).2 (ps.getD j (0, 0)).1 (ps.getD j (0, 0)).2 (nxt ps j).1 (nxt ps j).2) := by
    intro i j hi hj
    rw [ringSides_at ps i hi, ringSides_at ps j hj]; rfl
  have hmq : ∀ i j, i < ps.length → j < ps.length → meetq ((ringSides ps).getD i (0, 0, 0, 0)) ((ringSides ps).getD j (0, 0, 0, 0)) = smeet (ps.getD i (0, 0)).1 (ps.getD i (0, 0)).2 (nxt ps i).1 (nxt ps i).2 (ps.getD j (0, 0)).1 (ps.getD j (0, 0)).2 (nxt ps j).1 (nxt ps j).2 := by
    intro i j hi hj
    rw [ringSides_at ps i hi, ringSides_at ps j hj]; rfl
  have hC : ∀ i j, specC ps i j = badc ps.length i j (ps.getD i (0, 0)).1 (ps.getD i (0, 0)).2 (nxt ps i).1 (nxt ps i).2 (ps.getD j (0, 0)).1 (ps.getD j (0, 0)).2 (nxt ps j).1 (nxt ps j).2 := fun i j => rfl
  have hmod : ∀ i, i + 1 < ps.length → (i + 1) % ps.length = i + 1 := fun i h => Nat.mod_eq_of_lt h
  have hlast : (ps.length - 1 + 1) % ps.length = 0 := by rw [show ps.length - 1 + 1 = ps.length by omega, Nat.mod_self]
  constructor
  · intro h i hi
    refine ⟨?_, ?_⟩
    · rw [Bool.eq_false_iff]
      intro he
      simp only [Bool.and_eq_true, beq_iff_eq] at he
      have hfi := (h i hi).1
      have hj : (i + 1) % ps.length < ps.length := Nat.mod_lt _ (by omega)
      rw [hf i _ hi hj, Bool.or_eq_false_iff] at hfi
      have e : ps.getD ((i + 1) % ps.length) (0, 0) = nxt ps i := rfl
      rw [e, he.1, he.2, onb_start] at hfi
      exact absurd hfi.2 (by decide)
    · intro j hj1 hj2
      rw [hC]
      unfold badc
      by_cases e1 : j = i + 1
      · rw [if_pos e1]
        have hfi := (h i hi).1
        rw [hmod i (by omega), ← e1, hf i j hi hj2] at hfi
        exact hfi
      · rw [if_neg e1]
        by_cases e2 : i = 0 ∧ j = ps.length - 1
        · rw [if_pos e2]
          have hfi := (h j hj2).1
          rw [show (j + 1) % ps.length = i by rw [e2.2, hlast, e2.1], hf j i hj2 hi, Bool.or_comm] at hfi
          exact hfi
        · rw [if_neg e2]
          have hmi := (h i hi).2 j (by omega) (by unfold farq; split <;> omega)
          rw [hmq i j hi hj2] at hmi
          exact hmi
  · intro h i hi
    refine ⟨?_, ?_⟩
    · by_cases e1 : i + 1 < ps.length
      · rw [hmod i e1, hf i (i + 1) hi e1]
        have hs := (h i hi).2 (i + 1) (by omega) e1
        rw [hC] at hs
        unfold badc at hs
        rw [if_pos rfl] at hs
        exact hs
      · have ei : i = ps.length - 1 := by omega
        have hs := (h 0 (by omega)).2 i (by omega) hi
        rw [hC] at hs
        unfold badc at hs
        rw [if_neg (by omega), if_pos ⟨rfl, ei⟩] at hs
        rw [show (i + 1) % ps.length = 0 by rw [ei, hlast], hf i 0 hi (by omega), Bool.or_comm]
        exact hs
    · intro j hj1 hj2
      have hj : j < ps.length := by unfold farq at hj2; split at hj2 <;> omega
      have hs := (h i hi).2 j (by omega) hj
      rw [hC] at hs
      unfold badc at hs
      rw [if_neg (by omega), if_neg (by unfold farq at hj2; rintro ⟨a, b⟩; rw [if_pos a] at hj2; omega)] at hs
      rw [hmq i j hi hj]
      exact hs
theorem area_allok {ps : List (Int × Int)} (h : 0 < area2 ps) : allok ps = true := by
  unfold area2 at h
  split at h
  · rename_i q; exact q.2
  · omega
set_option maxHeartbeats 1000000 in
theorem ring_right (a : Option Addr) (cap : Nat) (ps : List (Int × Int)) (w : World) (hm : ps.length ≤ 1099511627776) (hc : ps.length ≤ cap) (h : Pts w a ps) : Calls Tryz.prog 171 #[.slice a ps.length cap] w fun e w' => e = .returned (.bool (ringOk ps)) ∧ Below w.heap.size w w' := by
  have Hh := hid h
  clear h
  by_cases h3 : (3 : Int) ≤ (ps.length : Int)
  · by_cases h6 : (ps.length : Int) ≤ 60
    · have har := fun w' (hw : Pts w' a ps) => impl_Area2 a cap ps w' hm hc hw
      by_cases hA : 0 < area2 ps
      · have hv : ringOk ps = apartTo (ringSides ps) (ringSides ps).length := by
          rw [apart_spec ps (by omega)]
          unfold ringOk
          rw [decide_eq_true (by omega), decide_eq_true (by omega), decide_eq_true hA]; rfl
        have ha := area_allok hA
        have hsin : ∀ k, k < (ringSides ps).length → SdIn ((ringSides ps).getD k (0, 0, 0, 0)) := by
          intro k hk
          rw [ringSides_len] at hk
          rw [ringSides_at ps k hk]
          obtain ⟨i1, i2⟩ := allok_in ha k hk
          obtain ⟨i3, i4⟩ := nxt_in ha k hk
          exact ⟨i1, i2, i3, i4⟩
        have hka := fun b cap' w' (hb : b < w'.heap.size) (hcc : (ringSides ps).length ≤ cap') (hq : SdAt w' b 0 (ringSides ps)) => keep_apart b 0 cap' (ringSides ps) w' (by rw [ringSides_len]; exact hm) hcc hb hq hsin
        have hsa := fun w' (hw : Pts w' a ps) => sides_around a cap ps w' hm hc hw
        rw [ringSides_len] at hka
        rw [hv, ringSides_len]
        generalize apartTo (ringSides ps) ps.length = v at *
        generalize area2 ps = A at *
        have Hka := hid hka
        have Hsa := hid hsa
        have Har := hid har
        clear hka hsa har hv ha hsin
        go_enter Tryz.func171, Tryz.ntmps171
        go_wp2_with fail
        refine (Har.out _ Hh.out).mono ?_
        rintro e w1 ⟨rfl, hb1⟩
        go_wp2_with fail
        refine (Hsa.out _ (Hh.out.below hb1)).mono ?_
        rintro e w2 ⟨b2, rfl, hg2, hl2, hq2, hb2⟩
        have Hq2 := hid hq2
        clear hq2
        go_wp2_with fail
        refine (Hka.out _ _ _ hl2 (Nat.le_refl _) Hq2.out).mono ?_
        rintro e w3 ⟨rfl, hb3⟩
        go_wp2_with fail
        go_ret
        exact ⟨rfl, by (repeat (first | with_reducible exact Below.refl _ _ | with_reducible assumption | (with_reducible refine btrans ?_ (by with_reducible assumption)) | with_reducible refine bdrew ?_ | with_reducible refine balloc ?_ _))⟩
      · have hv : ringOk ps = false := by unfold ringOk; rw [decide_eq_false hA, Bool.and_false]; rfl
        rw [hv]
        generalize area2 ps = A at *
        have Har := hid har
        clear har hv
        go_enter Tryz.func171, Tryz.ntmps171
        go_wp2_with fail
        refine (Har.out _ Hh.out).mono ?_
        rintro e w1 ⟨rfl, hb1⟩
        go_wp2_with fail
        go_ret
        exact ⟨rfl, hb1⟩
    · have hv : ringOk ps = false := by unfold ringOk; rw [decide_eq_false (show ¬ ps.length ≤ 60 by omega), Bool.and_false]; rfl
      rw [hv]
      go_enter Tryz.func171, Tryz.ntmps171
      go_wp2_with fail
      go_ret
      exact ⟨rfl, Below.refl _ _⟩
  · have hv : ringOk ps = false := by unfold ringOk; rw [decide_eq_false (show ¬ 3 ≤ ps.length by omega)]; rfl
    rw [hv]
    go_enter Tryz.func171, Tryz.ntmps171
    go_wp2_with fail
    go_ret
    exact ⟨rfl, Below.refl _ _⟩
set_option maxHeartbeats 400000 in
theorem shape_dot (a : Option Addr) (cap : Nat) (ps : List (Int × Int)) (w : World) (hm : ps.length ≤ 1099511627776) (hc : ps.length ≤ cap) (h : Pts w a ps) : Calls Tryz.prog 10 #[shv 0 a ps.length cap] w fun e w' => e = .returned (.bool (decide (ps.length = 1) && allok ps)) ∧ Below w.heap.size w w' := by
  have hr := fun w' (hw : Pts w' a ps) => dot_right a cap ps w' hm hw
  generalize (decide (ps.length = 1) && allok ps) = v at *
  have Hr := hid hr
  have Hh := hid h
  clear hr h
  go_enter Tryz.func10, Tryz.ntmps10
  go_wp2_with fail
  refine (fig_dot _ _ _ _).mono ?_
  rintro e w1 ⟨rfl, hb1⟩
  go_wp2_with fail
  refine (Hr.out _ (Hh.out.below ?_)).mono ?_
  · (repeat (first | with_reducible exact Below.refl _ _ | with_reducible assumption | (with_reducible refine btrans ?_ (by with_reducible assumption)) | with_reducible refine bdrew ?_ | with_reducible refine balloc ?_ _))
  rintro e w2 ⟨rfl, hb2⟩
  go_wp2_with fail
  go_ret
  exact ⟨rfl, by (repeat (first | with_reducible exact Below.refl _ _ | with_reducible assumption | (with_reducible refine btrans ?_ (by with_reducible assumption)) | with_reducible refine bdrew ?_ | with_reducible refine balloc ?_ _))⟩
set_option maxHeartbeats 400000 in
theorem shape_path (a : Option Addr) (cap : Nat) (ps : List (Int × Int)) (w : World) (hm : ps.length ≤ 1099511627776) (hc : ps.length ≤ cap) (h : Pts w a ps) : Calls Tryz.prog 10 #[shv 1 a ps.length cap] w fun e w' => e = .returned (.bool (lineb ps && allok ps)) ∧ Below w.heap.size w w' := by
  have hr := fun w' (hw : Pts w' a ps) => path_right a cap ps w' hm hc hw
  generalize (lineb ps && allok ps) = v at *
  have Hr := hid hr
  have Hh := hid h
  clear hr h
  go_enter Tryz.func10, Tryz.ntmps10
  go_wp2_with fail
  refine (fig_path _ _ _ _).mono ?_
  rintro e w1 ⟨rfl, hb1⟩
  go_wp2_with fail
  refine (Hr.out _ (Hh.out.below ?_)).mono ?_
  · (repeat (first | with_reducible exact Below.refl _ _ | with_reducible assumption | (with_reducible refine btrans ?_ (by with_reducible assumption)) | with_reducible refine bdrew ?_ | with_reducible refine balloc ?_ _))
  rintro e w2 ⟨rfl, hb2⟩
  go_wp2_with fail
  go_ret
  exact ⟨rfl, by (repeat (first | with_reducible exact Below.refl _ _ | with_reducible assumption | (with_reducible refine btrans ?_ (by with_reducible assumption)) | with_reducible refine bdrew ?_ | with_reducible refine balloc ?_ _))⟩
set_option maxHeartbeats 400000 in
theorem shape_block (a : Option Addr) (cap : Nat) (ps : List (Int × Int)) (w : World) (hm : ps.length ≤ 1099511627776) (hc : ps.length ≤ cap) (h : Pts w a ps) : Calls Tryz.prog 10 #[shv 2 a ps.length cap] w fun e w' => e = .returned (.bool (rectb ps && allok ps)) ∧ Below w.heap.size w w' := by
  have hr := fun w' (hw : Pts w' a ps) => block_right a cap ps w' hm hc hw
  generalize (rectb ps && allok ps) = v at *
  have Hr := hid hr
  have Hh := hid h
  clear hr h
  go_enter Tryz.func10, Tryz.ntmps10
  go_wp2_with fail
  refine (fig_block _ _ _ _).mono ?_
  rintro e w1 ⟨rfl, hb1⟩
  go_wp2_with fail
  refine (Hr.out _ (Hh.out.below ?_)).mono ?_
  · (repeat (first | with_reducible exact Below.refl _ _ | with_reducible assumption | (with_reducible refine btrans ?_ (by with_reducible assumption)) | with_reducible refine bdrew ?_ | with_reducible refine balloc ?_ _))
  rintro e w2 ⟨rfl, hb2⟩
  go_wp2_with fail
  go_ret
  exact ⟨rfl, by (repeat (first | with_reducible exact Below.refl _ _ | with_reducible assumption | (with_reducible refine btrans ?_ (by with_reducible assumption)) | with_reducible refine bdrew ?_ | with_reducible refine balloc ?_ _))⟩
set_option maxHeartbeats 400000 in
theorem shape_ring (a : Option Addr) (cap : Nat) (ps : List (Int × Int)) (w : World) (hm : ps.length ≤ 1099511627776) (hc : ps.length ≤ cap) (h : Pts w a ps) : Calls Tryz.prog 10 #[shv 3 a ps.length cap] w fun e w' => e = .returned (.bool (ringOk ps)) ∧ Below w.heap.size w w' := by
  have hr := fun w' (hw : Pts w' a ps) => ring_right a cap ps w' hm hc hw
  generalize (ringOk ps) = v at *
  have Hr := hid hr
  have Hh := hid h
  clear hr h
  go_enter Tryz.func10, Tryz.ntmps10
  go_wp2_with fail
  refine (fig_ring _ _ _ _).mono ?_
  rintro e w1 ⟨rfl, hb1⟩
  go_wp2_with fail
  refine (Hr.out _ (Hh.out.below ?_)).mono ?_
  · (repeat (first | with_reducible exact Below.refl _ _ | with_reducible assumption | (with_reducible refine btrans ?_ (by with_reducible assumption)) | with_reducible refine bdrew ?_ | with_reducible refine balloc ?_ _))
  rintro e w2 ⟨rfl, hb2⟩
  go_wp2_with fail
  go_ret
  exact ⟨rfl, by (repeat (first | with_reducible exact Below.refl _ _ | with_reducible assumption | (with_reducible refine btrans ?_ (by with_reducible assumption)) | with_reducible refine bdrew ?_ | with_reducible refine balloc ?_ _))⟩
def shok (k : Int) (ps : List (Int × Int)) : Bool := if k = 0 then (decide (ps.length = 1) && allok ps) else if k = 1 then (lineb ps && allok ps) else if k = 2 then (rectb ps && allok ps) else if k = 3 then ringOk ps else false
theorem impl_ShapeOk (k : Int) (a : Option Addr) (cap : Nat) (ps : List (Int × Int)) (w : World) (hm : ps.length ≤ 1099511627776) (hc : ps.length ≤ cap) (h : Pts w a ps) : Calls Tryz.prog 10 #[shv k a ps.length cap] w fun e w' => e = .returned (.bool (shok k ps)) ∧ Below w.heap.size w w' := by
  by_cases h0 : k = 0
  · subst h0; exact shape_dot a cap ps w hm hc h
  by_cases h1 : k = 1
  · subst h1; exact shape_path a cap ps w hm hc h
  by_cases h2 : k = 2
  · subst h2; exact shape_block a cap ps w hm hc h
  by_cases h3 : k = 3
  · subst h3; exact shape_ring a cap ps w hm hc h
  have hv : shok k ps = false := by unfold shok; rw [if_neg h0, if_neg h1, if_neg h2, if_neg h3]
  rw [hv]
  have q0 : (k == 0) = false := by rw [beq_eq_false_iff_ne]; exact h0
  have q1 : (k == 1) = false := by rw [beq_eq_false_iff_ne]; exact h1
  have q2 : (k == 2) = false := by rw [beq_eq_false_iff_ne]; exact h2
  have q3 : (k == 3) = false := by rw [beq_eq_false_iff_ne]; exact h3
  clear hv h
  go_enter Tryz.func10, Tryz.ntmps10
  go_wp2_with fail
  refine (fig_blank _ _ _ _ _ q0 q1 q2 q3).mono ?_
  rintro e w1 ⟨rfl, hb1⟩
  go_wp2_with fail
  refine (blank_right _).mono ?_
  rintro e w2 ⟨rfl, hb2⟩
  go_wp2_with fail
  go_ret
  exact ⟨rfl, by (repeat (first | with_reducible exact Below.refl _ _ | with_reducible assumption | (with_reducible refine btrans ?_ (by with_reducible assumption)) | with_reducible refine bdrew ?_ | with_reducible refine balloc ?_ _))⟩
end Go.Proofs.YtjafahhoihlliaaGreatDoor
namespace Go.Proofs.YtjafahhoihlliaaGreatDoor
open Go.RowKit
set_option linter.unusedSimpArgs false
set_option linter.unusedVariables false
theorem shok_no {k : Int} {ps : List (Int × Int)} (h : allok ps = false) : shok k ps = false := by
  unfold shok
  rw [h, Bool.and_false, Bool.and_false, Bool.and_false]
  have hr : ringOk ps = false := by
    unfold ringOk
    rw [decide_eq_false (show ¬ 0 < area2 ps by intro q; rw [area_allok q] at h; cases h), Bool.and_false]; rfl
  rw [hr]
  split <;> (try rfl)
  split <;> (try rfl)
  split <;> (try rfl)
  split <;> rfl
set_option maxHeartbeats 1000000 in
theorem spec_ShapeOk (k : Int) (a : Option Addr) (cap : Nat) (ps : List (Int × Int)) (w : World) (hm : ps.length ≤ 1099511627776) (hc : ps.length ≤ cap) (h : Pts w a ps) : Calls Tryz.prog 11 #[shv k a ps.length cap] w fun e w' => e = .returned (.bool (shok k ps)) ∧ Below w.heap.size w w' := by
  have hall := fun w' (hw : Pts w' a ps) => spec_all a cap ps w' hm hc hw
  have Hh := hid h
  clear h
  cases ha : allok ps
  · rw [shok_no ha]
    rw [ha] at hall
    have Hall := hid hall
    clear hall ha
    go_enter Tryz.func11, Tryz.ntmps11
    go_wp2_with fail
    refine (Hall.out _ (Hh.out.below ?_)).mono ?_
    · (repeat (first | with_reducible exact Below.refl _ _ | with_reducible assumption | (with_reducible refine btrans ?_ (by with_reducible assumption)) | with_reducible refine bdrew ?_ | with_reducible refine balloc ?_ _))
    rintro e w1 ⟨rfl, hb1⟩
    have q0 : w1.cell? ⟨w.heap.size, 0, none⟩ = some (.int .i64 k) := by (repeat (first | with_reducible assumption | (refine newcell _ _ _ _ _ _ ?_ rfl; simp; done) | refine keepcell (by with_reducible assumption) ?_ | refine keepdrew ?_ | refine keepalloc ?_ _))
    have q1 : w1.cell? ⟨w.heap.size, 1, none⟩ = some (.slice a ps.length cap) := by (repeat (first | with_reducible assumption | (refine newcell _ _ _ _ _ _ ?_ rfl; simp; done) | refine keepcell (by with_reducible assumption) ?_ | refine keepdrew ?_ | refine keepalloc ?_ _))
    go_wp2_with fail
    go_ret
    exact ⟨rfl, by (repeat (first | with_reducible exact Below.refl _ _ | with_reducible assumption | (with_reducible refine btrans ?_ (by with_reducible assumption)) | with_reducible refine bdrew ?_ | with_reducible refine balloc ?_ _))⟩
  rw [ha] at hall
  have Hall := hid hall
  have Ha := hid ha
  clear hall ha
  by_cases h0 : k = 0
  · subst h0
    have hv : shok 0 ps = ((ps.length : Int) == 1) := by
      unfold shok; rw [if_pos rfl, Ha.out, Bool.and_true, Bool.eq_iff_iff, decide_eq_true_eq, beq_iff_eq]; omega
    rw [hv]
    go_enter Tryz.func11, Tryz.ntmps11
    go_wp2_with fail
    refine (Hall.out _ (Hh.out.below ?_)).mono ?_
    · (repeat (first | with_reducible exact Below.refl _ _ | with_reducible assumption | (with_reducible refine btrans ?_ (by with_reducible assumption)) | with_reducible refine bdrew ?_ | with_reducible refine balloc ?_ _))
    rintro e w1 ⟨rfl, hb1⟩
    have q0 : w1.cell? ⟨w.heap.size, 0, none⟩ = some (.int .i64 0) := by (repeat (first | with_reducible assumption | (refine newcell _ _ _ _ _ _ ?_ rfl; simp; done) | refine keepcell (by with_reducible assumption) ?_ | refine keepdrew ?_ | refine keepalloc ?_ _))
    have q1 : w1.cell? ⟨w.heap.size, 1, none⟩ = some (.slice a ps.length cap) := by (repeat (first | with_reducible assumption | (refine newcell _ _ _ _ _ _ ?_ rfl; simp; done) | refine keepcell (by with_reducible assumption) ?_ | refine keepdrew ?_ | refine keepalloc ?_ _))
    go_wp2_with fail
    go_ret
    exact ⟨rfl, by (repeat (first | with_reducible exact Below.refl _ _ | with_reducible assumption | (with_reducible refine btrans ?_ (by with_reducible assumption)) | with_reducible refine bdrew ?_ | with_reducible refine balloc ?_ _))⟩
  have q0 : (k == 0) = false := by rw [beq_eq_false_iff_ne]; exact h0
  by_cases h1 : k = 1
  · subst h1
    have hv : shok 1 ps = lineb ps := by unfold shok; rw [if_neg (by decide), if_pos rfl, Ha.out, Bool.and_true]
    rw [hv]
    have hl := fun w' (hw : Pts w' a ps) => spec_line a cap ps w' hm hc hw
    generalize lineb ps = v at *
    have Hl := hid hl
    clear hl hv
    go_enter Tryz.func11, Tryz.ntmps11
    go_wp2_with fail
    refine (Hall.out _ (Hh.out.below ?_)).mono ?_
    · (repeat (first | with_reducible exact Below.refl _ _ | with_reducible assumption | (with_reducible refine btrans ?_ (by with_reducible assumption)) | with_reducible refine bdrew ?_ | with_reducible refine balloc ?_ _))
    rintro e w1 ⟨rfl, hb1⟩
    have q0 : w1.cell? ⟨w.heap.size, 0, none⟩ = some (.int .i64 1) := by (repeat (first | with_reducible assumption | (refine newcell _ _ _ _ _ _ ?_ rfl; simp; done) | refine keepcell (by with_reducible assumption) ?_ | refine keepdrew ?_ | refine keepalloc ?_ _))
    have q1 : w1.cell? ⟨w.heap.size, 1, none⟩ = some (.slice a ps.length cap) := by (repeat (first | with_reducible assumption | (refine newcell _ _ _ _ _ _ ?_ rfl; simp; done) | refine keepcell (by with_reducible assumption) ?_ | refine keepdrew ?_ | refine keepalloc ?_ _))
    go_wp2_with fail
    refine (Hl.out _ (Hh.out.below ?_)).mono ?_
    · (repeat (first | with_reducible exact Below.refl _ _ | with_reducible assumption | (with_reducible refine btrans ?_ (by with_reducible assumption)) | with_reducible refine bdrew ?_ | with_reducible refine balloc ?_ _))
    rintro e w2 ⟨rfl, hb2⟩
    go_wp2_with fail
    go_ret
    exact ⟨rfl, by (repeat (first | with_reducible exact Below.refl _ _ | with_reducible assumption | (with_reducible refine btrans ?_ (by with_reducible assumption)) | with_reducible refine bdrew ?_ | with_reducible refine balloc ?_ _))⟩
  have q1 : (k == 1) = false := by rw [beq_eq_false_iff_ne]; exact h1
  by_cases h2 : k = 2
  · subst h2
    have hv : shok 2 ps = rectb ps := by unfold shok; rw [if_neg (by decide), if_neg (by decide), if_pos rfl, Ha.out, Bool.and_true]
    rw [hv]
    clear hv q0 q1 h0 h1
    by_cases hl : ps.length = 2
    · obtain ⟨x, y, u, v, rfl⟩ := len2 hl
      have hv : rectb [(x, y), (u, v)] = (decide (x ≤ u) && decide (y ≤ v)) := by simp [rectb]
      rw [hv]
      clear hv hl hm
      obtain ⟨b, off, rfl, hbs, hp⟩ : ∃ b off, a = some ⟨b, off, none⟩ ∧ b < w.heap.size ∧ PtsAt w b off [(x, y), (u, v)] := by
        rcases Hh.out with h | h
        · cases h
        · exact h
      obtain ⟨c0, c1⟩ := hp 0 (by simp)
      obtain ⟨d0, d1⟩ := hp 1 (by simp)
      simp only [Nat.zero_mul, Nat.add_zero, List.getD_cons_zero, List.getD_cons_succ, Nat.one_mul] at c0 c1 d0 d1
      have Hp := hid hp
      clear hp
      simp only [List.length_cons, List.length_nil, Nat.zero_add, Nat.reduceAdd] at *
      cases hx : decide (x ≤ u)
      · go_enter Tryz.func11, Tryz.ntmps11
        go_wp2_with fail
        refine (Hall.out _ (Hh.out.below ?_)).mono ?_
        · (repeat (first | with_reducible exact Below.refl _ _ | with_reducible assumption | (with_reducible refine btrans ?_ (by with_reducible assumption)) | with_reducible refine bdrew ?_ | with_reducible refine balloc ?_ _))
        rintro e w1 ⟨rfl, hb1⟩
        have q0 : w1.cell? ⟨w.heap.size, 0, none⟩ = some (.int .i64 2) := by (repeat (first | with_reducible assumption | (refine newcell _ _ _ _ _ _ ?_ rfl; simp; done) | refine keepcell (by with_reducible assumption) ?_ | refine keepdrew ?_ | refine keepalloc ?_ _))
        have q1 : w1.cell? ⟨w.heap.size, 1, none⟩ = some (.slice (some ⟨b, off, none⟩) 2 cap) := by (repeat (first | with_reducible assumption | (refine newcell _ _ _ _ _ _ ?_ rfl; simp; done) | refine keepcell (by with_reducible assumption) ?_ | refine keepdrew ?_ | refine keepalloc ?_ _))
        have e0 : w1.cell? ⟨b, off, none⟩ = some (.int .i64 x) := by (repeat (first | with_reducible assumption | (refine newcell _ _ _ _ _ _ ?_ rfl; simp; done) | refine keepcell (by with_reducible assumption) ?_ | refine keepdrew ?_ | refine keepalloc ?_ _))
        have e1 : w1.cell? ⟨b, off + 1, none⟩ = some (.int .i64 y) := by (repeat (first | with_reducible assumption | (refine newcell _ _ _ _ _ _ ?_ rfl; simp; done) | refine keepcell (by with_reducible assumption) ?_ | refine keepdrew ?_ | refine keepalloc ?_ _))
        have e2 : w1.cell? ⟨b, off + 2, none⟩ = some (.int .i64 u) := by (repeat (first | with_reducible assumption | (refine newcell _ _ _ _ _ _ ?_ rfl; simp; done) | refine keepcell (by with_reducible assumption) ?_ | refine keepdrew ?_ | refine keepalloc ?_ _))
        have e3 : w1.cell? ⟨b, off + 2 + 1, none⟩ = some (.int .i64 v) := by (repeat (first | with_reducible assumption | (refine newcell _ _ _ _ _ _ ?_ rfl; simp; done) | refine keepcell (by with_reducible assumption) ?_ | refine keepdrew ?_ | refine keepalloc ?_ _))
        have hB1 : Below w.heap.size w w1 := by (repeat (first | with_reducible exact Below.refl _ _ | with_reducible assumption | (with_reducible refine btrans ?_ (by with_reducible assumption)) | with_reducible refine bdrew ?_ | with_reducible refine balloc ?_ _))
        clear c0 c1 d0 d1
        go_wp2_with fail
        go_quiet (fail)
        go_wp2_with fail
        go_ret
        exact ⟨by first | rfl | simp, by first | exact hB1 | exact beldrew hB1 _ | exact beldrew (beldrew hB1 _) _⟩
      · skip
        go_enter Tryz.func11, Tryz.ntmps11
        go_wp2_with fail
        refine (Hall.out _ (Hh.out.below ?_)).mono ?_
        · (repeat (first | with_reducible exact Below.refl _ _ | with_reducible assumption | (with_reducible refine btrans ?_ (by with_reducible assumption)) | with_reducible refine bdrew ?_ | with_reducible refine balloc ?_ _))
        rintro e w1 ⟨rfl, hb1⟩
        have q0 : w1.cell? ⟨w.heap.size, 0, none⟩ = some (.int .i64 2) := by (repeat (first | with_reducible assumption | (refine newcell _ _ _ _ _ _ ?_ rfl; simp; done) | refine keepcell (by with_reducible assumption) ?_ | refine keepdrew ?_ | refine keepalloc ?_ _))
        have q1 : w1.cell? ⟨w.heap.size, 1, none⟩ = some (.slice (some ⟨b, off, none⟩) 2 cap) := by (repeat (first | with_reducible assumption | (refine newcell _ _ _ _ _ _ ?_ rfl; simp; done) | refine keepcell (by with_reducible assumption) ?_ | refine keepdrew ?_ | refine keepalloc ?_ _))
        have e0 : w1.cell? ⟨b, off, none⟩ = some (.int .i64 x) := by (repeat (first | with_reducible assumption | (refine newcell _ _ _ _ _ _ ?_ rfl; simp; done) | refine keepcell (by with_reducible assumption) ?_ | refine keepdrew ?_ | refine keepalloc ?_ _))
        have e1 : w1.cell? ⟨b, off + 1, none⟩ = some (.int .i64 y) := by (repeat (first | with_reducible assumption | (refine newcell _ _ _ _ _ _ ?_ rfl; simp; done) | refine keepcell (by with_reducible assumption) ?_ | refine keepdrew ?_ | refine keepalloc ?_ _))
        have e2 : w1.cell? ⟨b, off + 2, none⟩ = some (.int .i64 u) := by (repeat (first | with_reducible assumption | (refine newcell _ _ _ _ _ _ ?_ rfl; simp; done) | refine keepcell (by with_reducible assumption) ?_ | refine keepdrew ?_ | refine keepalloc ?_ _))
        have e3 : w1.cell? ⟨b, off + 2 + 1, none⟩ = some (.int .i64 v) := by (repeat (first | with_reducible assumption | (refine newcell _ _ _ _ _ _ ?_ rfl; simp; done) | refine keepcell (by with_reducible assumption) ?_ | refine keepdrew ?_ | refine keepalloc ?_ _))
        have hB1 : Below w.heap.size w w1 := by (repeat (first | with_reducible exact Below.refl _ _ | with_reducible assumption | (with_reducible refine btrans ?_ (by with_reducible assumption)) | with_reducible refine bdrew ?_ | with_reducible refine balloc ?_ _))
        clear c0 c1 d0 d1
        go_wp2_with fail
        go_quiet (fail)
        go_wp2_with fail
        go_ret
        exact ⟨by first | rfl | simp, by first | exact hB1 | exact beldrew hB1 _ | exact beldrew (beldrew hB1 _) _⟩
    · have hv : rectb ps = false := by unfold rectb; rw [decide_eq_false hl]; rfl
      rw [hv]
      have hne : ((ps.length : Int) == 2) = false := by rw [beq_eq_false_iff_ne]; omega
      clear hv hl
      go_enter Tryz.func11, Tryz.ntmps11
      go_wp2_with fail
      refine (Hall.out _ (Hh.out.below ?_)).mono ?_
      · (repeat (first | with_reducible exact Below.refl _ _ | with_reducible assumption | (with_reducible refine btrans ?_ (by with_reducible assumption)) | with_reducible refine bdrew ?_ | with_reducible refine balloc ?_ _))
      rintro e w1 ⟨rfl, hb1⟩
      have q0 : w1.cell? ⟨w.heap.size, 0, none⟩ = some (.int .i64 2) := by (repeat (first | with_reducible assumption | (refine newcell _ _ _ _ _ _ ?_ rfl; simp; done) | refine keepcell (by with_reducible assumption) ?_ | refine keepdrew ?_ | refine keepalloc ?_ _))
      have q1 : w1.cell? ⟨w.heap.size, 1, none⟩ = some (.slice a ps.length cap) := by (repeat (first | with_reducible assumption | (refine newcell _ _ _ _ _ _ ?_ rfl; simp; done) | refine keepcell (by with_reducible assumption) ?_ | refine keepdrew ?_ | refine keepalloc ?_ _))
      have hB1 : Below w.heap.size w w1 := by (repeat (first | with_reducible exact Below.refl _ _ | with_reducible assumption | (with_reducible refine btrans ?_ (by with_reducible assumption)) | with_reducible refine bdrew ?_ | with_reducible refine balloc ?_ _))
      go_wp2_with fail
      go_quiet (fail)
      go_wp2_with fail
      go_ret
      exact ⟨by first | rfl | simp, by first | exact hB1 | exact beldrew hB1 _ | exact beldrew (beldrew hB1 _) _⟩
  have q2 : (k == 2) = false := by rw [beq_eq_false_iff_ne]; exact h2
  by_cases h3 : k = 3
  · subst h3
    have hv : shok 3 ps = ringOk ps := by unfold shok; rw [if_neg (by decide), if_neg (by decide), if_neg (by decide), if_pos rfl]
    rw [hv]
    have hl := fun w' (hw : Pts w' a ps) => spec_ring a cap ps w' hm hc Ha.out hw
    generalize ringOk ps = v at *
    have Hl := hid hl
    clear hl hv
    go_enter Tryz.func11, Tryz.ntmps11
    go_wp2_with fail
    refine (Hall.out _ (Hh.out.below ?_)).mono ?_
    · (repeat (first | with_reducible exact Below.refl _ _ | with_reducible assumption | (with_reducible refine btrans ?_ (by with_reducible assumption)) | with_reducible refine bdrew ?_ | with_reducible refine balloc ?_ _))
    rintro e w1 ⟨rfl, hb1⟩
    have qq0 : w1.cell? ⟨w.heap.size, 0, none⟩ = some (.int .i64 3) := by (repeat (first | with_reducible assumption | (refine newcell _ _ _ _ _ _ ?_ rfl; simp; done) | refine keepcell (by with_reducible assumption) ?_ | refine keepdrew ?_ | refine keepalloc ?_ _))
    have qq1 : w1.cell? ⟨w.heap.size, 1, none⟩ = some (.slice a ps.length cap) := by (repeat (first | with_reducible assumption | (refine newcell _ _ _ _ _ _ ?_ rfl; simp; done) | refine keepcell (by with_reducible assumption) ?_ | refine keepdrew ?_ | refine keepalloc ?_ _))
    go_wp2_with fail
    refine (Hl.out _ (Hh.out.below ?_)).mono ?_
    · (repeat (first | with_reducible exact Below.refl _ _ | with_reducible assumption | (with_reducible refine btrans ?_ (by with_reducible assumption)) | with_reducible refine bdrew ?_ | with_reducible refine balloc ?_ _))
    rintro e w2 ⟨rfl, hb2⟩
    go_wp2_with fail
    go_ret
    exact ⟨rfl, by (repeat (first | with_reducible exact Below.refl _ _ | with_reducible assumption | (with_reducible refine btrans ?_ (by with_reducible assumption)) | with_reducible refine bdrew ?_ | with_reducible refine balloc ?_ _))⟩
  have q3 : (k == 3) = false := by rw [beq_eq_false_iff_ne]; exact h3
  have hv : shok k ps = false := by unfold shok; rw [if_neg h0, if_neg h1, if_neg h2, if_neg h3]
  rw [hv]
  clear hv
  go_enter Tryz.func11, Tryz.ntmps11
  go_wp2_with fail
  refine (Hall.out _ (Hh.out.below ?_)).mono ?_
  · (repeat (first | with_reducible exact Below.refl _ _ | with_reducible assumption | (with_reducible refine btrans ?_ (by with_reducible assumption)) | with_reducible refine bdrew ?_ | with_reducible refine balloc ?_ _))
  rintro e w1 ⟨rfl, hb1⟩
  have qq0 : w1.cell? ⟨w.heap.size, 0, none⟩ = some (.int .i64 k) := by (repeat (first | with_reducible assumption | (refine newcell _ _ _ _ _ _ ?_ rfl; simp; done) | refine keepcell (by with_reducible assumption) ?_ | refine keepdrew ?_ | refine keepalloc ?_ _))
  have qq1 : w1.cell? ⟨w.heap.size, 1, none⟩ = some (.slice a ps.length cap) := by (repeat (first | with_reducible assumption | (refine newcell _ _ _ _ _ _ ?_ rfl; simp; done) | refine keepcell (by with_reducible assumption) ?_ | refine keepdrew ?_ | refine keepalloc ?_ _))
  go_wp2_with fail
  go_ret
  exact ⟨rfl, by (repeat (first | with_reducible exact Below.refl _ _ | with_reducible assumption | (with_reducible refine btrans ?_ (by with_reducible assumption)) | with_reducible refine bdrew ?_ | with_reducible refine balloc ?_ _))⟩
end Go.Proofs.YtjafahhoihlliaaGreatDoor
