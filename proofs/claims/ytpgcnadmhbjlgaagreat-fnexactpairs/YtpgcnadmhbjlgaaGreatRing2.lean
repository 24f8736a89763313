/- What is inside of what points go around: the landed function's face and the specification's. -/
import Derived.Test.YtpgcnadmhbjlgaaGreatRing
import Derived.Test.YtpgcnadmhbjlgaaGreatGeo6
import Derived.Test.YtpgcnadmhbjlgaaGreatGeo8
import Derived.Deep.DeepCutAuto
namespace Go.Proofs.YtpgcnadmhbjlgaaGreat
open Go.RowKit
set_option linter.unusedSimpArgs false
set_option linter.unusedVariables false
theorem cell2f {w : World} {p : Nat} {a b : Value} {t : TypeId} (h : w.heap[p]? = some (.cells #[a, b] t (0, 0))) : w.cell? ⟨p, 0, none⟩ = some a ∧ w.cell? ⟨p, 1, none⟩ = some b ∧ w.frozen? ⟨p, 0, none⟩ = false ∧ w.frozen? ⟨p, 1, none⟩ = false := by
  refine ⟨?_, ?_, ?_, ?_⟩ <;> simp [World.cell?, World.frozen?, h]
theorem keepheap2 {w w' : World} (hb : Below w.heap.size w w') {b : Nat} {o : Obj} (h : w.heap[b]? = some o) : w'.heap[b]? = some o := by
  rw [hb.block b (Array.getElem?_eq_some_iff.1 h).1]; exact h
def inringv (px py : Int) (ps : List (Int × Int)) : Int := if ps.length ≤ 1000 ∧ pok px py = true ∧ allok ps = true then ringv px py ps else -1
set_option maxHeartbeats 2000000 in
theorem spec_InRing (px py : Int) (a : Option Addr) (cap : Nat) (ps : List (Int × Int)) (w : World) (hm : ps.length ≤ 1099511627776) (hc : ps.length ≤ cap) (h : Pts w a ps) : Calls Tryz.prog 64 #[.agg #[.int .i64 px, .int .i64 py], .slice a ps.length cap] w fun e w' => e = .returned (.int .i64 (inringv px py ps)) ∧ Below w.heap.size w w' := by
  have Hh := hid h
  clear h
  have hpk := fun w' => spec_pointok px py w'
  cases hp : pok px py
  · have hv : inringv px py ps = -1 := by unfold inringv; rw [if_neg (by simp [hp])]
    rw [hp] at hpk
    have Hpk := hid hpk
    clear hpk
    go_enter Tryz.func64, Tryz.ntmps64
    go_wp2_with fail
    refine (Hpk.out _).mono ?_
    rintro e w1 ⟨rfl, rfl⟩
    go_wp2_with fail
    go_ret
    exact ⟨by rw [hv]; rfl, by (repeat (first | exact Below.refl _ _ | (refine btrans ?_ (by with_reducible assumption)) | refine bdrew ?_ | refine balloc ?_ _))⟩
  rw [hp] at hpk
  have Hpk := hid hpk
  clear hpk
  have hall := fun w' (hw : Pts w' a ps) => spec_all a cap ps w' hm hc hw
  cases ha : allok ps
  · have hv : inringv px py ps = -1 := by unfold inringv; rw [if_neg (by simp [ha])]
    rw [ha] at hall
    have Hall := hid hall
    clear hall
    go_enter Tryz.func64, Tryz.ntmps64
    go_wp2_with fail
    refine (Hpk.out _).mono ?_
    rintro e w1 ⟨rfl, rfl⟩
    go_wp2_with fail
    refine (Hall.out _ (Hh.out.below ?_)).mono ?_
    · (repeat (first | exact Below.refl _ _ | (refine btrans ?_ (by with_reducible assumption)) | refine bdrew ?_ | refine balloc ?_ _))
    rintro e w2 ⟨rfl, hb2⟩
    go_wp2_with fail
    go_ret
    exact ⟨by rw [hv]; rfl, by (repeat (first | exact Below.refl _ _ | (refine btrans ?_ (by with_reducible assumption)) | refine bdrew ?_ | refine balloc ?_ _))⟩
  rw [ha] at hall
  have Hall := hid hall
  clear hall
  by_cases hl : (1000 : Int) < (ps.length : Int)
  · have hv : inringv px py ps = -1 := by unfold inringv; rw [if_neg (by omega)]
    go_enter Tryz.func64, Tryz.ntmps64
    go_wp2_with fail
    refine (Hpk.out _).mono ?_
    rintro e w1 ⟨rfl, rfl⟩
    go_wp2_with fail
    refine (Hall.out _ (Hh.out.below ?_)).mono ?_
    · (repeat (first | exact Below.refl _ _ | (refine btrans ?_ (by with_reducible assumption)) | refine bdrew ?_ | refine balloc ?_ _))
    rintro e w2 ⟨rfl, hb2⟩
    go_wp2_with fail
    go_ret
    exact ⟨by rw [hv]; rfl, by (repeat (first | exact Below.refl _ _ | (refine btrans ?_ (by with_reducible assumption)) | refine bdrew ?_ | refine balloc ?_ _))⟩
  have hv : inringv px py ps = ringv px py ps := by unfold inringv; rw [if_pos ⟨by omega, hp, ha⟩]
  obtain ⟨i1, i2⟩ := in_of_pok hp
  have Hv := hid hv
  have Ha := hid ha
  clear hv ha hp
  go_enter Tryz.func64, Tryz.ntmps64
  go_wp2_with fail
  refine (Hpk.out _).mono ?_
  rintro e w1 ⟨rfl, rfl⟩
  go_wp2_with fail
  refine (Hall.out _ (Hh.out.below ?_)).mono ?_
  · (repeat (first | exact Below.refl _ _ | (refine btrans ?_ (by with_reducible assumption)) | refine bdrew ?_ | refine balloc ?_ _))
  rintro e w2 ⟨rfl, hb2⟩
  have q0 : w2.cell? ⟨w.heap.size, 0, none⟩ = some (.int .i64 px) := by (repeat (first | with_reducible assumption | (refine newcell _ _ _ _ _ _ ?_ rfl; simp; done) | refine keepcell (by with_reducible assumption) ?_ | refine keepdrew ?_ | refine keepalloc ?_ _))
  have q1 : w2.cell? ⟨w.heap.size, 1, none⟩ = some (.int .i64 py) := by (repeat (first | with_reducible assumption | (refine newcell _ _ _ _ _ _ ?_ rfl; simp; done) | refine keepcell (by with_reducible assumption) ?_ | refine keepdrew ?_ | refine keepalloc ?_ _))
  have hb2' : Below w.heap.size w w2 := by (repeat (first | exact Below.refl _ _ | (refine btrans ?_ (by with_reducible assumption)) | refine bdrew ?_ | refine balloc ?_ _))
  go_wp2_with fail
  go_loopw [5, 6] (fun tw ti wr => ∃ k : Nat, tw = .bool (oddTo px py ps k) ∧ ti = .int .i64 k ∧ k ≤ ps.length ∧ Below w.heap.size w wr ∧ wr.cell? ⟨w.heap.size, 0, none⟩ = some (.int .i64 px) ∧ wr.cell? ⟨w.heap.size, 1, none⟩ = some (.int .i64 py) ∧ Hid (∀ j, j < k → sideOn px py ps j = false)) (fun _ ti _ => ps.length - (intOf ti).toNat)
  case atStart => exact ⟨0, rfl, rfl, Nat.zero_le _, hb2', q0, q1, fun j hj => absurd hj (by omega)⟩
  case round =>
    clear hb2 hb2' q0 q1
    obtain ⟨k, rfl, rfl, hk, hb, p0, p1, H⟩ := hrel
    by_cases hlt : k < ps.length
    · have hp := Hh.out.below hb
      obtain ⟨i3, i4⟩ := allok_in Ha.out k hlt
      obtain ⟨i5, i6⟩ := nxt_in Ha.out k hlt
      have hon := fun w' => spec_onside_in px py (ps.getD k (0, 0)).1 (ps.getD k (0, 0)).2 (nxt ps k).1 (nxt ps k).2 i1 i2 i3 i4 i5 i6 w'
      have hs1 : sideOn px py ps k = onb px py (ps.getD k (0, 0)).1 (ps.getD k (0, 0)).2 (nxt ps k).1 (nxt ps k).2 := rfl
      have hs2 : oddTo px py ps (k + 1) = (oddTo px py ps k != wayb px py (ps.getD k (0, 0)).1 (ps.getD k (0, 0)).2 (nxt ps k).1 (nxt ps k).2) := rfl
      rcases hp with rfl | ⟨b, off, rfl, hbs, hq⟩
      · simp at hlt
      obtain ⟨c0, c1⟩ := hq k hlt
      have hj : (k + 1) % ps.length < ps.length := Nat.mod_lt _ (by omega)
      obtain ⟨d0, d1⟩ := hq _ hj
      have e1 : ((k : Int) + 1).tmod (ps.length : Int) = (((k + 1) % ps.length : Nat) : Int) := by
        rw [show ((k : Int) + 1) = ((k + 1 : Nat) : Int) by omega]; rfl
      have hz : ¬ ((ps.length : Int) = 0) := by omega
      have hz1 : ¬ ps = [] := by rintro rfl; simp at hlt
      have hz2 : ¬ ps.length = 0 := by omega
      have e3 : nxt ps k = ps.getD ((k + 1) % ps.length) (0, 0) := rfl
      rw [← e3] at d0 d1
      clear e3
      generalize (ps.getD k (0, 0)).1 = x at *
      generalize (ps.getD k (0, 0)).2 = y at *
      generalize (nxt ps k).1 = u at *
      generalize (nxt ps k).2 = v at *
      generalize (k + 1) % ps.length = j at *
      generalize onb px py x y u v = on at *
      generalize oddTo px py ps k = od at *
      have Hq := hid hq
      have Hon := hid hon
      have Hs1 := hid hs1
      have Hs2 := hid hs2
      clear hq hon hs1 hs2
      have hk0 : (0 : Int) ≤ (k : Int) := by omega
      have hk1 : (k : Int) < (ps.length : Int) := by omega
      have hj0 : (0 : Int) ≤ (j : Int) := by omega
      have hj1 : (j : Int) < (ps.length : Int) := by omega
      have hadd : IntKind.i64.wrap ((k : Int) + 1) = (k : Int) + 1 := by rw [IntKind.wrap_i64]; omega
      have hw0 : w.heap.size < wr.heap.size := World.block_lt_of_cell? wr _ p0
      go_wp2_with fail
      go_cut [7, 8] (fun t7 t8 wx => ∃ ba bb : Nat, t7 = .pointer (some ⟨ba, 0, none⟩) ∧ t8 = .pointer (some ⟨bb, 0, none⟩) ∧ ba ≠ bb ∧ wr.heap.size ≤ ba ∧ wr.heap.size ≤ bb ∧ Below wr.heap.size wr wx ∧ wx.heap[ba]? = some (.cells #[.int .i64 x, .int .i64 y] 76 (0, 0)) ∧ wx.heap[bb]? = some (.cells #[.int .i64 u, .int .i64 v] 76 (0, 0)))
      case first =>
        go_region_held3 (fun w' => w'.cell? ⟨b, off + k * 2, none⟩ = some (.int .i64 x) ∧ w'.cell? ⟨b, off + k * 2 + 1, none⟩ = some (.int .i64 y) ∧ w'.cell? ⟨b, off + j * 2, none⟩ = some (.int .i64 u) ∧ w'.cell? ⟨b, off + j * 2 + 1, none⟩ = some (.int .i64 v)) ((go_split_ands; (repeat' apply And.intro) <;> (repeat (first | with_reducible assumption | (refine newcell _ _ _ _ _ _ ?_ rfl; simp; done) | refine keepcell (by with_reducible assumption) ?_ | refine keepdrew ?_ | refine keepalloc ?_ _))))
          (first
            | (fail))
        all_goals
          go_wp2_with fail
          go_meet
          first
            | exact ⟨_, _, rfl, rfl, by omega, by omega, by omega, by (repeat (first | exact Below.refl _ _ | (refine btrans ?_ (by with_reducible assumption)) | refine bdrew ?_ | refine balloc ?_ _)), old_alloc (new_alloc _ _ _ (by simp)), new_alloc _ _ _ (by simp)⟩
            | exact ⟨_, _, rfl, rfl, by omega, by omega, by omega, by (repeat (first | exact Below.refl _ _ | (refine btrans ?_ (by with_reducible assumption)) | refine bdrew ?_ | refine balloc ?_ _)), new_alloc _ _ _ (by simp), old_alloc (new_alloc _ _ _ (by simp))⟩
      case rest =>
        obtain ⟨ba, bb, rfl, rfl, hne, hba, hbb, hbx, ga, gb⟩ := hcut
        have hne' : bb ≠ ba := Ne.symm hne
        have r0 : wc.cell? ⟨w.heap.size, 0, none⟩ = some (.int .i64 px) := keepcell hbx p0
        have r1 : wc.cell? ⟨w.heap.size, 1, none⟩ = some (.int .i64 py) := keepcell hbx p1
        obtain ⟨ga0, ga1, _, _⟩ := cell2f ga
        obtain ⟨gb0, gb1, _, _⟩ := cell2f gb
        have Ga := hid ga
        have Gb := hid gb
        have P0 := hid p0
        have P1 := hid p1
        clear ga gb p0 p1 c0 c1 d0 d1
        go_wp2_with fail
        refine (Hon.out _).mono ?_
        rintro e w3 ⟨rfl, hb3⟩
        have ga3 := keepheap2 hb3 Ga.out
        have gb3 := keepheap2 hb3 Gb.out
        have s0 : w3.cell? ⟨w.heap.size, 0, none⟩ = some (.int .i64 px) := keepcell hb3 r0
        have s1 : w3.cell? ⟨w.heap.size, 1, none⟩ = some (.int .i64 py) := keepcell hb3 r1
        have hba3 : ba < w3.heap.size := Nat.lt_of_lt_of_le (World.block_lt_of_cell? wc _ ga0) hb3.size
        have hbb3 : bb < w3.heap.size := Nat.lt_of_lt_of_le (World.block_lt_of_cell? wc _ gb0) hb3.size
        clear ga0 ga1 gb0 gb1 r0 r1
        obtain ⟨ga0, ga1, fa0, fa1⟩ := cell2f ga3
        obtain ⟨gb0, gb1, fb0, fb1⟩ := cell2f gb3
        have Ga3 := hid ga3
        have Gb3 := hid gb3
        clear ga3 gb3
        have hb3' : Below wr.heap.size wr w3 := by (repeat (first | exact Below.refl _ _ | (refine btrans ?_ (by with_reducible assumption)) | refine bdrew ?_ | refine balloc ?_ _))
        cases on
        · clear Hon Hpk Hall
          by_cases hsw : v < y
          · have h1 : ¬ ba = w3.heap.size := by omega
            have h2 : ¬ bb = w3.heap.size := by omega
            have h1' : ¬ w3.heap.size = ba := by omega
            have h2' : ¬ w3.heap.size = bb := by omega
            have hpa : ¬ w.heap.size = ba := by omega
            have hpb : ¬ w.heap.size = bb := by omega
            go_upto_if 49 with (fail)
            go_cut [7, 8] (fun t7 t8 wx => t7 = .pointer (some ⟨ba, 0, none⟩) ∧ t8 = .pointer (some ⟨bb, 0, none⟩) ∧ Below wr.heap.size wr wx ∧ wx.heap[ba]? = some (.cells #[.int .i64 u, .int .i64 v] 76 (0, 0)) ∧ wx.heap[bb]? = some (.cells #[.int .i64 x, .int .i64 y] 76 (0, 0)))
            case first =>
              go_wp2_with fail
              go_meet
              exact ⟨rfl, rfl, balloc ((((hb3'.setCell hba _).setCell hba _).setCell hbb _).setCell hbb _) _, old_alloc (set_far (set_far (set_at (set_at Ga3.out)) hne) hne), old_alloc (set_at (set_at (set_far (set_far Gb3.out hne') hne')))⟩
            case rest =>
              obtain ⟨rfl, rfl, hb4, ga4, gb4⟩ := hcut
              have hw1 : w.heap.size < wr.heap.size := hw0
              clear s0 s1 ga0 ga1 gb0 gb1 fa0 fa1 fb0 fb1
              have s0 := hb4.cell (p := ⟨w.heap.size, 0, none⟩) hw0
              have s1 := hb4.cell (p := ⟨w.heap.size, 1, none⟩) hw0
              rw [P0.out] at s0
              rw [P1.out] at s1
              obtain ⟨ga0, ga1, _, _⟩ := cell2f ga4
              obtain ⟨gb0, gb1, _, _⟩ := cell2f gb4
              clear ga4 gb4 hb3 hb3' Ga3 Gb3 Ga Gb h1 h2 h1' h2' hpa hpb
              have hwb : wayb px py x y u v = (decide (v ≤ py) && decide (py < y) && decide (0 < cr u v x y px py)) := by unfold wayb; rw [if_pos hsw]
              have Hwb := hid hwb
              clear hwb
              cases g1 : decide (v ≤ py)
              · rw [g1] at Hwb
                go_wp2_with fail
                go_roundw
                case rel =>
                  refine ⟨k + 1, by rw [Hs2.out, Hwb.out]; cases od <;> rfl, by go_num, by omega, by (first | (exact btrans hb (by (repeat (first | exact Below.refl _ _ | (refine btrans ?_ (by with_reducible assumption)) | refine bdrew ?_ | refine balloc ?_ _))))), s0, s1, hid fun j' hj' => ?_⟩
                  by_cases e : j' = k
                  · subst e; rw [Hs1.out]
                  · exact H.out j' (by omega)
                case measure => simp [intOf]; omega
              cases g2 : decide (py < y)
              · rw [g1, g2] at Hwb
                go_wp2_with fail
                go_roundw
                case rel =>
                  refine ⟨k + 1, by rw [Hs2.out, Hwb.out]; cases od <;> rfl, by go_num, by omega, by (first | (exact btrans hb (by (repeat (first | exact Below.refl _ _ | (refine btrans ?_ (by with_reducible assumption)) | refine bdrew ?_ | refine balloc ?_ _))))), s0, s1, hid fun j' hj' => ?_⟩
                  by_cases e : j' = k
                  · subst e; rw [Hs1.out]
                  · exact H.out j' (by omega)
                case measure => simp [intOf]; omega
              have ht := fun w' => spec_cross u v x y px py i5 i6 i3 i4 i1 i2 w'
              rw [g1, g2] at Hwb
              generalize cr u v x y px py = z at *
              have Ht := hid ht
              clear ht
              go_wp2_with fail
              refine (Ht.out _).mono ?_
              rintro e w5 ⟨rfl, hb5⟩
              have v0 : w5.cell? ⟨w.heap.size, 0, none⟩ = some (.int .i64 px) := by (repeat (first | with_reducible assumption | (refine newcell _ _ _ _ _ _ ?_ rfl; simp; done) | refine keepcell (by with_reducible assumption) ?_ | refine keepdrew ?_ | refine keepalloc ?_ _))
              have v1 : w5.cell? ⟨w.heap.size, 1, none⟩ = some (.int .i64 py) := by (repeat (first | with_reducible assumption | (refine newcell _ _ _ _ _ _ ?_ rfl; simp; done) | refine keepcell (by with_reducible assumption) ?_ | refine keepdrew ?_ | refine keepalloc ?_ _))
              cases g3 : decide (0 < z)
              · rw [g3] at Hwb
                go_wp2_with fail
                go_roundw
                case rel =>
                  refine ⟨k + 1, by rw [Hs2.out, Hwb.out]; cases od <;> rfl, by go_num, by omega, by (first | (exact btrans hb (by (repeat (first | exact Below.refl _ _ | (refine btrans ?_ (by with_reducible assumption)) | refine bdrew ?_ | refine balloc ?_ _))))), v0, v1, hid fun j' hj' => ?_⟩
                  by_cases e : j' = k
                  · subst e; rw [Hs1.out]
                  · exact H.out j' (by omega)
                case measure => simp [intOf]; omega
              · rw [g3] at Hwb
                go_wp2_with fail
                go_roundw
                case rel =>
                  refine ⟨k + 1, by rw [Hs2.out, Hwb.out]; cases od <;> rfl, by go_num, by omega, by (first | (exact btrans hb (by (repeat (first | exact Below.refl _ _ | (refine btrans ?_ (by with_reducible assumption)) | refine bdrew ?_ | refine balloc ?_ _))))), v0, v1, hid fun j' hj' => ?_⟩
                  by_cases e : j' = k
                  · subst e; rw [Hs1.out]
                  · exact H.out j' (by omega)
                case measure => simp [intOf]; omega
          · have hsw' : ¬ (y > v) := hsw
            have hb4 := hb3'
            clear hb3 hb3' Ga3 Gb3 Ga Gb
            have hwb : wayb px py x y u v = (decide (y ≤ py) && decide (py < v) && decide (0 < cr x y u v px py)) := by unfold wayb; rw [if_neg hsw]
            have Hwb := hid hwb
            clear hwb
            cases g1 : decide (y ≤ py)
            · rw [g1] at Hwb
              go_wp2_with fail
              go_roundw
              case rel =>
                refine ⟨k + 1, by rw [Hs2.out, Hwb.out]; cases od <;> rfl, by go_num, by omega, by (first | (exact btrans hb (by (repeat (first | exact Below.refl _ _ | (refine btrans ?_ (by with_reducible assumption)) | refine bdrew ?_ | refine balloc ?_ _))))), s0, s1, hid fun j' hj' => ?_⟩
                by_cases e : j' = k
                · subst e; rw [Hs1.out]
                · exact H.out j' (by omega)
              case measure => simp [intOf]; omega
            cases g2 : decide (py < v)
            · rw [g1, g2] at Hwb
              go_wp2_with fail
              go_roundw
              case rel =>
                refine ⟨k + 1, by rw [Hs2.out, Hwb.out]; cases od <;> rfl, by go_num, by omega, by (first | (exact btrans hb (by (repeat (first | exact Below.refl _ _ | (refine btrans ?_ (by with_reducible assumption)) | refine bdrew ?_ | refine balloc ?_ _))))), s0, s1, hid fun j' hj' => ?_⟩
                by_cases e : j' = k
                · subst e; rw [Hs1.out]
                · exact H.out j' (by omega)
              case measure => simp [intOf]; omega
            have ht := fun w' => spec_cross x y u v px py i3 i4 i5 i6 i1 i2 w'
            rw [g1, g2] at Hwb
            generalize cr x y u v px py = z at *
            have Ht := hid ht
            clear ht
            go_wp2_with fail
            refine (Ht.out _).mono ?_
            rintro e w5 ⟨rfl, hb5⟩
            have v0 : w5.cell? ⟨w.heap.size, 0, none⟩ = some (.int .i64 px) := by (repeat (first | with_reducible assumption | (refine newcell _ _ _ _ _ _ ?_ rfl; simp; done) | refine keepcell (by with_reducible assumption) ?_ | refine keepdrew ?_ | refine keepalloc ?_ _))
            have v1 : w5.cell? ⟨w.heap.size, 1, none⟩ = some (.int .i64 py) := by (repeat (first | with_reducible assumption | (refine newcell _ _ _ _ _ _ ?_ rfl; simp; done) | refine keepcell (by with_reducible assumption) ?_ | refine keepdrew ?_ | refine keepalloc ?_ _))
            cases g3 : decide (0 < z)
            · rw [g3] at Hwb
              go_wp2_with fail
              go_roundw
              case rel =>
                refine ⟨k + 1, by rw [Hs2.out, Hwb.out]; cases od <;> rfl, by go_num, by omega, by (first | (exact btrans hb (by (repeat (first | exact Below.refl _ _ | (refine btrans ?_ (by with_reducible assumption)) | refine bdrew ?_ | refine balloc ?_ _))))), v0, v1, hid fun j' hj' => ?_⟩
                by_cases e : j' = k
                · subst e; rw [Hs1.out]
                · exact H.out j' (by omega)
              case measure => simp [intOf]; omega
            · rw [g3] at Hwb
              go_wp2_with fail
              go_roundw
              case rel =>
                refine ⟨k + 1, by rw [Hs2.out, Hwb.out]; cases od <;> rfl, by go_num, by omega, by (first | (exact btrans hb (by (repeat (first | exact Below.refl _ _ | (refine btrans ?_ (by with_reducible assumption)) | refine bdrew ?_ | refine balloc ?_ _))))), v0, v1, hid fun j' hj' => ?_⟩
                by_cases e : j' = k
                · subst e; rw [Hs1.out]
                · exact H.out j' (by omega)
              case measure => simp [intOf]; omega
        · go_wp2_with fail
          go_ret
          exact ⟨by rw [Hv.out, ringv_on hlt Hs1.out]; rfl, by exact btrans hb hb3'⟩
    · have hk' : k = ps.length := by omega
      subst hk'
      have hrv := hid (ringv_off H.out)
      generalize oddTo px py ps ps.length = od at *
      cases od
      · go_wp2_with fail
        go_ret
        exact ⟨by rw [Hv.out, hrv.out]; rfl, hb⟩
      · go_wp2_with fail
        go_ret
        exact ⟨by rw [Hv.out, hrv.out]; rfl, hb⟩
end Go.Proofs.YtpgcnadmhbjlgaaGreat
