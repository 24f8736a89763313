/- Texts of stores, joined: RwS, RwG. -/
import Derived.Deep.RegionHeld3
import Derived.Deep.CutRange
import Derived.Test.YtenlhgnobfadgaaGreatDoorJ8
import Derived.Maps.AppendAt
set_option maxRecDepth 100000
set_option maxHeartbeats 4000000
set_option linter.unusedSimpArgs false
set_option linter.unusedVariables false
namespace Go.Proofs.YtenlhgnobfadgaaGreatDoor
open Go.RowKit
def rowb (now : Int) (r : Rw) : Bool := rwb now r && shok r.2.2.2.1 r.2.2.2.2
def rowsb (now : Int) (rs : List Rw) : Bool := (decide (0 ≤ now) && decide (rs.length ≤ 300)) && (rs.all (rowb now) && apartR (rs.map tr))
theorem rowsb_now {now : Int} {rs : List Rw} (h : now < 0) : rowsb now rs = false := by
 unfold rowsb; rw [show decide (0 ≤ now) = false by simpa using h]; rfl
theorem rowsb_long {now : Int} {rs : List Rw} (h : 300 < rs.length) : rowsb now rs = false := by
 unfold rowsb; rw [show decide (rs.length ≤ 300) = false by simpa using h]; simp
theorem rowsb_row {now : Int} {rs : List Rw} {m : Nat} (h : m < rs.length) (hr : rowb now rs[m] = false) : rowsb now rs = false := by
 have ha : rs.all (rowb now) = false := by
  cases ha : rs.all (rowb now)
  ·rfl
  ·rw [List.all_eq_true.1 ha _ (List.getElem_mem h)] at hr; cases hr
 unfold rowsb; rw [ha]; simp
theorem rowsb_clash {now : Int} {rs : List Rw} {i k : Nat} (hi : i < rs.length) (hk : k < i) (hc : clash (tr rs[i]) (tr (rs[k]'(by omega))) = true) : rowsb now rs = false := by
 have ha : apartR (rs.map tr) = false := by
  cases ha : apartR (rs.map tr)
  ·rfl
  ·have hp := List.pairwise_iff_getElem.1 ((apartR_iff _).1 ha) k i (by simp; omega) (by simpa using hi) hk
   simp only [List.getElem_map] at hp
   rw [clash_comm, hc] at hp; cases hp
 unfold rowsb; rw [ha]; simp
theorem rowsb_yes {now : Int} {rs : List Rw} (h0 : 0 ≤ now) (hl : rs.length ≤ 300) (hr : ∀ m (h : m < rs.length), rowb now rs[m] = true) (ha : apartR (rs.map tr) = true) : rowsb now rs = true := by
 have hall : rs.all (rowb now) = true := List.all_eq_true.2 fun x hx => by
  obtain ⟨m, hm, rfl⟩ := List.mem_iff_getElem.1 hx
  exact hr m hm
 unfold rowsb
 rw [hall, ha]
 simp [h0, hl]
theorem apartR_next {rs : List Rw} {i : Nat} (hi : i < rs.length) (ha : apartR ((rs.map tr).take i) = true) (hc : ∀ m (h : m < rs.length), m < i → clash (tr rs[i]) (tr rs[m]) = false) : apartR ((rs.map tr).take (i + 1)) = true := by
 have e : (rs.map tr).take (i + 1) = (rs.map tr).take i ++ [tr rs[i]] := by
  rw [List.take_add_one, List.getElem?_map, List.getElem?_eq_getElem hi]; rfl
 rw [e, apartR_snoc, ha, Bool.true_and, List.all_eq_true]
 intro y hy
 obtain ⟨m, hm, rfl⟩ := List.mem_iff_getElem.1 hy
 simp only [List.length_take, List.length_map] at hm
 rw [List.getElem_take, List.getElem_map, clash_comm, hc m (by omega) (by omega)]
 rfl
theorem spec_RowsOk {N : Nat → Prop} (now : Int) (a : Option Addr) (cap : Nat) (rs : List Rw) (w : World) (hm : rs.length ≤ 1099511627776) (h : Rws N w a rs) : Calls Tryz.prog 74 #[.agg #[.int .i64 now, .slice a rs.length cap]] w fun e w' => e = .returned (.bool (rowsb now rs)) ∧ Below w.heap.size w w' := by
  have HR := hid h
  clear h
  obtain ⟨n, hn⟩ : ∃ n, n = rs.length := ⟨_, rfl⟩
  have HN := hid hn.symm
  rw [← hn] at hm ⊢
  clear hn
  by_cases h0 : now < 0
  · rw [rowsb_now h0]
    go_enter Tryz.func74, Tryz.ntmps74
    go_wp2_with fail
    go_ret
    exact ⟨rfl, balloc (Below.refl _ _) _⟩
  by_cases hl : 300 < n
  · rw [rowsb_long (by rw [HN.out]; exact hl)]
    have hl' : (300 : Int) < (n : Int) := by omega
    go_enter Tryz.func74, Tryz.ntmps74
    go_wp2_with fail
    go_ret
    exact ⟨rfl, balloc (Below.refl _ _) _⟩
  have hl' : (n : Int) ≤ 300 := by omega
  have hld : decide ((300 : Int) < (n : Int)) = false := by rw [decide_eq_false_iff_not]; omega
  go_enter Tryz.func74, Tryz.ntmps74
  go_wp2_with fail
  have g1 := new_alloc w w.heap.size (.cells #[.int .i64 now, .slice a n cap] 32) rfl
  have hB := balloc (Below.refl w.heap.size w) (.cells #[.int .i64 now, .slice a n cap] 32)
  generalize w.alloc (.cells #[.int .i64 now, .slice a n cap] 32) = W at *
  clear hld
  go_loopw [3] (fun ti wr => ∃ i : Nat, ti = .int .i64 i ∧ i ≤ n ∧ Hid (∀ m (h : m < rs.length), m < i → rowb now rs[m] = true) ∧ Hid (apartR ((rs.map tr).take i) = true) ∧ Hid (wr.heap[w.heap.size]? = some (.cells #[.int .i64 now, .slice a n cap] 32 (0, 0))) ∧ Hid (Below w.heap.size w wr)) (fun ti _ => n - (intOf ti).toNat)
  case atStart => exact ⟨0, rfl, Nat.zero_le _, hid (fun m h hh => absurd hh (by omega)), hid (by simp [apartR]), hid g1, hid hB⟩
  case round =>
    clear g1 hB
    obtain ⟨i, rfl, hi, HA, HP, G1, HBW⟩ := hrel
    obtain ⟨d0, d1, _, _⟩ := cell2f G1.out
    by_cases hlt : i < n
    · have c1 : (i : Int) < (n : Int) := by omega
      have hir : i < rs.length := by rw [HN.out]; exact hlt
      obtain ⟨b, o, rfl, hbs, a', cap', k0, k1, k2, k3, k4, k5, k6, k7, _⟩ := (HR.out.below HBW.out).at i hir
      have HID := hid (fun w => spec_id rs[i].1 w)
      have HIN := hid (fun w => in_r rs[i].2.1 1 now w)
      have HSO := hid (fun (W : World) (hb : Below wr.heap.size wr W) => spec_ShapeOk rs[i].2.2.2.1 a' cap' rs[i].2.2.2.2 W k6 k5 (k7.below hb))
      unfold shv at HSO
      have hrb : rowb now rs[i] = (idb rs[i].1 && (decide (1 ≤ rs[i].2.1) && decide (rs[i].2.1 ≤ now)) && (decide (rs[i].2.2.1 = 0) || (decide (rs[i].2.1 < rs[i].2.2.1) && decide (rs[i].2.2.1 ≤ now))) && shok rs[i].2.2.2.1 rs[i].2.2.2.2) := rfl
      have HRB := hid hrb
      clear hrb k5 k6 k7
      have HCL := hid (fun (k : Nat) (hk : k < rs.length) (hki : k < i) (hc : clash (tr rs[i]) (tr rs[k]) = true) => rowsb_clash (now := now) (rs := rs) (i := i) (k := k) hir hki hc)
      have HRF := hid (fun (hr : rowb now rs[i] = false) => rowsb_row (now := now) hir hr)
      have HNX := hid (fun (hc : ∀ m (h : m < rs.length), m < i → clash (tr rs[i]) (tr rs[m]) = false) => apartR_next hir HP.out hc)
      have hti : tr rs[i] = (rs[i].1, rs[i].2.1, rs[i].2.2.1) := rfl
      rw [hti] at HCL HNX
      have HTH := hid (fun (t : Int) (W : World) => spec_there rs[i] a' cap' t W)
      rw [hti] at HTH
      unfold rwv at HTH
      clear hti
      generalize hrow : rowb now rs[i] = rb at *
      have HROW := hid hrow
      clear hrow
      generalize rs[i].1 = id at *
      generalize rs[i].2.1 = fr at *
      generalize rs[i].2.2.1 = te at *
      generalize rs[i].2.2.2.1 = kd at *
      generalize rs[i].2.2.2.2 = ps at *
      go_upto_region 7 with fail
      have hBx : Below wr.heap.size wr (wr.alloc (.cells #[.int .i64 id, .int .i64 fr, .int .i64 te, .int .i64 kd, .slice a' ps.length cap'] 65)) := balloc (Below.refl _ _) _
      have gx := new_alloc wr wr.heap.size (.cells #[.int .i64 id, .int .i64 fr, .int .i64 te, .int .i64 kd, .slice a' ps.length cap'] 65) rfl
      have g1 := keepheap2 hBx G1.out
      have hB := btrans HBW.out hBx
      have hlx := lt_of_block G1.out
      have HBX := hid hBx
      clear hBx d0 d1 k0 k1 k2 k3 k4
      generalize wr.alloc (.cells #[.int .i64 id, .int .i64 fr, .int .i64 te, .int .i64 kd, .slice a' ps.length cap'] 65) = W1 at *
      have hlx1 := lt_of_block gx
      have HX0 := hid (show wr.heap.size = wr.heap.size from rfl)
      obtain ⟨X, hX⟩ : ∃ X, X = wr.heap.size := ⟨_, rfl⟩
      rw [← hX] at gx hlx hlx1 ⊢
      have HXE := hid hX
      clear hX HX0
      obtain ⟨d0, d1, _, _⟩ := cell2f g1
      obtain ⟨⟨x0, x1, x2, x3, x4⟩, _⟩ := cell5g gx
      go_cut [64] from 28 to 64 (fun t wx => t = .bool (!rb) ∧ Hid (Below W1.heap.size W1 wx))
      case first =>
        generalize idb id = B1 at HID HRB
        generalize (decide (1 ≤ fr) && decide (fr ≤ now)) = B2 at HIN HRB
        generalize shok kd ps = B4 at HSO HRB
        cases B1
        · go_wp2_with fail
          refine (HID.out _).mono ?_
          rintro e z ⟨rfl, hw⟩
          replace hw := hw.symm
          subst hw
          go_wp2_with fail
          go_meet
          exact ⟨by rw [HRB.out]; simp, hid (Below.refl _ _)⟩
        cases B2
        · go_wp2_with fail
          refine (HID.out _).mono ?_
          rintro e z ⟨rfl, hw⟩
          replace hw := hw.symm
          subst hw
          go_wp2_with fail
          refine (HIN.out _).mono ?_
          rintro e z ⟨rfl, hw⟩
          replace hw := hw.symm
          subst hw
          go_wp2_with fail
          go_meet
          exact ⟨by rw [HRB.out]; simp, hid (Below.refl _ _)⟩
        cases q0 : (te != 0)
        · have hrb2 : rb = B4 := by rw [HRB.out]; have : te = 0 := by simpa using q0
                                    simp [this]
          have HRB2 := hid hrb2
          clear hrb2
          go_wp2_with fail
          refine (HID.out _).mono ?_
          rintro e z ⟨rfl, hw⟩
          replace hw := hw.symm
          subst hw
          go_wp2_with fail
          refine (HIN.out _).mono ?_
          rintro e z ⟨rfl, hw⟩
          replace hw := hw.symm
          subst hw
          go_wp2_with fail
          refine (HSO.out _ HBX.out).mono ?_
          rintro e z ⟨rfl, hz⟩
          go_wp2_with fail
          go_meet
          exact ⟨by rw [HRB2.out], hid hz⟩
        cases q1 : decide (te ≤ fr)
        · cases q2 : decide (now < te)
          · have hrb2 : rb = B4 := by
              rw [HRB.out]
              have t1 : ¬ te ≤ fr := by simpa using q1
              have t2 : ¬ now < te := by simpa using q2
              have t3 : decide (fr < te) = true := by rw [decide_eq_true_iff]; omega
              have t4 : decide (te ≤ now) = true := by rw [decide_eq_true_iff]; omega
              rw [t3, t4]; simp
            have HRB2 := hid hrb2
            clear hrb2
            go_wp2_with fail
            refine (HID.out _).mono ?_
            rintro e z ⟨rfl, hw⟩
            replace hw := hw.symm
            subst hw
            go_wp2_with fail
            refine (HIN.out _).mono ?_
            rintro e z ⟨rfl, hw⟩
            replace hw := hw.symm
            subst hw
            go_wp2_with fail
            refine (HSO.out _ HBX.out).mono ?_
            rintro e z ⟨rfl, hz⟩
            go_wp2_with fail
            go_meet
            exact ⟨by rw [HRB2.out], hid hz⟩
          · have hrb2 : rb = false := by
              rw [HRB.out]
              have t0 : ¬ te = 0 := by simpa using q0
              have t2 : now < te := by simpa using q2
              have t4 : decide (te ≤ now) = false := by rw [decide_eq_false_iff_not]; omega
              rw [t4]; simp [t0]
            have HRB2 := hid hrb2
            clear hrb2
            go_wp2_with fail
            refine (HID.out _).mono ?_
            rintro e z ⟨rfl, hw⟩
            replace hw := hw.symm
            subst hw
            go_wp2_with fail
            refine (HIN.out _).mono ?_
            rintro e z ⟨rfl, hw⟩
            replace hw := hw.symm
            subst hw
            go_wp2_with fail
            go_meet
            exact ⟨by rw [HRB2.out]; rfl, hid (Below.refl _ _)⟩
        · have hrb2 : rb = false := by
            rw [HRB.out]
            have t0 : ¬ te = 0 := by simpa using q0
            have t1 : te ≤ fr := by simpa using q1
            have t3 : decide (fr < te) = false := by rw [decide_eq_false_iff_not]; omega
            rw [t3]; simp [t0]
          have HRB2 := hid hrb2
          clear hrb2
          go_wp2_with fail
          refine (HID.out _).mono ?_
          rintro e z ⟨rfl, hw⟩
          replace hw := hw.symm
          subst hw
          go_wp2_with fail
          refine (HIN.out _).mono ?_
          rintro e z ⟨rfl, hw⟩
          replace hw := hw.symm
          subst hw
          go_wp2_with fail
          go_meet
          exact ⟨by rw [HRB2.out]; rfl, hid (Below.refl _ _)⟩
      case rest =>
        obtain ⟨rfl, HBC⟩ := hcut
        have g1' := keepheap2 HBC.out g1
        have gx' := keepheap2 HBC.out gx
        have hB' := btrans hB HBC.out
        clear d0 d1 x0 x1 x2 x3 x4 HID HIN HSO HRB
        cases rb
        · have HF := hid (HRF.out rfl)
          go_wp2_with fail
          go_ret
          exact ⟨by rw [HF.out]; rfl, hB'⟩
        go_wp2_with fail
        go_loopw [5] (fun tk wq => ∃ k : Nat, tk = .int .i64 k ∧ k ≤ i ∧ Hid (∀ m (h : m < rs.length), m < k → clash (id, fr, te) (tr rs[m]) = false) ∧ Hid (wq.heap[w.heap.size]? = some (.cells #[.int .i64 now, .slice (some ⟨b, o, none⟩) n cap] 32 (0, 0))) ∧ Hid (wq.heap[X]? = some (.cells #[.int .i64 id, .int .i64 fr, .int .i64 te, .int .i64 kd, .slice a' ps.length cap'] 65 (0, 0))) ∧ Hid (Below w.heap.size w wq)) (fun tk _ => i - (intOf tk).toNat)
        case atStart => exact ⟨0, rfl, Nat.zero_le _, hid (fun m h hh => absurd hh (by omega)), hid g1', hid gx', hid hB'⟩
        case round =>
          clear g1' gx' hB' g1 gx hB G1
          obtain ⟨k, rfl, hk, HC, G1, GX, HBQ⟩ := hrel
          obtain ⟨d0, d1, _, _⟩ := cell2f G1.out
          obtain ⟨⟨x0, x1, x2, x3, x4⟩, _⟩ := cell5g GX.out
          by_cases hlt2 : k < i
          · have c2 : (k : Int) < (i : Int) := by omega
            have c3 : (k : Int) < (n : Int) := by omega
            have hkr : k < rs.length := by rw [HN.out]; omega
            obtain ⟨b', o', hbo, hbs', a2, cap2, k0, k1, k2, k3, k4, k5, k6, k7, _⟩ := (HR.out.below HBQ.out).at k hkr
            cases hbo
            have HT2 := hid (fun (t : Int) (W : World) => spec_there rs[k] a2 cap2 t W)
            have HCK := hid (HCL.out k hkr hlt2)
            have HCA : Hid (clash (id, fr, te) (tr rs[k]) = false → ∀ m (h : m < rs.length), m < k + 1 → clash (id, fr, te) (tr rs[m]) = false) := hid (fun hf m hm hmk => by
              by_cases e : m = k
              · subst e; exact hf
              · exact HC.out m hm (by omega))
            have htk : tr rs[k] = (rs[k].1, rs[k].2.1, rs[k].2.2.1) := rfl
            rw [htk] at HT2 HCK HCA
            unfold rwv at HT2
            clear htk k5 k6 k7
            generalize rs[k].1 = id2 at *
            generalize rs[k].2.1 = fr2 at *
            generalize rs[k].2.2.1 = te2 at *
            generalize rs[k].2.2.2.1 = kd2 at *
            generalize rs[k].2.2.2.2 = ps2 at *
            have HCD := hid (show clash (id, fr, te) (id2, fr2, te2) = (decide (id2 = id) && (thr (id, fr, te) fr2 || thr (id2, fr2, te2) fr)) from rfl)
            go_upto_region 13 with fail
            have hBy : Below wr.heap.size wr (wr.alloc (.cells #[.int .i64 id2, .int .i64 fr2, .int .i64 te2, .int .i64 kd2, .slice a2 ps2.length cap2] 65)) := balloc (Below.refl _ _) _
            have gy := new_alloc wr wr.heap.size (.cells #[.int .i64 id2, .int .i64 fr2, .int .i64 te2, .int .i64 kd2, .slice a2 ps2.length cap2] 65) rfl
            have g1 := keepheap2 hBy G1.out
            have gx := keepheap2 hBy GX.out
            have hB := btrans HBQ.out hBy
            clear d0 d1 x0 x1 x2 x3 x4 k0 k1 k2 k3 k4 hBy
            generalize wr.alloc (.cells #[.int .i64 id2, .int .i64 fr2, .int .i64 te2, .int .i64 kd2, .slice a2 ps2.length cap2] 65) = W2 at *
            generalize wr.heap.size = Y at *
            obtain ⟨d0, d1, _, _⟩ := cell2f g1
            obtain ⟨⟨x0, x1, x2, x3, x4⟩, _⟩ := cell5g gx
            obtain ⟨⟨y0, y1, y2, y3, y4⟩, _⟩ := cell5g gy
            generalize hcl : clash (id, fr, te) (id2, fr2, te2) = cb at *
            have HCB := hid hcl
            clear hcl
            go_cut [91] from 75 to 91 (fun t wx => t = .bool cb ∧ Hid (Below W2.heap.size W2 wx))
            case first =>
              generalize hT1 : thr (id, fr, te) fr2 = T1 at HCD
              generalize hT2 : thr (id2, fr2, te2) fr = T2 at HCD
              have H1 := hid (HTH.out fr2)
              have H2 := hid (HT2.out fr)
              rw [hT1] at H1
              rw [hT2] at H2
              clear hT1 hT2
              cases qi : (id2 == id)
              · have hne : decide (id2 = id) = false := by simpa using qi
                go_wp2_with fail
                go_meet
                exact ⟨by rw [HCD.out, hne]; rfl, hid (Below.refl _ _)⟩
              · have heq : decide (id2 = id) = true := by simpa using qi
                have HEQ := hid heq
                clear heq
                cases T1
                · go_wp2_with fail
                  refine (H1.out _).mono ?_
                  rintro e z ⟨rfl, hz⟩
                  have gx2 := keepheap2 hz gx
                  have gy2 := keepheap2 hz gy
                  obtain ⟨⟨x0', x1', x2', x3', x4'⟩, _⟩ := cell5g gx2
                  obtain ⟨⟨y0', y1', y2', y3', y4'⟩, _⟩ := cell5g gy2
                  go_wp2_with fail
                  refine (H2.out _).mono ?_
                  rintro e z' ⟨rfl, hz'⟩
                  go_wp2_with fail
                  go_meet
                  exact ⟨by rw [HCD.out, HEQ.out]; simp, hid (btrans hz hz')⟩
                · go_wp2_with fail
                  refine (H1.out _).mono ?_
                  rintro e z ⟨rfl, hz⟩
                  go_wp2_with fail
                  go_meet
                  exact ⟨by rw [HCD.out, HEQ.out]; simp, hid hz⟩
            case rest =>
              obtain ⟨rfl, HBC2⟩ := hcut
              have g1' := keepheap2 HBC2.out g1
              have gx' := keepheap2 HBC2.out gx
              have hB' := btrans hB HBC2.out
              clear d0 d1 x0 x1 x2 x3 x4 y0 y1 y2 y3 y4
              cases cb
              · go_wp2_with fail
                go_roundw
                case rel => exact ⟨k + 1, by go_num, by omega, hid (HCA.out rfl), hid g1', hid gx', hid hB'⟩
                case measure => simp [intOf]; omega
              · have HF := hid (HCK.out rfl)
                go_wp2_with fail
                go_ret
                exact ⟨by rw [HF.out]; rfl, hB'⟩
          · have hall : ∀ m (h : m < rs.length), m < i → clash (id, fr, te) (tr rs[m]) = false := fun m h hm => HC.out m h (by omega)
            have HNA := hid (HNX.out hall)
            have c2 : (i : Int) ≤ (k : Int) := by omega
            clear hall
            have HG1 := hid G1.out
            clear d0 d1 x0 x1 x2 x3 x4
            go_wp2_with fail
            go_roundw
            case rel => exact ⟨i + 1, by go_num, by omega, hid (fun m h hm => by
              by_cases e : m = i
              · subst e; exact HROW.out
              · exact HA.out m h (by omega)), HNA, HG1, HBQ⟩
            case measure => simp [intOf]; omega
    · have hy := hid (rowsb_yes (now := now) (rs := rs) (by omega) (by rw [HN.out]; omega) (fun m h => HA.out m h (by rw [HN.out] at h; omega)) (by
        have := HP.out
        rw [List.take_of_length_le (by simp; rw [HN.out]; omega)] at this
        exact this))
      have c1 : (n : Int) ≤ (i : Int) := by omega
      go_wp2_with fail
      go_ret
      exact ⟨by rw [hy.out]; rfl, HBW.out⟩
theorem Tryz.infoI : (Tryz.prog.info? 3).map (fun i => (i.zero, i.size, i.bytes)) = some (some (.int .i64 0), 1, 8) := by kernel_rfl
def IAt (w : World) (b off : Nat) (zs : List Int) : Prop := ∀ k, k < zs.length → w.cell? ⟨b, off + k, none⟩ = some (.int .i64 (zs.getD k 0))
def OwnI (w : World) (a : Option Addr) (zs : List Int) : Prop := (a = none ∧ zs = []) ∨ ∃ b, a = some ⟨b, 0, none⟩ ∧ b < w.heap.size ∧ IAt w b 0 zs ∧ w.there b 0 zs.length
theorem OwnI.lt {w : World} {a : Option Addr} {zs : List Int} (h : OwnI w a zs) : ∀ c off, a = some ⟨c, off, none⟩ → c < w.heap.size := by
 intro c off e
 rcases h with ⟨rfl, rfl⟩ | ⟨b, rfl, h, _⟩
 ·cases e
 ·cases e; exact h
end Go.Proofs.YtenlhgnobfadgaaGreatDoor
