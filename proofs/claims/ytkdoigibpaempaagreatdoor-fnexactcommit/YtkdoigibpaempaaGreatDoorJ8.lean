/- Texts of stores, joined: RwS, Draw, DrawP, RwA0, AreaM, RwG, RwH. -/
import Derived.Test.YtkdoigibpaempaaGreatDoorJ7
import Derived.Test.YtkdoigibpaempaaGreatDoorJ5
import Derived.Deep.CutRange
import Derived.Test.YtkdoigibpaempaaGreatDoorRows
import Derived.WalkKit
import Derived.WalkSpells
import Derived.Handy
import Derived.BigQuiet
import Derived.Deep.QuietTactic
import Derived.Laws.BitsAllLaws
import Derived.Test.YtkdoigibpaempaaGreatDoorJ2
import Derived.Test.YtkdoigibpaempaaGreatDoorJ6
import Derived.OwnWalk
import Derived.Deep.AppendLies
import Derived.Maps.AppendAt
set_option linter.unusedSimpArgs false
set_option linter.unusedVariables false
namespace Go.Proofs.YtkdoigibpaempaaGreatDoor
open Go.RowKit
def rowb (now : Int) (r : Rw) : Bool := rwb now r && shok r.2.2.2.1 r.2.2.2.2
def rowsb (now : Int) (rs : List Rw) : Bool := (decide (0 ≤ now) && decide (rs.length ≤ 300)) && (rs.all (rowb now) && apartR (rs.map tr))
theorem rowsb_now {now : Int} {rs : List Rw} (h : now < 0) : rowsb now rs = false := by
  unfold rowsb; rw [show decide (0 ≤ now) = false by simpa using h]; rfl
theorem rowsb_long {now : Int} {rs : List Rw} (h : 300 < rs.length) : rowsb now rs = false := by
  unfold rowsb; rw [show decide (rs.length ≤ 300) = false by simpa using h]; simp
theorem rowsb_row {now : Int} {rs : List Rw} {m : Nat} (h : m < rs.length) (hr : rowb now rs[m] = false) : rowsb now rs = false := by
  have ha : rs.all (rowb now) = false := by
    cases ha : rs.all (rowb now)
    · rfl
    · rw [List.all_eq_true.1 ha _ (List.getElem_mem h)] at hr; cases hr
  unfold rowsb; rw [ha]; simp
theorem rowsb_clash {now : Int} {rs : List Rw} {i k : Nat} (hi : i < rs.length) (hk : k < i) (hc : clash (tr rs[i]) (tr (rs[k]'(by omega))) = true) : rowsb now rs = false := by
  have ha : apartR (rs.map tr) = false := by
    cases ha : apartR (rs.map tr)
    · rfl
    · have hp := List.pairwise_iff_getElem.1 ((apartR_iff _).1 ha) k i (by simp; omega) (by simpa using hi) hk
      simp only [List.getElem_map] at hp
      rw [clash_comm, hc] at hp; cases hp
  unfold rowsb; rw [ha]; simp
theorem rowsb_yes {now : Int} {rs : List Rw} (h0 : 0 ≤ now) (hl : rs.length ≤ 300) (hr : ∀ m (h : m < rs.length), rowb now rs[m] = true) (ha : apartR (rs.map tr) = true) : rowsb now rs = true := by
  have hall : rs.all (rowb now) = true := List.all_eq_true.2 fun x hx => by
    obtain ⟨m, hm, rfl⟩ := List.mem_iff_getElem.1 hx
    exact hr m hm
  unfold rowsb
  rw [hall, ha]
  simp [h0, hl]
theorem apartR_next {rs : List Rw} {i : Nat} (hi : i < rs.length) (ha : apartR ((rs.map tr).take i) = true) (hc : ∀ m (h : m < rs.length), m < i → clash (tr rs[i]) (tr rs[m]) = false) : apartR ((rs.map tr).take (i + 1)) = true := by
  have e : (rs.map tr).take (i + 1) = (rs.map tr).take i ++ [tr rs[i]] := by
    rw [List.take_add_one, List.getElem?_map, List.getElem?_eq_getElem hi]; rfl
  rw [e, apartR_snoc, ha, Bool.true_and, List.all_eq_true]
  intro y hy
  obtain ⟨m, hm, rfl⟩ := List.mem_iff_getElem.1 hy
  simp only [List.length_take, List.length_map] at hm
  rw [List.getElem_take, List.getElem_map, clash_comm, hc m (by omega) (by omega)]
  rfl
set_option maxRecDepth 100000 in
set_option maxHeartbeats 4000000 in
theorem spec_RowsOk {N : Nat → Prop} (now : Int) (a : Option Addr) (cap : Nat) (rs : List Rw) (w : World) (hm : rs.length ≤ 1099511627776) (h : Rws N w a rs) : Calls Tryz.prog 34 #[.agg #[.int .i64 now, .slice a rs.length cap]] w fun e w' => e = .returned (.bool (rowsb now rs)) ∧ Below w.heap.size w w' := by
  have HR := hid h
  clear h
  obtain ⟨n, hn⟩ : ∃ n, n = rs.length := ⟨_, rfl⟩
  have HN := hid hn.symm
  rw [← hn] at hm ⊢
  clear hn
  by_cases h0 : now < 0
  · rw [rowsb_now h0]
    go_enter Tryz.func34, Tryz.ntmps34
    go_wp2_with fail
    go_ret
    exact ⟨rfl, balloc (Below.refl _ _) _⟩
  by_cases hl : 300 < n
  · rw [rowsb_long (by rw [HN.out]; exact hl)]
    have hl' : (300 : Int) < (n : Int) := by omega
    go_enter Tryz.func34, Tryz.ntmps34
    go_wp2_with fail
    go_ret
    exact ⟨rfl, balloc (Below.refl _ _) _⟩
  have hl' : (n : Int) ≤ 300 := by omega
  have hld : decide ((300 : Int) < (n : Int)) = false := by rw [decide_eq_false_iff_not]; omega
  go_enter Tryz.func34, Tryz.ntmps34
  go_wp2_with fail
  have g1 := new_alloc w w.heap.size (.cells #[.int .i64 now, .slice a n cap] 31) rfl
  have hB := balloc (Below.refl w.heap.size w) (.cells #[.int .i64 now, .slice a n cap] 31)
  generalize w.alloc (.cells #[.int .i64 now, .slice a n cap] 31) = W at *
  clear hld
  go_loopw [3] (fun ti wr => ∃ i : Nat, ti = .int .i64 i ∧ i ≤ n ∧ Hid (∀ m (h : m < rs.length), m < i → rowb now rs[m] = true) ∧ Hid (apartR ((rs.map tr).take i) = true) ∧ Hid (wr.heap[w.heap.size]? = some (.cells #[.int .i64 now, .slice a n cap] 31 (0, 0))) ∧ Hid (Below w.heap.size w wr)) (fun ti _ => n - (intOf ti).toNat)
  case atStart => exact ⟨0, rfl, Nat.zero_le _, hid (fun m h hh => absurd hh (by omega)), hid (by simp [apartR]), hid g1, hid hB⟩
  case round =>
    clear g1 hB
    obtain ⟨i, rfl, hi, HA, HP, G1, HBW⟩ := hrel
    obtain ⟨d0, d1, _, _⟩ := cell2f G1.out
    by_cases hlt : i < n
    · have c1 : (i : Int) < (n : Int) := by omega
      have hir : i < rs.length := by rw [HN.out]; exact hlt
      obtain ⟨b, o, rfl, hbs, a', cap', k0, k1, k2, k3, k4, k5, k6, k7, _⟩ := (HR.out.below HBW.out).at i hir
      have HID := hid (fun w => spec_id rs[i].1 w)
      have HIN := hid (fun w => in_r rs[i].2.1 1 now w)
      have HSO := hid (fun (W : World) (hb : Below wr.heap.size wr W) => spec_ShapeOk rs[i].2.2.2.1 a' cap' rs[i].2.2.2.2 W k6 k5 (k7.below hb))
      unfold shv at HSO
      have hrb : rowb now rs[i] = (idb rs[i].1 && (decide (1 ≤ rs[i].2.1) && decide (rs[i].2.1 ≤ now)) && (decide (rs[i].2.2.1 = 0) || (decide (rs[i].2.1 < rs[i].2.2.1) && decide (rs[i].2.2.1 ≤ now))) && shok rs[i].2.2.2.1 rs[i].2.2.2.2) := rfl
      have HRB := hid hrb
      clear hrb k5 k6 k7
      have HCL := hid (fun (k : Nat) (hk : k < rs.length) (hki : k < i) (hc : clash (tr rs[i]) (tr rs[k]) = true) => rowsb_clash (now := now) (rs := rs) (i := i) (k := k) hir hki hc)
      have HRF := hid (fun (hr : rowb now rs[i] = false) => rowsb_row (now := now) hir hr)
      have HNX := hid (fun (hc : ∀ m (h : m < rs.length), m < i → clash (tr rs[i]) (tr rs[m]) = false) => apartR_next hir HP.out hc)
      have hti : tr rs[i] = (rs[i].1, rs[i].2.1, rs[i].2.2.1) := rfl
      rw [hti] at HCL HNX
      have HTH := hid (fun (t : Int) (W : World) => spec_there rs[i] a' cap' t W)
      rw [hti] at HTH
      unfold rwv at HTH
      clear hti
      generalize hrow : rowb now rs[i] = rb at *
      have HROW := hid hrow
      clear hrow
      generalize rs[i].1 = id at *
      generalize rs[i].2.1 = fr at *
      generalize rs[i].2.2.1 = te at *
      generalize rs[i].2.2.2.1 = kd at *
      generalize rs[i].2.2.2.2 = ps at *
      go_upto_region 7 with fail
      have hBx : Below wr.heap.size wr (wr.alloc (.cells #[.int .i64 id, .int .i64 fr, .int .i64 te, .int .i64 kd, .slice a' ps.length cap'] 78)) := balloc (Below.refl _ _) _
      have gx := new_alloc wr wr.heap.size (.cells #[.int .i64 id, .int .i64 fr, .int .i64 te, .int .i64 kd, .slice a' ps.length cap'] 78) rfl
      have g1 := keepheap2 hBx G1.out
      have hB := btrans HBW.out hBx
      have hlx := lt_of_block G1.out
      have HBX := hid hBx
      clear hBx d0 d1 k0 k1 k2 k3 k4
      generalize wr.alloc (.cells #[.int .i64 id, .int .i64 fr, .int .i64 te, .int .i64 kd, .slice a' ps.length cap'] 78) = W1 at *
      have hlx1 := lt_of_block gx
      have HX0 := hid (show wr.heap.size = wr.heap.size from rfl)
      obtain ⟨X, hX⟩ : ∃ X, X = wr.heap.size := ⟨_, rfl⟩
      rw [← hX] at gx hlx hlx1 ⊢
      have HXE := hid hX
      clear hX HX0
      obtain ⟨d0, d1, _, _⟩ := cell2f g1
      obtain ⟨⟨x0, x1, x2, x3, x4⟩, _⟩ := cell5g gx
      go_cut [64] from 28 to 64 (fun t wx => t = .bool (!rb) ∧ Hid (Below W1.heap.size W1 wx))
      case first =>
        generalize idb id = B1 at HID HRB
        generalize (decide (1 ≤ fr) && decide (fr ≤ now)) = B2 at HIN HRB
        generalize shok kd ps = B4 at HSO HRB
        cases B1
        · go_wp2_with fail
          refine (HID.out _).mono ?_
          rintro e z ⟨rfl, hw⟩
          replace hw := hw.symm
          subst hw
          go_wp2_with fail
          go_meet
          exact ⟨by rw [HRB.out]; simp, hid (Below.refl _ _)⟩
        cases B2
        · go_wp2_with fail
          refine (HID.out _).mono ?_
          rintro e z ⟨rfl, hw⟩
          replace hw := hw.symm
          subst hw
          go_wp2_with fail
          refine (HIN.out _).mono ?_
          rintro e z ⟨rfl, hw⟩
          replace hw := hw.symm
          subst hw
          go_wp2_with fail
          go_meet
          exact ⟨by rw [HRB.out]; simp, hid (Below.refl _ _)⟩
        cases q0 : (te != 0)
        · have hrb2 : rb = B4 := by rw [HRB.out]; have : te = 0 := by simpa using q0
                                    simp [this]
          have HRB2 := hid hrb2
          clear hrb2
          go_wp2_with fail
          refine (HID.out _).mono ?_
          rintro e z ⟨rfl, hw⟩
          replace hw := hw.symm
          subst hw
          go_wp2_with fail
          refine (HIN.out _).mono ?_
          rintro e z ⟨rfl, hw⟩
          replace hw := hw.symm
          subst hw
          go_wp2_with fail
          refine (HSO.out _ HBX.out).mono ?_
          rintro e z ⟨rfl, hz⟩
          go_wp2_with fail
          go_meet
          exact ⟨by rw [HRB2.out], hid hz⟩
        cases q1 : decide (te ≤ fr)
        · cases q2 : decide (now < te)
          · have hrb2 : rb = B4 := by
              rw [HRB.out]
              have t1 : ¬ te ≤ fr := by simpa using q1
              have t2 : ¬ now < te := by simpa using q2
              have t3 : decide (fr < te) = true := by rw [decide_eq_true_iff]; omega
              have t4 : decide (te ≤ now) = true := by rw [decide_eq_true_iff]; omega
              rw [t3, t4]; simp
            have HRB2 := hid hrb2
            clear hrb2
            go_wp2_with fail
            refine (HID.out _).mono ?_
            rintro e z ⟨rfl, hw⟩
            replace hw := hw.symm
            subst hw
            go_wp2_with fail
            refine (HIN.out _).mono ?_
            rintro e z ⟨rfl, hw⟩
            replace hw := hw.symm
            subst hw
            go_wp2_with fail
            refine (HSO.out _ HBX.out).mono ?_
            rintro e z ⟨rfl, hz⟩
            go_wp2_with fail
            go_meet
            exact ⟨by rw [HRB2.out], hid hz⟩
          · have hrb2 : rb = false := by
              rw [HRB.out]
              have t0 : ¬ te = 0 := by simpa using q0
              have t2 : now < te := by simpa using q2
              have t4 : decide (te ≤ now) = false := by rw [decide_eq_false_iff_not]; omega
              rw [t4]; simp [t0]
            have HRB2 := hid hrb2
            clear hrb2
            go_wp2_with fail
            refine (HID.out _).mono ?_
            rintro e z ⟨rfl, hw⟩
            replace hw := hw.symm
            subst hw
            go_wp2_with fail
            refine (HIN.out _).mono ?_
            rintro e z ⟨rfl, hw⟩
            replace hw := hw.symm
            subst hw
            go_wp2_with fail
            go_meet
            exact ⟨by rw [HRB2.out]; rfl, hid (Below.refl _ _)⟩
        · have hrb2 : rb = false := by
            rw [HRB.out]
            have t0 : ¬ te = 0 := by simpa using q0
            have t1 : te ≤ fr := by simpa using q1
            have t3 : decide (fr < te) = false := by rw [decide_eq_false_iff_not]; omega
            rw [t3]; simp [t0]
          have HRB2 := hid hrb2
          clear hrb2
          go_wp2_with fail
          refine (HID.out _).mono ?_
          rintro e z ⟨rfl, hw⟩
          replace hw := hw.symm
          subst hw
          go_wp2_with fail
          refine (HIN.out _).mono ?_
          rintro e z ⟨rfl, hw⟩
          replace hw := hw.symm
          subst hw
          go_wp2_with fail
          go_meet
          exact ⟨by rw [HRB2.out]; rfl, hid (Below.refl _ _)⟩
      case rest =>
        obtain ⟨rfl, HBC⟩ := hcut
        have g1' := keepheap2 HBC.out g1
        have gx' := keepheap2 HBC.out gx
        have hB' := btrans hB HBC.out
        clear d0 d1 x0 x1 x2 x3 x4 HID HIN HSO HRB
        cases rb
        · have HF := hid (HRF.out rfl)
          go_wp2_with fail
          go_ret
          exact ⟨by rw [HF.out]; rfl, hB'⟩
        go_wp2_with fail
        go_loopw [5] (fun tk wq => ∃ k : Nat, tk = .int .i64 k ∧ k ≤ i ∧ Hid (∀ m (h : m < rs.length), m < k → clash (id, fr, te) (tr rs[m]) = false) ∧ Hid (wq.heap[w.heap.size]? = some (.cells #[.int .i64 now, .slice (some ⟨b, o, none⟩) n cap] 31 (0, 0))) ∧ Hid (wq.heap[X]? = some (.cells #[.int .i64 id, .int .i64 fr, .int .i64 te, .int .i64 kd, .slice a' ps.length cap'] 78 (0, 0))) ∧ Hid (Below w.heap.size w wq)) (fun tk _ => i - (intOf tk).toNat)
        case atStart => exact ⟨0, rfl, Nat.zero_le _, hid (fun m h hh => absurd hh (by omega)), hid g1', hid gx', hid hB'⟩
        case round =>
          clear g1' gx' hB' g1 gx hB G1
          obtain ⟨k, rfl, hk, HC, G1, GX, HBQ⟩ := hrel
          obtain ⟨d0, d1, _, _⟩ := cell2f G1.out
          obtain ⟨⟨x0, x1, x2, x3, x4⟩, _⟩ := cell5g GX.out
          by_cases hlt2 : k < i
          · have c2 : (k : Int) < (i : Int) := by omega
            have c3 : (k : Int) < (n : Int) := by omega
            have hkr : k < rs.length := by rw [HN.out]; omega
            obtain ⟨b', o', hbo, hbs', a2, cap2, k0, k1, k2, k3, k4, k5, k6, k7, _⟩ := (HR.out.below HBQ.out).at k hkr
            cases hbo
            have HT2 := hid (fun (t : Int) (W : World) => spec_there rs[k] a2 cap2 t W)
            have HCK := hid (HCL.out k hkr hlt2)
            have HCA : Hid (clash (id, fr, te) (tr rs[k]) = false → ∀ m (h : m < rs.length), m < k + 1 → clash (id, fr, te) (tr rs[m]) = false) := hid (fun hf m hm hmk => by
              by_cases e : m = k
              · subst e; exact hf
              · exact HC.out m hm (by omega))
            have htk : tr rs[k] = (rs[k].1, rs[k].2.1, rs[k].2.2.1) := rfl
            rw [htk] at HT2 HCK HCA
            unfold rwv at HT2
            clear htk k5 k6 k7
            generalize rs[k].1 = id2 at *
            generalize rs[k].2.1 = fr2 at *
            generalize rs[k].2.2.1 = te2 at *
            generalize rs[k].2.2.2.1 = kd2 at *
            generalize rs[k].2.2.2.2 = ps2 at *
            have HCD := hid (show clash (id, fr, te) (id2, fr2, te2) = (decide (id2 = id) && (thr (id, fr, te) fr2 || thr (id2, fr2, te2) fr)) from rfl)
            go_upto_region 13 with fail
            have hBy : Below wr.heap.size wr (wr.alloc (.cells #[.int .i64 id2, .int .i64 fr2, .int .i64 te2, .int .i64 kd2, .slice a2 ps2.length cap2] 78)) := balloc (Below.refl _ _) _
            have gy := new_alloc wr wr.heap.size (.cells #[.int .i64 id2, .int .i64 fr2, .int .i64 te2, .int .i64 kd2, .slice a2 ps2.length cap2] 78) rfl
            have g1 := keepheap2 hBy G1.out
            have gx := keepheap2 hBy GX.out
            have hB := btrans HBQ.out hBy
            clear d0 d1 x0 x1 x2 x3 x4 k0 k1 k2 k3 k4 hBy
            generalize wr.alloc (.cells #[.int .i64 id2, .int .i64 fr2, .int .i64 te2, .int .i64 kd2, .slice a2 ps2.length cap2] 78) = W2 at *
            generalize wr.heap.size = Y at *
            obtain ⟨d0, d1, _, _⟩ := cell2f g1
            obtain ⟨⟨x0, x1, x2, x3, x4⟩, _⟩ := cell5g gx
            obtain ⟨⟨y0, y1, y2, y3, y4⟩, _⟩ := cell5g gy
            generalize hcl : clash (id, fr, te) (id2, fr2, te2) = cb at *
            have HCB := hid hcl
            clear hcl
            go_cut [91] from 75 to 91 (fun t wx => t = .bool cb ∧ Hid (Below W2.heap.size W2 wx))
            case first =>
              generalize hT1 : thr (id, fr, te) fr2 = T1 at HCD
              generalize hT2 : thr (id2, fr2, te2) fr = T2 at HCD
              have H1 := hid (HTH.out fr2)
              have H2 := hid (HT2.out fr)
              rw [hT1] at H1
              rw [hT2] at H2
              clear hT1 hT2
              cases qi : (id2 == id)
              · have hne : decide (id2 = id) = false := by simpa using qi
                go_wp2_with fail
                go_meet
                exact ⟨by rw [HCD.out, hne]; rfl, hid (Below.refl _ _)⟩
              · have heq : decide (id2 = id) = true := by simpa using qi
                have HEQ := hid heq
                clear heq
                cases T1
                · go_wp2_with fail
                  refine (H1.out _).mono ?_
                  rintro e z ⟨rfl, hz⟩
                  have gx2 := keepheap2 hz gx
                  have gy2 := keepheap2 hz gy
                  obtain ⟨⟨x0', x1', x2', x3', x4'⟩, _⟩ := cell5g gx2
                  obtain ⟨⟨y0', y1', y2', y3', y4'⟩, _⟩ := cell5g gy2
                  go_wp2_with fail
                  refine (H2.out _).mono ?_
                  rintro e z' ⟨rfl, hz'⟩
                  go_wp2_with fail
                  go_meet
                  exact ⟨by rw [HCD.out, HEQ.out]; simp, hid (btrans hz hz')⟩
                · go_wp2_with fail
                  refine (H1.out _).mono ?_
                  rintro e z ⟨rfl, hz⟩
                  go_wp2_with fail
                  go_meet
                  exact ⟨by rw [HCD.out, HEQ.out]; simp, hid hz⟩
            case rest =>
              obtain ⟨rfl, HBC2⟩ := hcut
              have g1' := keepheap2 HBC2.out g1
              have gx' := keepheap2 HBC2.out gx
              have hB' := btrans hB HBC2.out
              clear d0 d1 x0 x1 x2 x3 x4 y0 y1 y2 y3 y4
              cases cb
              · go_wp2_with fail
                go_roundw
                case rel => exact ⟨k + 1, by go_num, by omega, hid (HCA.out rfl), hid g1', hid gx', hid hB'⟩
                case measure => simp [intOf]; omega
              · have HF := hid (HCK.out rfl)
                go_wp2_with fail
                go_ret
                exact ⟨by rw [HF.out]; rfl, hB'⟩
          · have hall : ∀ m (h : m < rs.length), m < i → clash (id, fr, te) (tr rs[m]) = false := fun m h hm => HC.out m h (by omega)
            have HNA := hid (HNX.out hall)
            have c2 : (i : Int) ≤ (k : Int) := by omega
            clear hall
            have HG1 := hid G1.out
            clear d0 d1 x0 x1 x2 x3 x4
            go_wp2_with fail
            go_roundw
            case rel => exact ⟨i + 1, by go_num, by omega, hid (fun m h hm => by
              by_cases e : m = i
              · subst e; exact HROW.out
              · exact HA.out m h (by omega)), HNA, HG1, HBQ⟩
            case measure => simp [intOf]; omega
    · have hy := hid (rowsb_yes (now := now) (rs := rs) (by omega) (by rw [HN.out]; omega) (fun m h => HA.out m h (by rw [HN.out] at h; omega)) (by
        have := HP.out
        rw [List.take_of_length_le (by simp; rw [HN.out]; omega)] at this
        exact this))
      have c1 : (n : Int) ≤ (i : Int) := by omega
      go_wp2_with fail
      go_ret
      exact ⟨by rw [hy.out]; rfl, HBW.out⟩
end Go.Proofs.YtkdoigibpaempaaGreatDoor
namespace Go.Proofs.YtkdoigibpaempaaGreatDoor
open Go.RowKit
theorem grown_set (w : World) (p j : Nat) (u : Value) : w.grownBy (w.setCell ⟨p, j, none⟩ u) (some p) :=
  ⟨rfl, rfl, rfl, by simp, fun k _ hk => by
    show (w.heap.modify p _)[k]? = _
    rw [Array.getElem?_modify, if_neg (fun e => hk (by rw [e]))]⟩
theorem grown_trans {w w1 w2 : World} {r : Option Nat} (h : w.grownBy w1 r) (k : w1.grownBy w2 r) : w.grownBy w2 r :=
  ⟨k.os.trans h.os, k.tape.trans h.tape, k.output.trans h.output, Nat.le_trans h.size k.size, fun i hi hne => (k.block i (Nat.lt_of_lt_of_le hi h.size) hne).trans (h.block i hi hne)⟩
theorem grown_same (w : World) (r : Option Nat) : w.grownBy w r := ⟨rfl, rfl, rfl, Nat.le_refl _, fun _ _ _ => rfl⟩
end Go.Proofs.YtkdoigibpaempaaGreatDoor
namespace Go.Proofs.YtkdoigibpaempaaGreatDoor
open Go.RowKit
theorem keepset3 {w : World} {p q : Addr} {v u : Value} (h : w.cell? p = some v) (hne : q.block ≠ p.block) : (w.setCell q u).cell? p = some v := by
  rw [World.cell?_setCell_far _ _ _ _ hne]; exact h
theorem grown_blk {w w1 : World} {p n : Nat} {o : Obj} (h : w.grownBy w1 (some p)) (hb : w.heap[n]? = some o) (hne : n ≠ p) : w1.heap[n]? = some o :=
  (h.block n (lt_of_block hb) (by simp; omega)).trans hb
theorem bgrown {w a b : World} {p : Nat} (h : Below w.heap.size w a) (hg : a.grownBy b (some p)) (hp : w.heap.size ≤ p) : Below w.heap.size w b :=
  h.grown hg h.size (fun k hk => by simp at hk; omega)
end Go.Proofs.YtkdoigibpaempaaGreatDoor
namespace Go.Proofs.YtkdoigibpaempaaGreatDoor
open Go.RowKit
theorem Tryz.infoPC : (Tryz.prog.info? 137).map (fun i => (i.zero, i.size, i.bytes)) = some (some (.agg #[.int .i64 0, .int .i64 0]), 2, 16) := by kernel_rfl
theorem cell2r {w : World} {p : Nat} {a b : Value} {t : TypeId} (h : w.heap[p]? = some (.cells #[a, b] t (0, 0))) : w.cell? ⟨p, 0, none⟩ = some a ∧ w.cell? ⟨p, 1, none⟩ = some b ∧ w.frozen? ⟨p, 0, none⟩ = false ∧ w.frozen? ⟨p, 1, none⟩ = false := by
  refine ⟨?_, ?_, ?_, ?_⟩ <;> simp [World.cell?, World.frozen?, h]
theorem own_blk {w w' : World} {b : Nat} {ps : List (Int × Int)} (h : PtsOwn w b ps) (e : w'.heap[b]? = w.heap[b]?) (hs : b < w'.heap.size) : PtsOwn w' b ps := by
  obtain ⟨h1, h2, h3⟩ := h
  refine ⟨hs, fun k hk => ?_, fun j hj => ?_⟩
  · simp only [World.cell?, e]; exact h2 k hk
  · simp only [World.cell?, World.frozen?, e]; exact h3 j hj
def fl2 (qs : List (Int × Int)) : List Value := qs.flatMap fun q => [.int .i64 q.1, .int .i64 q.2]
theorem fl2_len (qs : List (Int × Int)) : (fl2 qs).length = qs.length * 2 := by
  induction qs with
  | nil => rfl
  | cons q r ih => simp only [fl2, List.flatMap_cons, List.length_append, List.length_cons, List.length_nil] at ih ⊢; omega
theorem fl2_at (qs : List (Int × Int)) : ∀ k, k < qs.length → (fl2 qs)[k * 2]? = some (.int .i64 (qs.getD k (0, 0)).1) ∧ (fl2 qs)[k * 2 + 1]? = some (.int .i64 (qs.getD k (0, 0)).2) := by
  induction qs with
  | nil => intro k hk; simp at hk
  | cons q r ih =>
    intro k hk
    cases k with
    | zero => simp [fl2]
    | succ k =>
      have := ih k (by simpa using hk)
      simp only [fl2, List.flatMap_cons, List.getD_cons_succ] at this ⊢
      rw [show (k + 1) * 2 = k * 2 + 2 by omega]
      simpa [List.getElem?_append_right] using this
theorem fl2_one (qs : List (Int × Int)) : ∀ u ∈ fl2 qs, u.oneCell' = true := by
  intro u hu
  simp only [fl2, List.mem_flatMap] at hu
  obtain ⟨q, _, hu⟩ := hu
  simp at hu
  rcases hu with rfl | rfl <;> rfl
theorem fl2_news {w : World} {b off : Nat} {ps : List (Int × Int)} (h : PtsAt w b off ps) : ∀ j u, (fl2 ps)[j]? = some u → w.cell? ((⟨b, off, none⟩ : Addr).add j) = some u := by
  intro j u hu
  have hj : j < ps.length * 2 := by rw [← fl2_len]; exact (List.getElem?_eq_some_iff.1 hu).1
  rw [Addr.add_mid]
  have h2 := h (j / 2) (by omega)
  obtain ⟨f0, f1⟩ := fl2_at ps (j / 2) (by omega)
  rcases Nat.mod_two_eq_zero_or_one j with e | e
  · have ej : j = j / 2 * 2 := by omega
    rw [ej] at hu ⊢
    rw [f0] at hu
    rw [← hu]
    exact h2.1
  · have ej : j = j / 2 * 2 + 1 := by omega
    rw [ej] at hu ⊢
    rw [f1] at hu
    rw [← hu, ← Nat.add_assoc]
    exact h2.2
theorem own_pts {w : World} {B g cap n : Nat} {ps : List (Int × Int)} (h : w.ownsRow B 137 2 (.slice (some ⟨g, 0, none⟩) n cap) n (fl2 ps)) (hn : ps.length = n) : B ≤ g ∧ n ≤ cap ∧ PtsOwn w g ps := by
  subst hn
  have h' := h
  rcases h.2 with ⟨q, _⟩ | ⟨g', cap', cur, e, hb, hg, hc, _⟩
  · cases q
  · cases e
    refine ⟨hb, hc, (Array.getElem?_eq_some_iff.1 hg).1, fun k hk => ?_, fun j hj => ?_⟩
    · obtain ⟨f0, f1⟩ := fl2_at ps k hk
      have hcs := World.ownsRow.cells h' rfl
      have q0 := hcs _ _ f0
      have q1 := hcs _ _ f1
      rw [Addr.add_mid] at q0 q1
      exact ⟨q0, by rw [Nat.add_assoc]; exact q1⟩
    · simp only [Nat.zero_add]
      refine ⟨?_, World.ownsRow.frozenAt h' j⟩
      rw [World.ownsRow.cellAt h' j hj, List.getElem?_eq_getElem (by rw [fl2_len]; exact hj)]
      rfl
def CP (w : World) (kd : Int) (ps : List (Int × Int)) (e : Ending) (w' : World) : Prop :=
  ∃ g cap, e = .returned (.agg #[.int .i64 kd, .slice (some ⟨g, 0, none⟩) ps.length cap]) ∧ ps.length ≤ cap ∧ w.heap.size ≤ g ∧ PtsOwn w' g ps ∧ Below w.heap.size w w'
theorem own_new {w : World} {B : Nat} (hB : B ≤ w.heap.size) : (w.alloc (.cells #[] 137)).ownsRow B 137 2 (.slice (some ⟨w.heap.size, 0, none⟩) 0 0) 0 [] := by
  have := World.ownsRow_made (base := B) (e := 137) (size := 2) w #[] 0 hB (by decide) rfl
  simpa using this
end Go.Proofs.YtkdoigibpaempaaGreatDoor
namespace Go.Proofs.YtkdoigibpaempaaGreatDoor
open Go.RowKit
def tk (f : Nat → Int × Int) (i : Nat) : List (Int × Int) := (List.range i).map f
theorem tk_len (f : Nat → Int × Int) (i : Nat) : (tk f i).length = i := by simp [tk]
theorem tk_getD (f : Nat → Int × Int) (i k : Nat) (h : k < i) : (tk f i).getD k (0, 0) = f k := by simp [tk, h]
end Go.Proofs.YtkdoigibpaempaaGreatDoor
namespace Go.Proofs.YtkdoigibpaempaaGreatDoor
open Go.RowKit
theorem Tryz.infoI : (Tryz.prog.info? 3).map (fun i => (i.zero, i.size, i.bytes)) = some (some (.int .i64 0), 1, 8) := by kernel_rfl
def IAt (w : World) (b off : Nat) (zs : List Int) : Prop := ∀ k, k < zs.length → w.cell? ⟨b, off + k, none⟩ = some (.int .i64 (zs.getD k 0))
def OwnI (w : World) (a : Option Addr) (zs : List Int) : Prop := (a = none ∧ zs = []) ∨ ∃ b, a = some ⟨b, 0, none⟩ ∧ b < w.heap.size ∧ IAt w b 0 zs ∧ w.there b 0 zs.length
theorem OwnI.lt {w : World} {a : Option Addr} {zs : List Int} (h : OwnI w a zs) : ∀ c off, a = some ⟨c, off, none⟩ → c < w.heap.size := by
  intro c off e
  rcases h with ⟨rfl, rfl⟩ | ⟨b, rfl, h, _⟩
  · cases e
  · cases e; exact h
end Go.Proofs.YtkdoigibpaempaaGreatDoor
namespace Go.Proofs.YtkdoigibpaempaaGreatDoor
open Go.RowKit
def fli (zs : List Int) : List Value := zs.map (Value.int .i64)
theorem own_cell {w : World} {B g n cap : Nat} {zs : List Int} (h : w.ownsRow B 3 1 (.slice (some ⟨g, 0, none⟩) n cap) n (fli zs)) (hn : zs.length = n) {k : Nat} (hk : k < n) : w.cell? ⟨g, k, none⟩ = some (.int .i64 (zs.getD k 0)) := by
  rw [World.ownsRow.cellAt h k (by omega)]
  simp [fli, List.getD_eq_getElem?_getD, List.getElem?_eq_getElem (show k < zs.length by omega)]
theorem own_I {w : World} {B g n cap : Nat} {zs : List Int} (h : w.ownsRow B 3 1 (.slice (some ⟨g, 0, none⟩) n cap) n (fli zs)) (hn : zs.length = n) : B ≤ g ∧ n ≤ cap ∧ OwnI w (some ⟨g, 0, none⟩) zs := by
  have h' := h
  rcases h.2 with ⟨q, _⟩ | ⟨g', cap', cur, e, hb, hg, hc, _⟩
  · cases q
  · cases e
    refine ⟨hb, hc, .inr ⟨g, rfl, (Array.getElem?_eq_some_iff.1 hg).1, fun k hk => ?_, fun j hj => ?_⟩⟩
    · rw [Nat.zero_add]; exact own_cell h' hn (by omega)
    · simp only [Nat.zero_add]
      refine ⟨?_, World.ownsRow.frozenAt h' j⟩
      rw [own_cell h' hn (by omega)]; rfl
theorem step_append_any {P : Program} {w : World} {ops : Array Oper} {o : Oper} {a : Act} {K : Act → World → Prop} {Q : Exit → Act → World → Prop} {E : Prop} (hgd : o.guard = none) (s x : Operand) (t : TypeId)
    (ho : o.op = .call { callee := .builtin .append, args := #[s, x], argTypes := #[t, t] })
    (base : Nat) (e : TypeId) (i : TypeInfo) (z : Value) (size bytes : Nat) (ht : P.underlying t = some (.slice e)) (hi : P.info? e = some i) (hz : i.zero = some z)
    (hsize : i.size = size) (hby : i.bytes = bytes) (hzs : z.cells.size = size) (hsz : 0 < size)
    (g0 n0 cap0 : Nat) (n : Nat) (xs : List Value) (hs : a.eval s = .slice (some ⟨g0, 0, none⟩) n0 cap0) (hown : w.ownsRow base e size (.slice (some ⟨g0, 0, none⟩) n0 cap0) n xs)
    (ad : Addr) (m c : Nat) (news : List Value) (hx : a.eval x = .slice (some ad) m c) (hl : news.length = m * size) (hnews : ∀ j u, news[j]? = some u → w.cell? (ad.add j) = some u) (h1 : ∀ u ∈ news, u.oneCell' = true)
    (h63 : n + m ≤ maxLen) (hbytes : (n + m) * bytes ≤ 140737488355328) (hbase : base ≤ w.heap.size)
    (h : ∀ g cap w', w'.ownsRow base e size (.slice (some ⟨g, 0, none⟩) (n + m) cap) (n + m) (xs ++ news) → w.grownBy w' (some g0) → (g = g0 ∨ g = w.heap.size) → K (a.put o.dst (.slice (some ⟨g, 0, none⟩) (n + m) cap)) w') :
    if Region.wanted o (yielded ops a.tmps) = true then Oper.wp P o a w K Q else E := by
  have hw : Region.wanted o (yielded ops a.tmps) = true := by simp [Region.wanted, hgd]
  rw [if_pos hw]
  obtain ⟨v', w', hr, h2, h3, h4, h5⟩ := run_append_own_at (P := P) w base t o.type e i z size bytes ht hi hz hsize hby hzs hsz _ n xs hown ad m c news hl hnews h1 h63 hbytes hbase
  have hne : v' ≠ .slice none 0 0 := fun e => by have := (h4.1 e).1; cases this
  obtain ⟨g, cap, cur, rfl, _⟩ : ∃ g cap cur, v' = .slice (some ⟨g, 0, none⟩) (n + m) cap ∧ cur = () := by
    rcases h2.2 with ⟨q, _⟩ | ⟨g, cap, cur, e, _⟩
    · exact absurd q hne
    · exact ⟨g, cap, (), e, rfl⟩
  unfold Oper.wp execOp
  simp only [ho, resolve, invoke, builtin, Sem.run_bind, Sem.run_pure, Result.andThen_ok, List.map_toArray, List.map_cons, List.map_nil, hs, hx, hr]
  refine h g cap w' h2 h3 ?_
  rcases h5 with h5 | h5
  · left; simpa [Value.ownBlock] using h5
  · right; simpa [Value.ownBlock] using h5
end Go.Proofs.YtkdoigibpaempaaGreatDoor
