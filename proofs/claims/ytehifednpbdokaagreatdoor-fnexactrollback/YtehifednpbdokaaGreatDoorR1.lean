/- Texts of stores, joined: RwS, RwI, RwJ, Sd, Se, Sf. -/
import Derived.Test.YtehifednpbdokaaGreatDoorRwE
import Derived.Test.YtehifednpbdokaaGreatDoorRwC
import Derived.Test.YtehifednpbdokaaGreatDoorShapeSp
import Derived.Deep.CutRange
import Derived.Test.YtehifednpbdokaaGreatDoorRwP
import Derived.Test.YtehifednpbdokaaGreatDoorShapeOk
import Derived.Test.YtehifednpbdokaaGreatDoorSb
namespace Go.Proofs.YtehifednpbdokaaGreatDoor
open Go.RowKit
set_option linter.unusedSimpArgs false
set_option linter.unusedVariables false
def rowb (now : Int) (r : Rw) : Bool := rwb now r && shok r.2.2.2.1 r.2.2.2.2
/-- Whether rows are right. -/
def rowsb (now : Int) (rs : List Rw) : Bool := (decide (0 ≤ now) && decide (rs.length ≤ 300)) && (rs.all (rowb now) && apartR (rs.map tr))
theorem rowsb_now {now : Int} {rs : List Rw} (h : now < 0) : rowsb now rs = false := by
  unfold rowsb; rw [show decide (0 ≤ now) = false by simpa using h]; rfl
theorem rowsb_long {now : Int} {rs : List Rw} (h : 300 < rs.length) : rowsb now rs = false := by
  unfold rowsb; rw [show decide (rs.length ≤ 300) = false by simpa using h]; simp
theorem rowsb_row {now : Int} {rs : List Rw} {m : Nat} (h : m < rs.length) (hr : rowb now rs[m] = false) : rowsb now rs = false := by
  have ha : rs.all (rowb now) = false := by
    cases ha : rs.all (rowb now)
    · rfl
    · rw [List.all_eq_true.1 ha _ (List.getElem_mem h)] at hr; cases hr
  unfold rowsb; rw [ha]; simp
theorem rowsb_clash {now : Int} {rs : List Rw} {i k : Nat} (hi : i < rs.length) (hk : k < i) (hc : clash (tr rs[i]) (tr (rs[k]'(by omega))) = true) : rowsb now rs = false := by
  have ha : apartR (rs.map tr) = false := by
    cases ha : apartR (rs.map tr)
    · rfl
    · have hp := List.pairwise_iff_getElem.1 ((apartR_iff _).1 ha) k i (by simp; omega) (by simpa using hi) hk
      simp only [List.getElem_map] at hp
      rw [clash_comm, hc] at hp; cases hp
  unfold rowsb; rw [ha]; simp
theorem rowsb_yes {now : Int} {rs : List Rw} (h0 : 0 ≤ now) (hl : rs.length ≤ 300) (hr : ∀ m (h : m < rs.length), rowb now rs[m] = true) (ha : apartR (rs.map tr) = true) : rowsb now rs = true := by
  have hall : rs.all (rowb now) = true := List.all_eq_true.2 fun x hx => by
    obtain ⟨m, hm, rfl⟩ := List.mem_iff_getElem.1 hx
    exact hr m hm
  unfold rowsb
  rw [hall, ha]
  simp [h0, hl]
theorem apartR_next {rs : List Rw} {i : Nat} (hi : i < rs.length) (ha : apartR ((rs.map tr).take i) = true) (hc : ∀ m (h : m < rs.length), m < i → clash (tr rs[i]) (tr rs[m]) = false) : apartR ((rs.map tr).take (i + 1)) = true := by
  have e : (rs.map tr).take (i + 1) = (rs.map tr).take i ++ [tr rs[i]] := by
    rw [List.take_add_one, List.getElem?_map, List.getElem?_eq_getElem hi]; rfl
  rw [e, apartR_snoc, ha, Bool.true_and, List.all_eq_true]
  intro y hy
  obtain ⟨m, hm, rfl⟩ := List.mem_iff_getElem.1 hy
  simp only [List.length_take, List.length_map] at hm
  rw [List.getElem_take, List.getElem_map, clash_comm, hc m (by omega) (by omega)]
  rfl
set_option maxRecDepth 100000 in
set_option maxHeartbeats 4000000 in
theorem spec_RowsOk {N : Nat → Prop} (now : Int) (a : Option Addr) (cap : Nat) (rs : List Rw) (w : World) (hm : rs.length ≤ 1099511627776) (h : Rws N w a rs) : Calls Tryz.prog 83 #[.agg #[.int .i64 now, .slice a rs.length cap]] w fun e w' => e = .returned (.bool (rowsb now rs)) ∧ Below w.heap.size w w' := by
  have HR := hid h
  clear h
  obtain ⟨n, hn⟩ : ∃ n, n = rs.length := ⟨_, rfl⟩
  have HN := hid hn.symm
  rw [← hn] at hm ⊢
  clear hn
  by_cases h0 : now < 0
  · rw [rowsb_now h0]
    go_enter Tryz.func83, Tryz.ntmps83
    go_wp2_with fail
    go_ret
    exact ⟨rfl, balloc (Below.refl _ _) _⟩
  by_cases hl : 300 < n
  · rw [rowsb_long (by rw [HN.out]; exact hl)]
    have hl' : (300 : Int) < (n : Int) := by omega
    go_enter Tryz.func83, Tryz.ntmps83
    go_wp2_with fail
    go_ret
    exact ⟨rfl, balloc (Below.refl _ _) _⟩
  have hl' : (n : Int) ≤ 300 := by omega
  have hld : decide ((300 : Int) < (n : Int)) = false := by rw [decide_eq_false_iff_not]; omega
  go_enter Tryz.func83, Tryz.ntmps83
  go_wp2_with fail
  have g1 := new_alloc w w.heap.size (.cells #[.int .i64 now, .slice a n cap] 36) rfl
  have hB := balloc (Below.refl w.heap.size w) (.cells #[.int .i64 now, .slice a n cap] 36)
  generalize w.alloc (.cells #[.int .i64 now, .slice a n cap] 36) = W at *
  clear hld
  go_loopw [3] (fun ti wr => ∃ i : Nat, ti = .int .i64 i ∧ i ≤ n ∧ Hid (∀ m (h : m < rs.length), m < i → rowb now rs[m] = true) ∧ Hid (apartR ((rs.map tr).take i) = true) ∧ Hid (wr.heap[w.heap.size]? = some (.cells #[.int .i64 now, .slice a n cap] 36 (0, 0))) ∧ Hid (Below w.heap.size w wr)) (fun ti _ => n - (intOf ti).toNat)
  case atStart => exact ⟨0, rfl, Nat.zero_le _, hid (fun m h hh => absurd hh (by omega)), hid (by simp [apartR]), hid g1, hid hB⟩
  case round =>
    clear g1 hB
    obtain ⟨i, rfl, hi, HA, HP, G1, HBW⟩ := hrel
    obtain ⟨d0, d1, _, _⟩ := cell2f G1.out
    by_cases hlt : i < n
    · have c1 : (i : Int) < (n : Int) := by omega
      have hir : i < rs.length := by rw [HN.out]; exact hlt
      obtain ⟨b, o, rfl, hbs, a', cap', k0, k1, k2, k3, k4, k5, k6, k7, _⟩ := (HR.out.below HBW.out).at i hir
      have HID := hid (fun w => spec_id rs[i].1 w)
      have HIN := hid (fun w => in_r rs[i].2.1 1 now w)
      have HSO := hid (fun (W : World) (hb : Below wr.heap.size wr W) => spec_ShapeOk rs[i].2.2.2.1 a' cap' rs[i].2.2.2.2 W k6 k5 (k7.below hb))
      unfold shv at HSO
      have hrb : rowb now rs[i] = (idb rs[i].1 && (decide (1 ≤ rs[i].2.1) && decide (rs[i].2.1 ≤ now)) && (decide (rs[i].2.2.1 = 0) || (decide (rs[i].2.1 < rs[i].2.2.1) && decide (rs[i].2.2.1 ≤ now))) && shok rs[i].2.2.2.1 rs[i].2.2.2.2) := rfl
      have HRB := hid hrb
      clear hrb k5 k6 k7
      have HCL := hid (fun (k : Nat) (hk : k < rs.length) (hki : k < i) (hc : clash (tr rs[i]) (tr rs[k]) = true) => rowsb_clash (now := now) (rs := rs) (i := i) (k := k) hir hki hc)
      have HRF := hid (fun (hr : rowb now rs[i] = false) => rowsb_row (now := now) hir hr)
      have HNX := hid (fun (hc : ∀ m (h : m < rs.length), m < i → clash (tr rs[i]) (tr rs[m]) = false) => apartR_next hir HP.out hc)
      have hti : tr rs[i] = (rs[i].1, rs[i].2.1, rs[i].2.2.1) := rfl
      rw [hti] at HCL HNX
      have HTH := hid (fun (t : Int) (W : World) => spec_there rs[i] a' cap' t W)
      rw [hti] at HTH
      unfold rwv at HTH
      clear hti
      generalize hrow : rowb now rs[i] = rb at *
      have HROW := hid hrow
      clear hrow
      generalize rs[i].1 = id at *
      generalize rs[i].2.1 = fr at *
      generalize rs[i].2.2.1 = te at *
      generalize rs[i].2.2.2.1 = kd at *
      generalize rs[i].2.2.2.2 = ps at *
      go_upto_region 7 with fail
      have hBx : Below wr.heap.size wr (wr.alloc (.cells #[.int .i64 id, .int .i64 fr, .int .i64 te, .int .i64 kd, .slice a' ps.length cap'] 129)) := balloc (Below.refl _ _) _
      have gx := new_alloc wr wr.heap.size (.cells #[.int .i64 id, .int .i64 fr, .int .i64 te, .int .i64 kd, .slice a' ps.length cap'] 129) rfl
      have g1 := keepheap2 hBx G1.out
      have hB := btrans HBW.out hBx
      have hlx := lt_of_block G1.out
      have HBX := hid hBx
      clear hBx d0 d1 k0 k1 k2 k3 k4
      generalize wr.alloc (.cells #[.int .i64 id, .int .i64 fr, .int .i64 te, .int .i64 kd, .slice a' ps.length cap'] 129) = W1 at *
      have hlx1 := lt_of_block gx
      have HX0 := hid (show wr.heap.size = wr.heap.size from rfl)
      obtain ⟨X, hX⟩ : ∃ X, X = wr.heap.size := ⟨_, rfl⟩
      rw [← hX] at gx hlx hlx1 ⊢
      have HXE := hid hX
      clear hX HX0
      obtain ⟨d0, d1, _, _⟩ := cell2f g1
      obtain ⟨⟨x0, x1, x2, x3, x4⟩, _⟩ := cell5g gx
      go_cut [64] from 28 to 64 (fun t wx => t = .bool (!rb) ∧ Hid (Below W1.heap.size W1 wx))
      case first =>
        generalize idb id = B1 at HID HRB
        generalize (decide (1 ≤ fr) && decide (fr ≤ now)) = B2 at HIN HRB
        generalize shok kd ps = B4 at HSO HRB
        cases B1
        · go_wp2_with fail
          refine (HID.out _).mono ?_
          rintro e z ⟨rfl, hw⟩
          replace hw := hw.symm
          subst hw
          go_wp2_with fail
          go_meet
          exact ⟨by rw [HRB.out]; simp, hid (Below.refl _ _)⟩
        cases B2
        · go_wp2_with fail
          refine (HID.out _).mono ?_
          rintro e z ⟨rfl, hw⟩
          replace hw := hw.symm
          subst hw
          go_wp2_with fail
          refine (HIN.out _).mono ?_
          rintro e z ⟨rfl, hw⟩
          replace hw := hw.symm
          subst hw
          go_wp2_with fail
          go_meet
          exact ⟨by rw [HRB.out]; simp, hid (Below.refl _ _)⟩
        cases q0 : (te != 0)
        · have hrb2 : rb = B4 := by rw [HRB.out]; have : te = 0 := by simpa using q0
                                    simp [this]
          have HRB2 := hid hrb2
          clear hrb2
          go_wp2_with fail
          refine (HID.out _).mono ?_
          rintro e z ⟨rfl, hw⟩
          replace hw := hw.symm
          subst hw
          go_wp2_with fail
          refine (HIN.out _).mono ?_
          rintro e z ⟨rfl, hw⟩
          replace hw := hw.symm
          subst hw
          go_wp2_with fail
          refine (HSO.out _ HBX.out).mono ?_
          rintro e z ⟨rfl, hz⟩
          go_wp2_with fail
          go_meet
          exact ⟨by rw [HRB2.out], hid hz⟩
        cases q1 : decide (te ≤ fr)
        · cases q2 : decide (now < te)
          · have hrb2 : rb = B4 := by
              rw [HRB.out]
              have t1 : ¬ te ≤ fr := by simpa using q1
              have t2 : ¬ now < te := by simpa using q2
              have t3 : decide (fr < te) = true := by rw [decide_eq_true_iff]; omega
              have t4 : decide (te ≤ now) = true := by rw [decide_eq_true_iff]; omega
              rw [t3, t4]; simp
            have HRB2 := hid hrb2
            clear hrb2
            go_wp2_with fail
            refine (HID.out _).mono ?_
            rintro e z ⟨rfl, hw⟩
            replace hw := hw.symm
            subst hw
            go_wp2_with fail
            refine (HIN.out _).mono ?_
            rintro e z ⟨rfl, hw⟩
            replace hw := hw.symm
            subst hw
            go_wp2_with fail
            refine (HSO.out _ HBX.out).mono ?_
            rintro e z ⟨rfl, hz⟩
            go_wp2_with fail
            go_meet
            exact ⟨by rw [HRB2.out], hid hz⟩
          · have hrb2 : rb = false := by
              rw [HRB.out]
              have t0 : ¬ te = 0 := by simpa using q0
              have t2 : now < te := by simpa using q2
              have t4 : decide (te ≤ now) = false := by rw [decide_eq_false_iff_not]; omega
              rw [t4]; simp [t0]
            have HRB2 := hid hrb2
            clear hrb2
            go_wp2_with fail
            refine (HID.out _).mono ?_
            rintro e z ⟨rfl, hw⟩
            replace hw := hw.symm
            subst hw
            go_wp2_with fail
            refine (HIN.out _).mono ?_
            rintro e z ⟨rfl, hw⟩
            replace hw := hw.symm
            subst hw
            go_wp2_with fail
            go_meet
            exact ⟨by rw [HRB2.out]; rfl, hid (Below.refl _ _)⟩
        · have hrb2 : rb = false := by
            rw [HRB.out]
            have t0 : ¬ te = 0 := by simpa using q0
            have t1 : te ≤ fr := by simpa using q1
            have t3 : decide (fr < te) = false := by rw [decide_eq_false_iff_not]; omega
            rw [t3]; simp [t0]
          have HRB2 := hid hrb2
          clear hrb2
          go_wp2_with fail
          refine (HID.out _).mono ?_
          rintro e z ⟨rfl, hw⟩
          replace hw := hw.symm
          subst hw
          go_wp2_with fail
          refine (HIN.out _).mono ?_
          rintro e z ⟨rfl, hw⟩
          replace hw := hw.symm
          subst hw
          go_wp2_with fail
          go_meet
          exact ⟨by rw [HRB2.out]; rfl, hid (Below.refl _ _)⟩
      case rest =>
        obtain ⟨rfl, HBC⟩ := hcut
        have g1' := keepheap2 HBC.out g1
        have gx' := keepheap2 HBC.out gx
        have hB' := btrans hB HBC.out
        clear d0 d1 x0 x1 x2 x3 x4 HID HIN HSO HRB
        cases rb
        · have HF := hid (HRF.out rfl)
          go_wp2_with fail
          go_ret
          exact ⟨by rw [HF.out]; rfl, hB'⟩
        go_wp2_with fail
        go_loopw [5] (fun tk wq => ∃ k : Nat, tk = .int .i64 k ∧ k ≤ i ∧ Hid (∀ m (h : m < rs.length), m < k → clash (id, fr, te) (tr rs[m]) = false) ∧ Hid (wq.heap[w.heap.size]? = some (.cells #[.int .i64 now, .slice (some ⟨b, o, none⟩) n cap] 36 (0, 0))) ∧ Hid (wq.heap[X]? = some (.cells #[.int .i64 id, .int .i64 fr, .int .i64 te, .int .i64 kd, .slice a' ps.length cap'] 129 (0, 0))) ∧ Hid (Below w.heap.size w wq)) (fun tk _ => i - (intOf tk).toNat)
        case atStart => exact ⟨0, rfl, Nat.zero_le _, hid (fun m h hh => absurd hh (by omega)), hid g1', hid gx', hid hB'⟩
        case round =>
          clear g1' gx' hB' g1 gx hB G1
          obtain ⟨k, rfl, hk, HC, G1, GX, HBQ⟩ := hrel
          obtain ⟨d0, d1, _, _⟩ := cell2f G1.out
          obtain ⟨⟨x0, x1, x2, x3, x4⟩, _⟩ := cell5g GX.out
          by_cases hlt2 : k < i
          · have c2 : (k : Int) < (i : Int) := by omega
            have c3 : (k : Int) < (n : Int) := by omega
            have hkr : k < rs.length := by rw [HN.out]; omega
            obtain ⟨b', o', hbo, hbs', a2, cap2, k0, k1, k2, k3, k4, k5, k6, k7, _⟩ := (HR.out.below HBQ.out).at k hkr
            cases hbo
            have HT2 := hid (fun (t : Int) (W : World) => spec_there rs[k] a2 cap2 t W)
            have HCK := hid (HCL.out k hkr hlt2)
            have HCA : Hid (clash (id, fr, te) (tr rs[k]) = false → ∀ m (h : m < rs.length), m < k + 1 → clash (id, fr, te) (tr rs[m]) = false) := hid (fun hf m hm hmk => by
              by_cases e : m = k
              · subst e; exact hf
              · exact HC.out m hm (by omega))
            have htk : tr rs[k] = (rs[k].1, rs[k].2.1, rs[k].2.2.1) := rfl
            rw [htk] at HT2 HCK HCA
            unfold rwv at HT2
            clear htk k5 k6 k7
            generalize rs[k].1 = id2 at *
            generalize rs[k].2.1 = fr2 at *
            generalize rs[k].2.2.1 = te2 at *
            generalize rs[k].2.2.2.1 = kd2 at *
            generalize rs[k].2.2.2.2 = ps2 at *
            have HCD := hid (show clash (id, fr, te) (id2, fr2, te2) = (decide (id2 = id) && (thr (id, fr, te) fr2 || thr (id2, fr2, te2) fr)) from rfl)
            go_upto_region 13 with fail
            have hBy : Below wr.heap.size wr (wr.alloc (.cells #[.int .i64 id2, .int .i64 fr2, .int .i64 te2, .int .i64 kd2, .slice a2 ps2.length cap2] 129)) := balloc (Below.refl _ _) _
            have gy := new_alloc wr wr.heap.size (.cells #[.int .i64 id2, .int .i64 fr2, .int .i64 te2, .int .i64 kd2, .slice a2 ps2.length cap2] 129) rfl
            have g1 := keepheap2 hBy G1.out
            have gx := keepheap2 hBy GX.out
            have hB := btrans HBQ.out hBy
            clear d0 d1 x0 x1 x2 x3 x4 k0 k1 k2 k3 k4 hBy
            generalize wr.alloc (.cells #[.int .i64 id2, .int .i64 fr2, .int .i64 te2, .int .i64 kd2, .slice a2 ps2.length cap2] 129) = W2 at *
            generalize wr.heap.size = Y at *
            obtain ⟨d0, d1, _, _⟩ := cell2f g1
            obtain ⟨⟨x0, x1, x2, x3, x4⟩, _⟩ := cell5g gx
            obtain ⟨⟨y0, y1, y2, y3, y4⟩, _⟩ := cell5g gy
            generalize hcl : clash (id, fr, te) (id2, fr2, te2) = cb at *
            have HCB := hid hcl
            clear hcl
            go_cut [91] from 75 to 91 (fun t wx => t = .bool cb ∧ Hid (Below W2.heap.size W2 wx))
            case first =>
              generalize hT1 : thr (id, fr, te) fr2 = T1 at HCD
              generalize hT2 : thr (id2, fr2, te2) fr = T2 at HCD
              have H1 := hid (HTH.out fr2)
              have H2 := hid (HT2.out fr)
              rw [hT1] at H1
              rw [hT2] at H2
              clear hT1 hT2
              cases qi : (id2 == id)
              · have hne : decide (id2 = id) = false := by simpa using qi
                go_wp2_with fail
                go_meet
                exact ⟨by rw [HCD.out, hne]; rfl, hid (Below.refl _ _)⟩
              · have heq : decide (id2 = id) = true := by simpa using qi
                have HEQ := hid heq
                clear heq
                cases T1
                · go_wp2_with fail
                  refine (H1.out _).mono ?_
                  rintro e z ⟨rfl, hz⟩
                  have gx2 := keepheap2 hz gx
                  have gy2 := keepheap2 hz gy
                  obtain ⟨⟨x0', x1', x2', x3', x4'⟩, _⟩ := cell5g gx2
                  obtain ⟨⟨y0', y1', y2', y3', y4'⟩, _⟩ := cell5g gy2
                  go_wp2_with fail
                  refine (H2.out _).mono ?_
                  rintro e z' ⟨rfl, hz'⟩
                  go_wp2_with fail
                  go_meet
                  exact ⟨by rw [HCD.out, HEQ.out]; simp, hid (btrans hz hz')⟩
                · go_wp2_with fail
                  refine (H1.out _).mono ?_
                  rintro e z ⟨rfl, hz⟩
                  go_wp2_with fail
                  go_meet
                  exact ⟨by rw [HCD.out, HEQ.out]; simp, hid hz⟩
            case rest =>
              obtain ⟨rfl, HBC2⟩ := hcut
              have g1' := keepheap2 HBC2.out g1
              have gx' := keepheap2 HBC2.out gx
              have hB' := btrans hB HBC2.out
              clear d0 d1 x0 x1 x2 x3 x4 y0 y1 y2 y3 y4
              cases cb
              · go_wp2_with fail
                go_roundw
                case rel => exact ⟨k + 1, by go_num, by omega, hid (HCA.out rfl), hid g1', hid gx', hid hB'⟩
                case measure => simp [intOf]; omega
              · have HF := hid (HCK.out rfl)
                go_wp2_with fail
                go_ret
                exact ⟨by rw [HF.out]; rfl, hB'⟩
          · have hall : ∀ m (h : m < rs.length), m < i → clash (id, fr, te) (tr rs[m]) = false := fun m h hm => HC.out m h (by omega)
            have HNA := hid (HNX.out hall)
            have c2 : (i : Int) ≤ (k : Int) := by omega
            clear hall
            have HG1 := hid G1.out
            clear d0 d1 x0 x1 x2 x3 x4
            go_wp2_with fail
            go_roundw
            case rel => exact ⟨i + 1, by go_num, by omega, hid (fun m h hm => by
              by_cases e : m = i
              · subst e; exact HROW.out
              · exact HA.out m h (by omega)), HNA, HG1, HBQ⟩
            case measure => simp [intOf]; omega
    · have hy := hid (rowsb_yes (now := now) (rs := rs) (by omega) (by rw [HN.out]; omega) (fun m h => HA.out m h (by rw [HN.out] at h; omega)) (by
        have := HP.out
        rw [List.take_of_length_le (by simp; rw [HN.out]; omega)] at this
        exact this))
      have c1 : (n : Int) ≤ (i : Int) := by omega
      go_wp2_with fail
      go_ret
      exact ⟨by rw [hy.out]; rfl, HBW.out⟩
end Go.Proofs.YtehifednpbdokaaGreatDoor
namespace Go.Proofs.YtehifednpbdokaaGreatDoor
open Go.RowKit
set_option linter.unusedSimpArgs false
set_option linter.unusedVariables false
theorem nbrs_take : ∀ (l : List Tr), (∀ k (h : k + 1 < l.length), nbr l[k] l[k + 1] = false) → nbrs l = true
  | [], _ => rfl
  | [_], _ => rfl
  | x :: y :: r, h => by
    simp only [nbrs, Bool.and_eq_true, Bool.not_eq_true']
    refine ⟨h 0 (by simp), nbrs_take (y :: r) (fun k hk => ?_)⟩
    exact h (k + 1) (by simp at hk ⊢; omega)
theorem nbrs_no : ∀ (l : List Tr) (k : Nat) (h : k + 1 < l.length), nbr l[k] l[k + 1] = true → nbrs l = false
  | [], k, h, _ => by simp at h
  | [_], k, h, _ => by simp at h
  | x :: y :: r, 0, h, hn => by
    have hn' : nbr x y = true := hn
    simp [nbrs, hn']
  | x :: y :: r, k + 1, h, hn => by
    have ih := nbrs_no (y :: r) k (by simp at h ⊢; omega) hn
    simp [nbrs, ih]
set_option maxRecDepth 100000 in
set_option maxHeartbeats 4000000 in
theorem rows_apart0 (a : Option Addr) (cap : Nat) (w : World) : Calls Tryz.prog 141 #[.slice a 0 cap] w fun e w' => e = .returned (.bool true) ∧ Below w.heap.size w w' := by
  go_enter Tryz.func141, Tryz.ntmps141
  go_wp2_with fail
  refine (values_c _ _ _ _).mono ?_
  rintro e z ⟨rfl, rfl⟩
  go_wp2_with fail
  have hB0 : Below w.heap.size w (w.alloc (.cells #[.slice a 0 cap] 34)) := balloc (Below.refl _ _) _
  refine (sorted_0 w.heap.size cap a _ (by simp)).mono ?_
  rintro e w1 ⟨a', cp, rfl, hB1⟩
  have hB := btrans hB0 hB1
  clear hB0 hB1
  go_wp2_with fail
  go_loopw [4] (fun ti wr => ti = .int .i64 1 ∧ Hid (Below w.heap.size w wr)) (fun ti _ => 0)
  case atStart => exact ⟨rfl, hid hB⟩
  case round =>
    clear hB
    obtain ⟨rfl, HB⟩ := hrel
    go_wp2_with fail
    go_ret
    exact ⟨rfl, HB.out⟩
set_option maxRecDepth 100000 in
set_option maxHeartbeats 4000000 in
theorem rows_apart (b off cap : Nat) (xs : List El) (w : World) (hlen : xs.length ≤ 300) (h0 : ¬ xs.length = 0) (hb : b < w.heap.size) (hc : ElsAt w b off xs) (ht : ∀ x ∈ xs, tmb (trE x)) : Calls Tryz.prog 141 #[.slice (some ⟨b, off, none⟩) xs.length cap] w fun e w' => e = .returned (.bool (apartR (xs.map trE))) ∧ Below w.heap.size w w' := by
  have h0' : 0 < xs.length := by omega
  have HSF := hid (fun (W : World) (Bs : Nat) (hb0 : Below w.heap.size w W) (hBs : W.cell? ⟨Bs, 0, none⟩ = some (.slice (some ⟨b, off, none⟩) xs.length cap)) => sorted_c Bs b off cap xs h0' (by omega) W (Nat.lt_of_lt_of_le hb hb0.size) hBs (hc.below hb hb0))
  clear hc
  obtain ⟨n, hn⟩ : ∃ n, n = xs.length := ⟨_, rfl⟩
  have HN := hid hn
  rw [← hn] at HSF h0' hlen ⊢
  clear hn h0
  go_enter Tryz.func141, Tryz.ntmps141
  go_wp2_with fail
  refine (values_c _ _ _ _).mono ?_
  rintro e z ⟨rfl, rfl⟩
  go_wp2_with fail
  have hB0 : Below w.heap.size w (w.alloc (.cells #[.slice (some ⟨b, off, none⟩) n cap] 34)) := balloc (Below.refl _ _) _
  refine (HSF.out _ _ hB0 (by simp)).mono ?_
  rintro e w1 ⟨g, cp, ys, rfl, hyl, hgl, hE, hP, hL, hB1⟩
  have hap : apartR (xs.map trE) = nbrs (ys.map trE) := apartR_sorted (hP.map trE) (fun x hx => by
    obtain ⟨y, hy, rfl⟩ := List.mem_map.1 hx
    exact ht y hy) (List.pairwise_map.2 (hL.imp (fun h => h)))
  have HAP := hid hap
  have hB := btrans hB0 hB1
  have HYL := hid hyl
  have HE := hid hE
  clear hap hP hL hB1 hB0 hE hyl HSF ht
  go_wp2_with fail
  go_loopw [4] (fun ti wr => ∃ k : Nat, ti = .int .i64 ((k + 1 : Nat) : Int) ∧ k + 1 ≤ n ∧ Hid (∀ m (h : m + 1 < ys.length), m < k → nbr (trE ys[m]) (trE ys[m + 1]) = false) ∧ Hid (g < wr.heap.size ∧ ElsAt wr g 0 ys) ∧ Hid (Below w.heap.size w wr)) (fun ti _ => n - (intOf ti).toNat)
  case atStart => exact ⟨0, rfl, by omega, hid (fun m h hh => absurd hh (by omega)), hid ⟨hgl, HE.out⟩, hid hB⟩
  case round =>
    clear hB hgl HE
    obtain ⟨k, rfl, hk, HC, HE, HB⟩ := hrel
    by_cases hlt : k + 1 < n
    · have c1 : ((k + 1 : Nat) : Int) < (n : Int) := by omega
      have hk1 : k + 1 < ys.length := by rw [HYL.out]; exact hlt
      obtain ⟨x0, x1, x2, x3, x4⟩ := HE.out.2 k (by omega)
      obtain ⟨y0, y1, y2, y3, y4⟩ := HE.out.2 (k + 1) hk1
      have HT := hid (fun (t : Int) (W : World) => impl_there ((ys[k]'(by omega)).1, (ys[k]'(by omega)).2.1, (ys[k]'(by omega)).2.2.1, (ys[k]'(by omega)).2.2.2.1, List.replicate (ys[k]'(by omega)).2.2.2.2.2.1 (0, 0)) (ys[k]'(by omega)).2.2.2.2.1 (ys[k]'(by omega)).2.2.2.2.2.2 t W)
      have HNB := hid (show nbr (trE (ys[k]'(by omega))) (trE ys[k + 1]) = (decide ((ys[k]'(by omega)).1 = ys[k + 1].1) && thr ((ys[k]'(by omega)).1, (ys[k]'(by omega)).2.1, (ys[k]'(by omega)).2.2.1) ys[k + 1].2.1) from rfl)
      have HNO := hid (fun (h : nbr (trE (ys[k]'(by omega))) (trE ys[k + 1]) = true) => nbrs_no (ys.map trE) k (by simpa using hk1) (by simpa using h))
      have HCA : Hid (nbr (trE (ys[k]'(by omega))) (trE ys[k + 1]) = false → ∀ m (h : m + 1 < ys.length), m < k + 1 → nbr (trE ys[m]) (trE ys[m + 1]) = false) := hid (fun hf m hm hmk => by
        by_cases e : m = k
        · subst e; exact hf
        · exact HC.out m hm (by omega))
      unfold rwv tr at HT
      simp only [List.length_replicate, Nat.zero_add] at HT x0 x1 x2 x3 x4 y0 y1 y2 y3 y4
      generalize nbr (trE (ys[k]'(by omega))) (trE ys[k + 1]) = nb at HNB HNO HCA
      generalize (ys[k]'(by omega)).1 = i1 at *
      generalize (ys[k]'(by omega)).2.1 = f1 at *
      generalize (ys[k]'(by omega)).2.2.1 = t1 at *
      generalize (ys[k]'(by omega)).2.2.2.1 = k1 at *
      generalize (ys[k]'(by omega)).2.2.2.2.1 = a1 at *
      generalize (ys[k]'(by omega)).2.2.2.2.2.1 = n1 at *
      generalize (ys[k]'(by omega)).2.2.2.2.2.2 = p1 at *
      generalize ys[k + 1].1 = i2 at *
      generalize ys[k + 1].2.1 = f2 at *
      generalize ys[k + 1].2.2.1 = t2 at *
      generalize ys[k + 1].2.2.2.1 = k2 at *
      generalize ys[k + 1].2.2.2.2.1 = a2 at *
      generalize ys[k + 1].2.2.2.2.2.1 = n2 at *
      generalize ys[k + 1].2.2.2.2.2.2 = p2 at *
      obtain ⟨j, hj⟩ : ∃ j : Nat, j = k + 1 := ⟨_, rfl⟩
      have HJ := hid hj
      rw [← hj] at y0 y1 y2 y3 y4 c1 ⊢
      have hj0 : (0 : Int) ≤ (j : Int) := by omega
      have hw1 : IntKind.i64.wrap ((j : Int) - 1) = (k : Int) := by rw [IntWalk.i64_in _ ⟨by omega, by omega⟩]; omega
      have hk0 : (0 : Int) ≤ (k : Int) := by omega
      have ck : (k : Int) < (n : Int) := by omega
      have hjn : j < n := by omega
      have hkn : k < n := by omega
      clear hj hk hlt hk1
      have HB2 := HB
      have HE2 := HE
      go_wp2_with fail
      go_cut [5, 6] (fun t5 t6 wx => ∃ ba bb : Nat, t5 = .pointer (some ⟨ba, 0, none⟩) ∧ t6 = .pointer (some ⟨bb, 0, none⟩) ∧ Below wr.heap.size wr wx ∧ wx.heap[ba]? = some (.cells #[.int .i64 i1, .int .i64 f1, .int .i64 t1, .int .i64 k1, .slice a1 n1 p1] 129 (0, 0)) ∧ wx.heap[bb]? = some (.cells #[.int .i64 i2, .int .i64 f2, .int .i64 t2, .int .i64 k2, .slice a2 n2 p2] 129 (0, 0)))
      case first =>
        go_region_held3 (fun w' => w'.cell? ⟨g, k * 5, none⟩ = some (.int .i64 i1) ∧ w'.cell? ⟨g, k * 5 + 1, none⟩ = some (.int .i64 f1) ∧ w'.cell? ⟨g, k * 5 + 2, none⟩ = some (.int .i64 t1) ∧ w'.cell? ⟨g, k * 5 + 3, none⟩ = some (.int .i64 k1) ∧ w'.cell? ⟨g, k * 5 + 4, none⟩ = some (.slice a1 n1 p1) ∧ w'.cell? ⟨g, j * 5, none⟩ = some (.int .i64 i2) ∧ w'.cell? ⟨g, j * 5 + 1, none⟩ = some (.int .i64 f2) ∧ w'.cell? ⟨g, j * 5 + 2, none⟩ = some (.int .i64 t2) ∧ w'.cell? ⟨g, j * 5 + 3, none⟩ = some (.int .i64 k2) ∧ w'.cell? ⟨g, j * 5 + 4, none⟩ = some (.slice a2 n2 p2)) ((go_split_ands; (repeat' apply And.intro) <;> (repeat (first | with_reducible assumption | with_reducible refine keepset ?_ (by dsimp only; omega) | with_reducible refine keepdrew ?_ | with_reducible refine keepalloc ?_ _))))
          (first
            | (fail))
        all_goals
          go_wp2_with fail
          go_meet
          first
            | exact ⟨_, _, rfl, rfl, by (repeat (first | exact Below.refl _ _ | (refine btrans ?_ (by with_reducible assumption)) | refine bdrew ?_ | refine balloc ?_ _)), old_alloc (new_alloc _ _ _ (by simp)), new_alloc _ _ _ (by simp)⟩
            | exact ⟨_, _, rfl, rfl, by (repeat (first | exact Below.refl _ _ | (refine btrans ?_ (by with_reducible assumption)) | refine bdrew ?_ | refine balloc ?_ _)), new_alloc _ _ _ (by simp), old_alloc (new_alloc _ _ _ (by simp))⟩
      case rest =>
        clear x0 x1 x2 x3 x4 y0 y1 y2 y3 y4
        obtain ⟨ba, bb, rfl, rfl, hbx, ga, gb⟩ := hcut
        obtain ⟨⟨x0, x1, x2, x3, x4⟩, _⟩ := cell5g ga
        obtain ⟨⟨y0, y1, y2, y3, y4⟩, _⟩ := cell5g gb
        clear ga gb
        have HB3 := hid (btrans HB2.out hbx)
        have HE3 := hid (And.intro (Nat.lt_of_lt_of_le HE2.out.1 hbx.size) (HE2.out.2.below HE2.out.1 hbx))
        have hadd : IntKind.i64.wrap ((j : Int) + 1) = ((j + 1 : Nat) : Int) := by rw [IntWalk.i64_in _ ⟨by omega, by omega⟩]; omega
        clear hbx HB2 HB HE HE2
        have HT2 := hid (fun W => HT.out f2 W)
        clear HT
        generalize hth : thr (i1, f1, t1) f2 = th at *
        cases qi : (i1 == i2)
        · have nbf : nb = false := by rw [HNB.out, show decide (i1 = i2) = false by simpa using qi]; rfl
          have HQ := hid (HCA.out nbf)
          clear nbf
          go_wp2_with fail
          go_roundw
          case rel => exact ⟨j, by go_num, by omega, by rw [HJ.out]; exact HQ, HE3, HB3⟩
          case measure => simp [intOf]; omega
        · have HN2 : Hid (nb = th) := hid (by rw [HNB.out, show decide (i1 = i2) = true by simpa using qi]; rfl)
          cases th
          · go_wp2_with fail
            refine (HT2.out _).mono ?_
            rintro e z ⟨rfl, hz⟩
            have HQ := hid (HCA.out HN2.out)
            have HB4 := hid (btrans HB3.out hz)
            have HE4 := hid (And.intro (Nat.lt_of_lt_of_le HE3.out.1 hz.size) (HE3.out.2.below HE3.out.1 hz))
            clear hz HE3 HB3
            go_wp2_with fail
            go_roundw
            case rel => exact ⟨j, by go_num, by omega, by rw [HJ.out]; exact HQ, HE4, HB4⟩
            case measure => simp [intOf]; omega
          · go_wp2_with fail
            refine (HT2.out _).mono ?_
            rintro e z ⟨rfl, hz⟩
            have HQ := hid (HNO.out HN2.out)
            have HB4 := hid (btrans HB3.out hz)
            clear hz HE3 HB3
            go_wp2_with fail
            go_ret
            exact ⟨by rw [HAP.out, HQ.out]; rfl, HB4.out⟩
    · have hall := nbrs_take (ys.map trE) (fun m hm => by
        simp only [List.length_map] at hm
        simpa using HC.out m hm (by rw [HYL.out] at hm; omega))
      have HALL := hid hall
      have c1 : (n : Int) ≤ ((k + 1 : Nat) : Int) := by omega
      clear hall
      go_wp2_with fail
      go_ret
      exact ⟨by rw [HAP.out, HALL.out]; rfl, HB.out⟩
end Go.Proofs.YtehifednpbdokaaGreatDoor
namespace Go.Proofs.YtehifednpbdokaaGreatDoor
open Go.RowKit
set_option linter.unusedSimpArgs false
set_option linter.unusedVariables false
set_option maxRecDepth 100000 in
set_option maxHeartbeats 2000000 in
theorem impl_right (now : Int) (r : Rw) (a : Option Addr) (cap : Nat) (w : World) (hm : r.2.2.2.2.length ≤ 1099511627776) (hc : r.2.2.2.2.length ≤ cap) (h : Pts w a r.2.2.2.2) : Calls Tryz.prog 140 #[rwv r a cap, .int .i64 now] w fun e w' => e = .returned (.bool (rowb now r)) ∧ Below w.heap.size w w' := by
  obtain ⟨id, fr, te, kd, ps⟩ := r
  have HS := hid (fun (W : World) (hb : Below w.heap.size w W) => impl_ShapeOk kd a cap ps W hm hc (h.below hb))
  have HID := hid (fun w => impl_id id w)
  have HRB := hid (show rowb now (id, fr, te, kd, ps) = (idb id && (decide (1 ≤ fr) && decide (fr ≤ now)) && (decide (te = 0) || (decide (fr < te) && decide (te ≤ now))) && shok kd ps) from rfl)
  unfold rwv
  unfold shv at HS
  simp only
  clear h hm hc
  generalize rowb now (id, fr, te, kd, ps) = rb at *
  generalize shok kd ps = so at *
  generalize ps.length = n at *
  generalize idb id = ib at *
  generalize hE : (decide (te = 0) || (decide (fr < te) && decide (te ≤ now))) = E at *
  go_enter Tryz.func140, Tryz.ntmps140
  go_upto_region 1 with fail
  have hBx : Below w.heap.size w (w.alloc (.cells #[.int .i64 id, .int .i64 fr, .int .i64 te, .int .i64 kd, .slice a n cap] 129)) := balloc (Below.refl _ _) _
  have gx := new_alloc w w.heap.size (.cells #[.int .i64 id, .int .i64 fr, .int .i64 te, .int .i64 kd, .slice a n cap] 129) rfl
  generalize w.alloc (.cells #[.int .i64 id, .int .i64 fr, .int .i64 te, .int .i64 kd, .slice a n cap] 129) = W1 at *
  obtain ⟨⟨x0, x1, x2, x3, x4⟩, _⟩ := cell5g gx
  go_cut [5] from 6 to 21 (fun t wx => t = .bool E ∧ wx = W1)
  case first =>
    by_cases h1 : te = 0
    · have q1 : (te == 0) = true := by simpa using h1
      go_wp2_with fail
      go_meet
      exact ⟨by rw [← hE]; simp [h1], rfl⟩
    · have q1 : (te == 0) = false := by simpa using h1
      by_cases h2 : fr < te
      · go_wp2_with fail
        go_meet
        exact ⟨by rw [← hE]; simp [h1, h2], rfl⟩
      · have q2 : decide (fr < te) = false := by simpa using h2
        have q3 : te ≤ fr := by omega
        go_wp2_with fail
        go_meet
        exact ⟨by rw [← hE, q2]; simp [h1], rfl⟩
  case rest =>
    obtain ⟨rfl, rfl⟩ := hcut
    clear hE
    cases ib
    · go_wp2_with fail
      refine (HID.out _).mono ?_
      rintro e z ⟨rfl, hw⟩
      replace hw := hw.symm
      subst hw
      go_wp2_with fail
      go_ret
      exact ⟨by rw [HRB.out]; rfl, hBx⟩
    by_cases h1 : 1 ≤ fr
    · by_cases h2 : fr ≤ now
      · cases E
        · go_wp2_with fail
          refine (HID.out _).mono ?_
          rintro e z ⟨rfl, hw⟩
          replace hw := hw.symm
          subst hw
          go_wp2_with fail
          go_ret
          exact ⟨by rw [HRB.out]; simp [h1, h2], hBx⟩
        · go_wp2_with fail
          refine (HID.out _).mono ?_
          rintro e z ⟨rfl, hw⟩
          replace hw := hw.symm
          subst hw
          go_wp2_with fail
          refine (HS.out _ hBx).mono ?_
          rintro e z ⟨rfl, hz⟩
          go_wp2_with fail
          go_ret
          exact ⟨by rw [HRB.out]; simp [h1, h2], btrans hBx hz⟩
      · have q2 : decide (fr ≤ now) = false := by simpa using h2
        have q3 : now < fr := by omega
        go_wp2_with fail
        refine (HID.out _).mono ?_
        rintro e z ⟨rfl, hw⟩
        replace hw := hw.symm
        subst hw
        go_wp2_with fail
        go_ret
        exact ⟨by rw [HRB.out, q2]; simp, hBx⟩
    · have q2 : decide (1 ≤ fr) = false := by simpa using h1
      have q3 : fr < 1 := by omega
      go_wp2_with fail
      refine (HID.out _).mono ?_
      rintro e z ⟨rfl, hw⟩
      replace hw := hw.symm
      subst hw
      go_wp2_with fail
      go_ret
      exact ⟨by rw [HRB.out, q2]; simp, hBx⟩
theorem els_of_rows {N : Nat → Prop} {w : World} {b o : Nat} (rs : List Rw) (h : RwsAt N w b o rs) : ∃ xs : List El, xs.length = rs.length ∧ xs.map trE = rs.map tr ∧ ElsAt w b o xs := by
  have hex : ∀ j : Nat, ∃ x : El, ∀ (hj : j < rs.length), trE x = tr rs[j] ∧ w.cell? ⟨b, o + j * 5, none⟩ = some (.int .i64 x.1) ∧ w.cell? ⟨b, o + j * 5 + 1, none⟩ = some (.int .i64 x.2.1) ∧ w.cell? ⟨b, o + j * 5 + 2, none⟩ = some (.int .i64 x.2.2.1) ∧ w.cell? ⟨b, o + j * 5 + 3, none⟩ = some (.int .i64 x.2.2.2.1) ∧ w.cell? ⟨b, o + j * 5 + 4, none⟩ = some (.slice x.2.2.2.2.1 x.2.2.2.2.2.1 x.2.2.2.2.2.2) := by
    intro j
    by_cases hj : j < rs.length
    · obtain ⟨a, cap, k0, k1, k2, k3, k4, _⟩ := h j hj
      exact ⟨(rs[j].1, rs[j].2.1, rs[j].2.2.1, rs[j].2.2.2.1, a, rs[j].2.2.2.2.length, cap), fun _ => ⟨rfl, k0, k1, k2, k3, k4⟩⟩
    · exact ⟨(0, 0, 0, 0, none, 0, 0), fun h' => absurd h' hj⟩
  have ⟨f, hf⟩ := Classical.axiomOfChoice hex
  refine ⟨(List.range rs.length).map f, by simp, ?_, ?_⟩
  · apply List.ext_getElem (by simp)
    intro j h1 h2
    simp only [List.length_map] at h2
    simp only [List.getElem_map, List.getElem_range]
    exact (hf j h2).1
  · intro j hj
    simp only [List.length_map, List.length_range] at hj
    have e : ((List.range rs.length).map f)[j]'(by simpa using hj) = f j := by simp
    rw [e]
    exact (hf j hj).2
theorem apart_rows {N : Nat → Prop} (now : Int) (a : Option Addr) (cap : Nat) (rs : List Rw) (w : World) (hl : rs.length ≤ 300) (h : Rws N w a rs) (hr : ∀ m (h : m < rs.length), rowb now rs[m] = true) : Calls Tryz.prog 141 #[.slice a rs.length cap] w fun e w' => e = .returned (.bool (apartR (rs.map tr))) ∧ Below w.heap.size w w' := by
  by_cases h0 : rs.length = 0
  · have e : rs = [] := List.eq_nil_of_length_eq_zero h0
    subst e
    exact rows_apart0 a cap w
  · rcases h with h | ⟨b, o, rfl, hb, hA⟩
    · subst h; exact absurd rfl h0
    · obtain ⟨xs, h1, h2, h3⟩ := els_of_rows rs hA
      rw [← h1, ← h2]
      refine rows_apart b o cap xs w (by omega) (by omega) hb h3 (fun x hx => ?_)
      have hm : trE x ∈ rs.map tr := by rw [← h2]; exact List.mem_map_of_mem hx
      obtain ⟨r, hr1, hr2⟩ := List.mem_map.1 hm
      rw [← hr2]
      obtain ⟨m, hm1, rfl⟩ := List.mem_iff_getElem.1 hr1
      have := hr m hm1
      unfold rowb at this
      simp only [Bool.and_eq_true] at this
      exact rwb_tmb this.1
set_option maxRecDepth 100000 in
set_option maxHeartbeats 4000000 in
theorem impl_RowsOk {N : Nat → Prop} (now : Int) (a : Option Addr) (cap : Nat) (rs : List Rw) (w : World) (hm : rs.length ≤ 1099511627776) (h : Rws N w a rs) : Calls Tryz.prog 114 #[.agg #[.int .i64 now, .slice a rs.length cap]] w fun e w' => e = .returned (.bool (rowsb now rs)) ∧ Below w.heap.size w w' := by
  have HAP := hid (fun (W : World) (hb : Below w.heap.size w W) (hl : rs.length ≤ 300) (hr : ∀ m (h : m < rs.length), rowb now rs[m] = true) => apart_rows now a cap rs W hl (h.below hb) hr)
  have HR := hid h
  clear h
  obtain ⟨n, hn⟩ : ∃ n, n = rs.length := ⟨_, rfl⟩
  have HN := hid hn.symm
  rw [← hn] at hm ⊢
  clear hn
  by_cases h0 : now < 0
  · rw [rowsb_now h0]
    go_enter Tryz.func114, Tryz.ntmps114
    go_wp2_with fail
    go_ret
    exact ⟨rfl, balloc (Below.refl _ _) _⟩
  by_cases hl : 300 < n
  · rw [rowsb_long (by rw [HN.out]; exact hl)]
    have hl' : (300 : Int) < (n : Int) := by omega
    go_enter Tryz.func114, Tryz.ntmps114
    go_wp2_with fail
    go_ret
    exact ⟨rfl, balloc (Below.refl _ _) _⟩
  have hl' : (n : Int) ≤ 300 := by omega
  have hld : decide ((300 : Int) < (n : Int)) = false := by rw [decide_eq_false_iff_not]; omega
  go_enter Tryz.func114, Tryz.ntmps114
  go_wp2_with fail
  have g1 := new_alloc w w.heap.size (.cells #[.int .i64 now, .slice a n cap] 36) rfl
  have hB := balloc (Below.refl w.heap.size w) (.cells #[.int .i64 now, .slice a n cap] 36)
  generalize w.alloc (.cells #[.int .i64 now, .slice a n cap] 36) = W at *
  clear hld
  go_loopw [17] (fun ti wr => ∃ i : Nat, ti = .int .i64 i ∧ i ≤ n ∧ Hid (∀ m (h : m < rs.length), m < i → rowb now rs[m] = true) ∧ Hid (wr.heap[w.heap.size]? = some (.cells #[.int .i64 now, .slice a n cap] 36 (0, 0))) ∧ Hid (Below w.heap.size w wr)) (fun ti _ => n - (intOf ti).toNat)
  case atStart => exact ⟨0, rfl, Nat.zero_le _, hid (fun m h hh => absurd hh (by omega)), hid g1, hid hB⟩
  case round =>
    clear g1 hB
    obtain ⟨i, rfl, hi, HA, G1, HBW⟩ := hrel
    obtain ⟨d0, d1, _, _⟩ := cell2f G1.out
    by_cases hlt : i < n
    · have c1 : (i : Int) < (n : Int) := by omega
      have hir : i < rs.length := by rw [HN.out]; exact hlt
      obtain ⟨b, o, rfl, hbs, a', cap', k0, k1, k2, k3, k4, k5, k6, k7, _⟩ := (HR.out.below HBW.out).at i hir
      have HRI := hid (fun (W : World) (hb : Below wr.heap.size wr W) => impl_right now rs[i] a' cap' W k6 k5 (k7.below hb))
      unfold rwv at HRI
      have HRF := hid (fun (hr : rowb now rs[i] = false) => rowsb_row (now := now) hir hr)
      clear k5 k6 k7
      have HROW : Hid (∀ rb, rowb now rs[i] = rb → rb = true → ∀ m (h : m < rs.length), m < i + 1 → rowb now rs[m] = true) := hid (fun rb e1 e2 m h hm => by
        by_cases e : m = i
        · subst e; rw [e1, e2]
        · exact HA.out m h (by omega))
      have hrow : ∃ rb, rowb now rs[i] = rb := ⟨_, rfl⟩
      obtain ⟨rb, hrb⟩ := hrow
      have HR2 := hid (HROW.out rb hrb)
      have HR3 : Hid (rb = false → rowsb now rs = false) := hid (fun e => HRF.out (by rw [hrb, e]))
      rw [hrb] at HRI
      clear hrb HROW HRF
      generalize rs[i].1 = id at *
      generalize rs[i].2.1 = fr at *
      generalize rs[i].2.2.1 = te at *
      generalize rs[i].2.2.2.1 = kd at *
      generalize rs[i].2.2.2.2.length = np at *
      go_upto_region 6 with fail
      have hBx : Below wr.heap.size wr (wr.alloc (.cells #[.int .i64 id, .int .i64 fr, .int .i64 te, .int .i64 kd, .slice a' np cap'] 129)) := balloc (Below.refl _ _) _
      have gx := new_alloc wr wr.heap.size (.cells #[.int .i64 id, .int .i64 fr, .int .i64 te, .int .i64 kd, .slice a' np cap'] 129) rfl
      have g1 := keepheap2 hBx G1.out
      have hB := btrans HBW.out hBx
      clear d0 d1 k0 k1 k2 k3 k4
      generalize wr.alloc (.cells #[.int .i64 id, .int .i64 fr, .int .i64 te, .int .i64 kd, .slice a' np cap'] 129) = W1 at *
      obtain ⟨⟨x0, x1, x2, x3, x4⟩, _⟩ := cell5g gx
      obtain ⟨d0, d1, _, _⟩ := cell2f g1
      cases rb
      · go_wp2_with fail
        refine (HRI.out _ hBx).mono ?_
        rintro e z ⟨rfl, hz⟩
        have HF := hid (HR3.out trivial)
        go_wp2_with fail
        go_ret
        exact ⟨by rw [HF.out]; rfl, btrans hB hz⟩
      · go_wp2_with fail
        refine (HRI.out _ hBx).mono ?_
        rintro e z ⟨rfl, hz⟩
        have HF := hid (HR2.out trivial)
        have G2 := hid (keepheap2 hz g1)
        have HB2 := hid (btrans hB hz)
        clear hz hB gx g1 x0 x1 x2 x3 x4 d0 d1
        go_wp2_with fail
        go_roundw
        case rel => exact ⟨i + 1, by go_num, by omega, HF, G2, HB2⟩
        case measure => simp [intOf]; omega
    · have hall : ∀ m (h : m < rs.length), rowb now rs[m] = true := fun m h => HA.out m h (by rw [HN.out] at h; omega)
      have HF := hid (show rowsb now rs = apartR (rs.map tr) by
        unfold rowsb
        have e1 : decide (0 ≤ now) = true := by simpa using (show 0 ≤ now by omega)
        have e2 : decide (rs.length ≤ 300) = true := by rw [HN.out]; simpa using (show n ≤ 300 by omega)
        have e3 : rs.all (rowb now) = true := by
          rw [List.all_eq_true]
          intro x hx
          obtain ⟨m, hm1, rfl⟩ := List.mem_iff_getElem.1 hx
          exact hall m hm1
        rw [e1, e2, e3]
        rfl)
      have hcc := HAP.out wr HBW.out (by rw [HN.out]; omega) hall
      rw [HN.out] at hcc
      have HC := hid hcc
      clear hcc
      have c1 : (n : Int) ≤ (i : Int) := by omega
      clear hall
      go_wp2_with fail
      refine HC.out.mono ?_
      rintro e z ⟨rfl, hz⟩
      go_wp2_with fail
      go_ret
      exact ⟨by rw [HF.out]; rfl, btrans HBW.out hz⟩
end Go.Proofs.YtehifednpbdokaaGreatDoor
namespace Go.Proofs.YtehifednpbdokaaGreatDoor
open Go.RowKit
set_option linter.unusedSimpArgs false
set_option linter.unusedVariables false
def chd : Ch := (0, false, 0, [])
def chb (x : Ch) : Bool := idb x.1 && (x.2.1 || shok x.2.2.1 x.2.2.2)
def asc (cs : List Ch) (i : Nat) : Bool := decide (i = 0) || decide ((cs.getD (i - 1) chd).1 < (cs.getD i chd).1)
def edi (cs : List Ch) (i : Nat) : Bool := chb (cs.getD i chd) && asc cs i
/-- Whether changes can stand in a store. -/
def edb (cs : List Ch) : Bool := (List.range cs.length).all (edi cs)
theorem edb_no {cs : List Ch} {i : Nat} (hi : i < cs.length) (h : edi cs i = false) : edb cs = false := by
  unfold edb
  rw [List.all_eq_false]
  exact ⟨i, List.mem_range.2 hi, by simp [h]⟩
theorem edb_yes {cs : List Ch} (h : ∀ i, i < cs.length → edi cs i = true) : edb cs = true := by
  unfold edb
  rw [List.all_eq_true]
  exact fun i hi => h i (List.mem_range.1 hi)
theorem getD_ch {cs : List Ch} {i : Nat} (h : i < cs.length) : cs.getD i chd = cs[i] := by
  rw [List.getD_eq_getElem?_getD, List.getElem?_eq_getElem h]; rfl
set_option maxRecDepth 100000 in
set_option maxHeartbeats 4000000 in
theorem impl_edits {N : Nat → Prop} (a : Option Addr) (cap : Nat) (cs : List Ch) (w : World) (hm : cs.length ≤ 1099511627776) (h : Chs N 1099511627776 w a cs) : Calls Tryz.prog 142 #[.slice a cs.length cap] w fun e w' => e = .returned (.bool (edb cs)) ∧ Below w.heap.size w w' := by
  have HR := hid h
  clear h
  have HNO : Hid (∀ i, i < cs.length → edi cs i = false → edb cs = false) := hid (fun i hi h => edb_no hi h)
  have HYE : Hid ((∀ i, i < cs.length → edi cs i = true) → edb cs = true) := hid edb_yes
  generalize edb cs = eb at *
  obtain ⟨n, hn⟩ : ∃ n, n = cs.length := ⟨_, rfl⟩
  have HN := hid hn.symm
  rw [← hn] at hm ⊢
  clear hn
  go_enter Tryz.func142, Tryz.ntmps142
  go_wp2_with fail
  go_loopw [8] (fun ti wr => ∃ i : Nat, ti = .int .i64 i ∧ i ≤ n ∧ Hid (∀ m, m < i → edi cs m = true) ∧ Hid (Below w.heap.size w wr)) (fun ti _ => n - (intOf ti).toNat)
  case atStart => exact ⟨0, rfl, Nat.zero_le _, hid (fun m hh => absurd hh (by omega)), hid (Below.refl _ _)⟩
  case round =>
    obtain ⟨i, rfl, hi, HA, HBW⟩ := hrel
    by_cases hlt : i < n
    · have c1 : (i : Int) < (n : Int) := by omega
      have hir : i < cs.length := by rw [HN.out]; exact hlt
      obtain ⟨b, o, rfl, hbs, hall⟩ : ∃ b o, a = some ⟨b, o, none⟩ ∧ b < wr.heap.size ∧ ChsAt N 1099511627776 wr b o cs := by
        rcases HR.out.below HBW.out with h | h
        · rw [h] at hir; simp at hir
        · exact h
      obtain ⟨a', cap', k0, k1, k2, q1, q2, q3, q4, _⟩ := hall i hir
      have HALL : Hid (∀ k, k + 1 = i → wr.cell? ⟨b, o + k * 4, none⟩ = some (.int .i64 (cs.getD k chd).1)) := hid (fun k hk => by
        have hkr : k < cs.length := by omega
        obtain ⟨_, _, z0, _⟩ := hall k hkr
        rw [getD_ch hkr]; exact z0)
      have HSO := hid (fun (W : World) (hb : Below wr.heap.size wr W) => impl_ShapeOk cs[i].2.2.1 a' cap' cs[i].2.2.2 W q3 q2 (q4.below hb))
      unfold shv at HSO
      have HE : Hid (edi cs i = ((idb cs[i].1 && (cs[i].2.1 || shok cs[i].2.2.1 cs[i].2.2.2)) && asc cs i)) := hid (by unfold edi chb; rw [getD_ch hir])
      have HAS : Hid (asc cs i = (decide (i = 0) || decide ((cs.getD (i - 1) chd).1 < cs[i].1))) := hid (by unfold asc; rw [getD_ch hir])
      have HNOI := hid (HNO.out i hir)
      have HNEXT : Hid (edi cs i = true → ∀ m, m < i + 1 → edi cs m = true) := hid (fun e1 m hm => by
        by_cases e : m = i
        · subst e; exact e1
        · exact HA.out m (by omega))
      have HIDc := hid (fun w => impl_id cs[i].1 w)
      clear q2 q3 q4 hall
      generalize edi cs i = ei at HE HNOI HNEXT
      generalize asc cs i = ab at HE HAS
      generalize cs[i].1 = id at *
      generalize cs[i].2.1 = go at *
      generalize cs[i].2.2.1 = kd at *
      generalize cs[i].2.2.2 = ps at *
      go_upto_region 4 with fail
      have hBx : Below wr.heap.size wr (wr.alloc (.cells #[.int .i64 id, .bool go, .int .i64 kd, .slice a' ps.length cap'] 87)) := balloc (Below.refl _ _) _
      have gx := new_alloc wr wr.heap.size (.cells #[.int .i64 id, .bool go, .int .i64 kd, .slice a' ps.length cap'] 87) rfl
      have HBX := hid hBx
      have HB1 := hid (btrans HBW.out hBx)
      have HP1 : Hid (∀ k, k + 1 = i → (wr.alloc (.cells #[.int .i64 id, .bool go, .int .i64 kd, .slice a' ps.length cap'] 87)).cell? ⟨b, o + k * 4, none⟩ = some (.int .i64 (cs.getD k chd).1)) := hid (fun k hk => keepalloc (HALL.out k hk) _)
      clear hBx k0 k1 k2 q1 HALL
      generalize wr.alloc (.cells #[.int .i64 id, .bool go, .int .i64 kd, .slice a' ps.length cap'] 87) = W1 at *
      obtain ⟨X, hX⟩ : ∃ X, X = wr.heap.size := ⟨_, rfl⟩
      have HXE := hid hX
      rw [← hX] at gx ⊢
      clear hX
      obtain ⟨⟨x0, x1, x2, x3⟩, _⟩ := cellk4 gx
      go_cut [5] (fun t5 wx => t5 = .bool ab ∧ Hid (Below W1.heap.size W1 wx))
      case first =>
        rcases Nat.eq_zero_or_pos i with hz | hp
        · have HAB : Hid (ab = true) := hid (by rw [HAS.out, hz]; rfl)
          clear HAS
          subst hz
          refine wp_region_held_drew (S := (fun w' => w'.cell? ⟨X, 0, none⟩ = some (.int .i64 id))) (by kernel_rfl) ?_ (fun hHeld => ?_)
          · (repeat' apply And.intro) <;> (repeat (first | with_reducible assumption | with_reducible refine keepdrew ?_ | with_reducible refine keepcell (by with_reducible assumption) ?_ | with_reducible refine keepalloc ?_ _))
          refine wpAnyH_take (i := 0) (v := ?_) rfl (by kernel_rfl) (by kernel_rfl) (by kernel_rfl) (fun _ _ _ h => h) (Or.inl ⟨by rfl, ?_⟩) hHeld ?_
          rotate_left
          · intro w hSw; (try dsimp only at hSw); go_simp; try (with_reducible rfl)
          try simp only [sq]
          refine wpAnyH_take (i := 1) (v := ?_) rfl (by kernel_rfl) (by kernel_rfl) (by kernel_rfl) (fun _ _ _ h => h) (Or.inl ⟨by rfl, ?_⟩) hHeld ?_
          rotate_left
          · intro w hSw; (try dsimp only at hSw); go_simp; try (with_reducible rfl)
          try simp only [sq]
          refine wpAnyH_take (i := 2) (v := ?_) rfl (by kernel_rfl) (by kernel_rfl) (by kernel_rfl) (fun _ _ _ h => h) (Or.inl ⟨by rfl, ?_⟩) hHeld ?_
          rotate_left
          · intro w hSw; (try dsimp only at hSw); go_simp; try (with_reducible rfl)
          try simp only [sq]
          refine wpAnyH_take (i := 3) (v := undef) rfl (by kernel_rfl) (by kernel_rfl) (by kernel_rfl) (fun _ _ _ h => h) (Or.inr ⟨by rfl, rfl⟩) hHeld ?_
          try simp only [sq]
          refine wpAnyH_take (i := 4) (v := undef) rfl (by kernel_rfl) (by kernel_rfl) (by kernel_rfl) (fun _ _ _ h => h) (Or.inr ⟨by rfl, rfl⟩) hHeld ?_
          try simp only [sq]
          refine wpAnyH_take (i := 5) (v := undef) rfl (by kernel_rfl) (by kernel_rfl) (by kernel_rfl) (fun _ _ _ h => h) (Or.inr ⟨by rfl, rfl⟩) hHeld ?_
          try simp only [sq]
          refine wpAnyH_take (i := 6) (v := undef) rfl (by kernel_rfl) (by kernel_rfl) (by kernel_rfl) (fun _ _ _ h => h) (Or.inr ⟨by rfl, rfl⟩) hHeld ?_
          try simp only [sq]
          refine wpAnyH_take (i := 7) (v := undef) rfl (by kernel_rfl) (by kernel_rfl) (by kernel_rfl) (fun _ _ _ h => h) (Or.inr ⟨by rfl, rfl⟩) hHeld ?_
          try simp only [sq]
          refine wpAnyH_take (i := 8) (v := undef) rfl (by kernel_rfl) (by kernel_rfl) (by kernel_rfl) (fun _ _ _ h => h) (Or.inr ⟨by rfl, rfl⟩) hHeld ?_
          try simp only [sq]
          refine wpAnyH_take (i := 9) (v := undef) rfl (by kernel_rfl) (by kernel_rfl) (by kernel_rfl) (fun _ _ _ h => h) (Or.inr ⟨by rfl, rfl⟩) hHeld ?_
          try simp only [sq]
          refine wpAnyH_take (i := 10) (v := undef) rfl (by kernel_rfl) (by kernel_rfl) (by kernel_rfl) (fun _ _ _ h => h) (Or.inr ⟨by rfl, rfl⟩) hHeld ?_
          try simp only [sq]
          refine wpAnyH_take (i := 11) (v := undef) rfl (by kernel_rfl) (by kernel_rfl) (by kernel_rfl) (fun _ _ _ h => h) (Or.inr ⟨by rfl, rfl⟩) hHeld ?_
          try simp only [sq]
          refine wpAnyH_take (i := 12) (v := ?_) rfl (by kernel_rfl) (by kernel_rfl) (by kernel_rfl) (fun _ _ _ h => h) (Or.inl ⟨by rfl, ?_⟩) hHeld ?_
          rotate_left
          · intro w hSw; (try dsimp only at hSw); go_simp; try (with_reducible rfl)
          try simp only [sq]
          refine wpAnyH_take (i := 13) (v := ?_) rfl (by kernel_rfl) (by kernel_rfl) (by kernel_rfl) (fun _ _ _ h => h) (Or.inl ⟨by rfl, ?_⟩) hHeld ?_
          rotate_left
          · intro w hSw; (try dsimp only at hSw); go_simp; try (with_reducible rfl)
          try simp only [sq]
          refine wpAnyH_done (by kernel_rfl) ?_ _
          go_wp2_with fail
          go_meet
          exact ⟨by rw [HAB.out], hid (by show Below _ _ _; (repeat (first | with_reducible exact Below.refl _ _ | with_reducible refine bdrew ?_)))⟩
        · obtain ⟨k, rfl⟩ : ∃ k, i = k + 1 := ⟨i - 1, by omega⟩
          have y0 := HP1.out k rfl
          have hk1 : ¬ (k + 1 = 0) := by omega
          simp only [Nat.add_sub_cancel] at HAS
          generalize (cs.getD k chd).1 = pid at y0 HAS
          have HAB : Hid (ab = decide (pid < id)) := hid (by rw [HAS.out]; simp)
          clear HAS
          have hz1 : ((((k + 1 : Nat) : Int)) == 0) = false := by simp; omega
          have hw1 : IntKind.i64.wrap (((k + 1 : Nat) : Int) - 1) = (k : Int) := by rw [IntKind.wrap_i64]; omega
          have hw2 : IntKind.i64.wrap (k : Int) = (k : Int) := by rw [IntKind.wrap_i64]; omega
          have hk0 : (0 : Int) ≤ (k : Int) := by omega
          have hkn : (k : Int) < (n : Int) := by omega
          refine wp_region_held_drew (S := (fun w' => w'.cell? ⟨X, 0, none⟩ = some (.int .i64 id) ∧ w'.cell? ⟨b, o + k * 4, none⟩ = some (.int .i64 pid))) (by kernel_rfl) ?_ (fun hHeld => ?_)
          · (repeat' apply And.intro) <;> (repeat (first | with_reducible assumption | with_reducible refine keepdrew ?_ | with_reducible refine keepcell (by with_reducible assumption) ?_ | with_reducible refine keepalloc ?_ _))
          refine wpAnyH_take (i := 0) (v := ?_) rfl (by kernel_rfl) (by kernel_rfl) (by kernel_rfl) (fun _ _ _ h => h) (Or.inl ⟨by rfl, ?_⟩) hHeld ?_
          rotate_left
          · intro w hSw; (try dsimp only at hSw); go_simp; try (with_reducible rfl)
          try simp only [sq]
          refine wpAnyH_take (i := 1) (v := ?_) rfl (by kernel_rfl) (by kernel_rfl) (by kernel_rfl) (fun _ _ _ h => h) (Or.inl ⟨by rfl, ?_⟩) hHeld ?_
          rotate_left
          · intro w hSw; (try dsimp only at hSw); go_simp; try (with_reducible rfl)
          try simp only [sq]
          refine wpAnyH_take (i := 2) (v := ?_) rfl (by kernel_rfl) (by kernel_rfl) (by kernel_rfl) (fun _ _ _ h => h) (Or.inl ⟨by rfl, ?_⟩) hHeld ?_
          rotate_left
          · intro w hSw; (try dsimp only at hSw); go_simp; try (with_reducible rfl)
          try simp only [sq]
          refine wpAnyH_take (i := 3) (v := ?_) rfl (by kernel_rfl) (by kernel_rfl) (by kernel_rfl) (fun _ _ _ h => h) (Or.inl ⟨by rfl, ?_⟩) hHeld ?_
          rotate_left
          · intro w hSw; (try dsimp only at hSw); go_simp; try (with_reducible rfl)
          try simp only [sq]
          refine wpAnyH_take (i := 4) (v := ?_) rfl (by kernel_rfl) (by kernel_rfl) (by kernel_rfl) (fun _ _ _ h => h) (Or.inl ⟨by rfl, ?_⟩) hHeld ?_
          rotate_left
          · intro w hSw; (try dsimp only at hSw); go_simp; try (with_reducible rfl)
          try simp only [sq]
          refine wpAnyH_take (i := 5) (v := ?_) rfl (by kernel_rfl) (by kernel_rfl) (by kernel_rfl) (fun _ _ _ h => h) (Or.inl ⟨by rfl, ?_⟩) hHeld ?_
          rotate_left
          · intro w hSw; (try dsimp only at hSw); go_simp; try (with_reducible rfl)
          try simp only [sq]
          refine wpAnyH_take (i := 6) (v := ?_) rfl (by kernel_rfl) (by kernel_rfl) (by kernel_rfl) (fun _ _ _ h => h) (Or.inl ⟨by rfl, ?_⟩) hHeld ?_
          rotate_left
          · intro w hSw; (try dsimp only at hSw); go_simp; try (with_reducible rfl)
          try simp only [sq]
          refine wpAnyH_take (i := 7) (v := ?_) rfl (by kernel_rfl) (by kernel_rfl) (by kernel_rfl) (fun _ _ _ h => h) (Or.inl ⟨by rfl, ?_⟩) hHeld ?_
          rotate_left
          · intro w hSw; (try dsimp only at hSw); go_simp; try (with_reducible rfl)
          try simp only [sq]
          refine wpAnyH_take (i := 8) (v := ?_) rfl (by kernel_rfl) (by kernel_rfl) (by kernel_rfl) (fun _ _ _ h => h) (Or.inl ⟨by rfl, ?_⟩) hHeld ?_
          rotate_left
          · intro w hSw; (try dsimp only at hSw); go_simp; try (with_reducible rfl)
          try simp only [sq]
          refine wpAnyH_take (i := 9) (v := ?_) rfl (by kernel_rfl) (by kernel_rfl) (by kernel_rfl) (fun _ _ _ h => h) (Or.inl ⟨by rfl, ?_⟩) hHeld ?_
          rotate_left
          · intro w hSw; (try dsimp only at hSw); go_simp; try (with_reducible rfl)
          try simp only [sq]
          refine wpAnyH_take (i := 10) (v := ?_) rfl (by kernel_rfl) (by kernel_rfl) (by kernel_rfl) (fun _ _ _ h => h) (Or.inl ⟨by rfl, ?_⟩) hHeld ?_
          rotate_left
          · intro w hSw; (try dsimp only at hSw); go_simp; try (with_reducible rfl)
          try simp only [sq]
          refine wpAnyH_take (i := 11) (v := ?_) rfl (by kernel_rfl) (by kernel_rfl) (by kernel_rfl) (fun _ _ _ h => h) (Or.inl ⟨by rfl, ?_⟩) hHeld ?_
          rotate_left
          · intro w hSw; (try dsimp only at hSw); go_simp; try (with_reducible rfl)
          try simp only [sq]
          refine wpAnyH_take (i := 12) (v := ?_) rfl (by kernel_rfl) (by kernel_rfl) (by kernel_rfl) (fun _ _ _ h => h) (Or.inl ⟨by rfl, ?_⟩) hHeld ?_
          rotate_left
          · intro w hSw; (try dsimp only at hSw); go_simp; try (with_reducible rfl)
          try simp only [sq]
          refine wpAnyH_take (i := 13) (v := ?_) rfl (by kernel_rfl) (by kernel_rfl) (by kernel_rfl) (fun _ _ _ h => h) (Or.inl ⟨by rfl, ?_⟩) hHeld ?_
          rotate_left
          · intro w hSw; (try dsimp only at hSw); go_simp; try (with_reducible rfl)
          try simp only [sq]
          refine wpAnyH_done (by kernel_rfl) ?_ _
          go_wp2_with fail
          go_meet
          exact ⟨by rw [HAB.out, show ((k : Int) + 1 == 0) = false from by (simp; omega)]; rfl, hid (by show Below _ _ _; (repeat (first | with_reducible exact Below.refl _ _ | with_reducible refine bdrew ?_)))⟩
      case rest =>
        obtain ⟨rfl, HBc⟩ := hcut
        replace gx := keepheap2 HBc.out gx
        have HBW2 := hid (btrans HB1.out HBc.out)
        have HBS : Hid (Below wr.heap.size wr wc) := hid (btrans HBX.out HBc.out)
        clear x0 x1 x2 x3
        obtain ⟨⟨x0, x1, x2, x3⟩, _⟩ := cellk4 gx
        clear gx
        generalize idb id = ib at *
        generalize shok kd ps = sb at *
        cases ab
        · have HF := hid (HNOI.out (by rw [HE.out]; simp))
          go_wp2_with fail
          go_ret
          exact ⟨by rw [HF.out]; rfl, HBW2.out⟩
        cases ib
        · have HF := hid (HNOI.out (by rw [HE.out]; simp))
          go_wp2_with fail
          refine (HIDc.out _).mono ?_
          rintro e z ⟨rfl, hw⟩
          replace hw := hw.symm
          subst hw
          go_wp2_with fail
          go_ret
          exact ⟨by rw [HF.out]; rfl, HBW2.out⟩
        cases go
        rotate_left
        · have HF := hid (HNEXT.out (by rw [HE.out]; simp))
          go_wp2_with fail
          refine (HIDc.out _).mono ?_
          rintro e z ⟨rfl, hw⟩
          replace hw := hw.symm
          subst hw
          go_wp2_with fail
          go_roundw
          case rel => exact ⟨i + 1, by go_num, by omega, HF, HBW2⟩
          case measure => simp [intOf]; omega
        cases sb
        · have HF := hid (HNOI.out (by rw [HE.out]; simp))
          go_wp2_with fail
          refine (HIDc.out _).mono ?_
          rintro e z ⟨rfl, hw⟩
          replace hw := hw.symm
          subst hw
          go_wp2_with fail
          refine (HSO.out _ HBS.out).mono ?_
          rintro e z2 ⟨rfl, hz2⟩
          have HB3 := hid (btrans HBW2.out hz2)
          go_wp2_with fail
          go_ret
          exact ⟨by rw [HF.out]; rfl, HB3.out⟩
        · have HF := hid (HNEXT.out (by rw [HE.out]; simp))
          go_wp2_with fail
          refine (HIDc.out _).mono ?_
          rintro e z ⟨rfl, hw⟩
          replace hw := hw.symm
          subst hw
          go_wp2_with fail
          refine (HSO.out _ HBS.out).mono ?_
          rintro e z2 ⟨rfl, hz2⟩
          have HB3 := hid (btrans HBW2.out hz2)
          clear hz2
          go_wp2_with fail
          go_roundw
          case rel => exact ⟨i + 1, by go_num, by omega, HF, HB3⟩
          case measure => simp [intOf]; omega
    · have c1 : (n : Int) ≤ (i : Int) := by omega
      have HF := hid (HYE.out (fun m hm => HA.out m (by have := HN.out; omega)))
      go_wp2_with fail
      go_ret
      exact ⟨by rw [HF.out]; rfl, HBW.out⟩
/-- Whether a transaction can stand in a store. -/
def txb (now : Int) (x : Tx) : Bool := ((decide (0 ≤ x.1) && decide (x.1 ≤ now)) && (x.2.1 || decide (x.2.2.length = 0))) && edb x.2.2
set_option maxRecDepth 100000 in
set_option maxHeartbeats 2000000 in
theorem impl_txRight {N : Nat → Prop} (now : Int) (x : Tx) (a : Option Addr) (cap : Nat) (w : World) (hm : x.2.2.length ≤ 1099511627776) (h : Chs N 1099511627776 w a x.2.2) : Calls Tryz.prog 115 #[txv x a cap, .int .i64 now] w fun e w' => e = .returned (.bool (txb now x)) ∧ Below w.heap.size w w' := by
  obtain ⟨st, op, cs⟩ := x
  unfold txv
  simp only at *
  have HE := hid (fun (W : World) (hb : Below w.heap.size w W) => impl_edits a cap cs W hm (h.below hb))
  have HT : Hid (txb now (st, op, cs) = (((decide (0 ≤ st) && decide (st ≤ now)) && (op || decide (cs.length = 0))) && edb cs)) := hid rfl
  clear h
  generalize txb now (st, op, cs) = tb at *
  generalize edb cs = eb at *
  generalize cs.length = n at *
  have hB : Below w.heap.size w (w.alloc (.cells #[.int .i64 st, .bool op, .slice a n cap] 84)) := balloc (Below.refl _ _) _
  by_cases h1 : 0 ≤ st
  rotate_left
  · have hf : tb = false := by rw [HT.out]; simp [h1]
    subst hf
    have h1' : st < 0 := by omega
    go_enter Tryz.func115, Tryz.ntmps115
    go_wp2_with fail
    go_ret
    exact ⟨rfl, hB⟩
  by_cases h2 : st ≤ now
  rotate_left
  · have hf : tb = false := by rw [HT.out]; simp [h2]
    subst hf
    have h2' : now < st := by omega
    go_enter Tryz.func115, Tryz.ntmps115
    go_wp2_with fail
    go_ret
    exact ⟨rfl, hB⟩
  cases op
  · by_cases h3 : n = 0
    · have hf : tb = eb := by rw [HT.out]; simp [h1, h2, h3]
      subst hf
      clear HT
      subst h3
      go_enter Tryz.func115, Tryz.ntmps115
      go_wp2_with fail
      refine (HE.out _ hB).mono ?_
      rintro e z ⟨rfl, hz⟩
      have HZ := hid (btrans hB hz)
      clear hz
      go_wp2_with fail
      go_ret
      exact ⟨rfl, HZ.out⟩
    · have hf : tb = false := by rw [HT.out]; simp [h3]
      subst hf
      have h3' : ((n : Int) == 0) = false := by simp; omega
      clear h3
      go_enter Tryz.func115, Tryz.ntmps115
      go_wp2_with fail
      go_ret
      exact ⟨rfl, hB⟩
  · have hf : tb = eb := by rw [HT.out]; simp [h1, h2]
    subst hf
    clear HT
    go_enter Tryz.func115, Tryz.ntmps115
    go_wp2_with fail
    refine (HE.out _ hB).mono ?_
    rintro e z ⟨rfl, hz⟩
    have HZ := hid (btrans hB hz)
    clear hz
    go_wp2_with fail
    go_ret
    exact ⟨rfl, HZ.out⟩
end Go.Proofs.YtehifednpbdokaaGreatDoor
namespace Go.Proofs.YtehifednpbdokaaGreatDoor
open Go.RowKit
set_option linter.unusedSimpArgs false
set_option linter.unusedVariables false
set_option maxRecDepth 100000 in
set_option maxHeartbeats 4000000 in
theorem spec_tx {N : Nat → Prop} (now : Int) (x : Tx) (a : Option Addr) (cap : Nat) (w : World) (hm : x.2.2.length ≤ 1099511627776) (h : Chs N 1099511627776 w a x.2.2) : Calls Tryz.prog 110 #[txv x a cap, .int .i64 now] w fun e w' => e = .returned (.bool (txb now x)) ∧ Below w.heap.size w w' := by
  obtain ⟨st, op, cs⟩ := x
  unfold txv
  simp only at *
  have HT : Hid (txb now (st, op, cs) = (((decide (0 ≤ st) && decide (st ≤ now)) && (op || decide (cs.length = 0))) && edb cs)) := hid rfl
  have HR := hid h
  clear h
  have HNO : Hid (∀ i, i < cs.length → edi cs i = false → edb cs = false) := hid (fun i hi h => edb_no hi h)
  have HYE : Hid ((∀ i, i < cs.length → edi cs i = true) → edb cs = true) := hid edb_yes
  have HIN := hid (fun w => in_r st 0 now w)
  generalize txb now (st, op, cs) = tb at *
  generalize edb cs = eb at *
  obtain ⟨n, hn⟩ : ∃ n, n = cs.length := ⟨_, rfl⟩
  have HN := hid hn.symm
  rw [← hn] at hm HT ⊢
  clear hn
  have hB0 : Below w.heap.size w (w.alloc (.cells #[.int .i64 st, .bool op, .slice a n cap] 84)) := balloc (Below.refl _ _) _
  have g0 := new_alloc w w.heap.size (.cells #[.int .i64 st, .bool op, .slice a n cap] 84) rfl
  go_enter Tryz.func110, Tryz.ntmps110
  go_upto_region 1 with fail
  generalize w.alloc (.cells #[.int .i64 st, .bool op, .slice a n cap] 84) = W0 at *
  go_wp2_with fail
  go_loopw [5] (fun ti wr => ∃ i : Nat, ti = .int .i64 i ∧ i ≤ n ∧ Hid (∀ m, m < i → edi cs m = true) ∧ Hid (wr.heap[w.heap.size]? = some (.cells #[.int .i64 st, .bool op, .slice a n cap] 84 (0, 0))) ∧ Hid (Below w.heap.size w wr)) (fun ti _ => n - (intOf ti).toNat)
  case atStart => exact ⟨0, rfl, Nat.zero_le _, hid (fun m hh => absurd hh (by omega)), hid g0, hid hB0⟩
  case round =>
    clear g0 hB0
    obtain ⟨i, rfl, hi, HA, G0, HBW⟩ := hrel
    obtain ⟨⟨d0, d1, d2⟩, _⟩ := cellk3 G0.out
    by_cases hlt : i < n
    · have c1 : (i : Int) < (n : Int) := by omega
      have hir : i < cs.length := by rw [HN.out]; exact hlt
      obtain ⟨b, o, rfl, hbs, hall⟩ : ∃ b o, a = some ⟨b, o, none⟩ ∧ b < wr.heap.size ∧ ChsAt N 1099511627776 wr b o cs := by
        rcases HR.out.below HBW.out with h | h
        · rw [h] at hir; simp at hir
        · exact h
      obtain ⟨a', cap', k0, k1, k2, q1, q2, q3, q4, _⟩ := hall i hir
      have HALL : Hid (∀ k, k + 1 = i → wr.cell? ⟨b, o + k * 4, none⟩ = some (.int .i64 (cs.getD k chd).1)) := hid (fun k hk => by
        have hkr : k < cs.length := by omega
        obtain ⟨_, _, z0, _⟩ := hall k hkr
        rw [getD_ch hkr]; exact z0)
      have HSO := hid (fun (W : World) (hb : Below wr.heap.size wr W) => spec_ShapeOk cs[i].2.2.1 a' cap' cs[i].2.2.2 W q3 q2 (q4.below hb))
      unfold shv at HSO
      have HE : Hid (edi cs i = ((idb cs[i].1 && (cs[i].2.1 || shok cs[i].2.2.1 cs[i].2.2.2)) && asc cs i)) := hid (by unfold edi chb; rw [getD_ch hir])
      have HAS : Hid (asc cs i = (decide (i = 0) || decide ((cs.getD (i - 1) chd).1 < cs[i].1))) := hid (by unfold asc; rw [getD_ch hir])
      have HNOI := hid (HNO.out i hir)
      have HNEXT : Hid (edi cs i = true → ∀ m, m < i + 1 → edi cs m = true) := hid (fun e1 m hm => by
        by_cases e : m = i
        · subst e; exact e1
        · exact HA.out m (by omega))
      have HIDc := hid (fun w => spec_id cs[i].1 w)
      clear q2 q3 q4 hall
      generalize edi cs i = ei at HE HNOI HNEXT
      generalize asc cs i = ab at HE HAS
      generalize cs[i].1 = id at *
      generalize cs[i].2.1 = go at *
      generalize cs[i].2.2.1 = kd at *
      generalize cs[i].2.2.2 = ps at *
      go_upto_region 5 with fail
      have hBx : Below wr.heap.size wr (wr.alloc (.cells #[.int .i64 id, .bool go, .int .i64 kd, .slice a' ps.length cap'] 87)) := balloc (Below.refl _ _) _
      have gx := new_alloc wr wr.heap.size (.cells #[.int .i64 id, .bool go, .int .i64 kd, .slice a' ps.length cap'] 87) rfl
      have g0 := keepheap2 hBx G0.out
      have HBX := hid hBx
      have HB1 := hid (btrans HBW.out hBx)
      have HP1 : Hid (∀ k, k + 1 = i → (wr.alloc (.cells #[.int .i64 id, .bool go, .int .i64 kd, .slice a' ps.length cap'] 87)).cell? ⟨b, o + k * 4, none⟩ = some (.int .i64 (cs.getD k chd).1)) := hid (fun k hk => keepalloc (HALL.out k hk) _)
      clear hBx k0 k1 k2 q1 HALL d0 d1 d2
      generalize wr.alloc (.cells #[.int .i64 id, .bool go, .int .i64 kd, .slice a' ps.length cap'] 87) = W1 at *
      obtain ⟨X, hX⟩ : ∃ X, X = wr.heap.size := ⟨_, rfl⟩
      have HXE := hid hX
      rw [← hX] at gx ⊢
      clear hX
      obtain ⟨⟨x0, x1, x2, x3⟩, _⟩ := cellk4 gx
      obtain ⟨⟨d0, d1, d2⟩, _⟩ := cellk3 g0
      have HG0 := hid g0
      go_cut [49] from 19 to 49 (fun t wx => t = .bool (!ei) ∧ Hid (Below W1.heap.size W1 wx))
      case first =>
        generalize idb id = ib at *
        generalize shok kd ps = sb at *
        cases ib
        · have HEI : Hid (ei = false) := hid (by rw [HE.out]; simp)
          refine wp_region_held_drew (S := (fun w' => w'.cell? ⟨X, 0, none⟩ = some (.int .i64 id) ∧ w'.cell? ⟨X, 1, none⟩ = some (.bool go) ∧ w'.cell? ⟨X, 2, none⟩ = some (.int .i64 kd) ∧ w'.cell? ⟨X, 3, none⟩ = some (.slice a' ps.length cap') ∧ w'.cell? ⟨w.heap.size, 2, none⟩ = some (.slice (some ⟨b, o, none⟩) n cap))) (by kernel_rfl) ?_ (fun hHeld => ?_)
          · (repeat' apply And.intro) <;> (repeat (first | with_reducible assumption | with_reducible refine keepdrew ?_ | with_reducible refine keepcell (by with_reducible assumption) ?_ | with_reducible refine keepalloc ?_ _))
          refine wpAnyH_take (i := 0) (v := ?_) rfl (by kernel_rfl) (by kernel_rfl) (by kernel_rfl) (fun _ _ _ h => h) (Or.inl ⟨by rfl, ?_⟩) hHeld ?_
          rotate_left
          · intro w hSw; (try dsimp only at hSw); go_simp; try (with_reducible rfl)
          try simp only [sq]
          refine wpAnyH_take (i := 1) (v := ?_) rfl (by kernel_rfl) (by kernel_rfl) (by kernel_rfl) (fun _ _ _ h => h) (Or.inl ⟨by rfl, ?_⟩) hHeld ?_
          rotate_left
          · intro w hSw; (try dsimp only at hSw); go_simp; try (with_reducible rfl)
          try simp only [sq]
          refine wpAnyH_ready (rs := [2]) (by kernel_rfl) (by simp) ?_
          refine AllReadyH.cons rfl (fun K hK => ?_) AllReadyH.nil
          try simp only [sq]
          go_simp
          (first
              | (go_at_call 53; refine (HIDc.out _).mono ?_; rintro e z ⟨rfl, hw⟩; replace hw := hw.symm; subst hw))
          go_wp2_with fail
          refine hK.out _ _ ?_ (fun hHeld => ?_)
          · (repeat' apply And.intro) <;> (repeat (first | with_reducible assumption | with_reducible refine keepdrew ?_ | with_reducible refine keepcell (by with_reducible assumption) ?_ | with_reducible refine keepalloc ?_ _))
          clear hK K
          try simp only [sq]
          refine wpAnyH_take (i := 3) (v := ?_) rfl (by kernel_rfl) (by kernel_rfl) (by kernel_rfl) (fun _ _ _ h => h) (Or.inl ⟨by rfl, ?_⟩) hHeld ?_
          rotate_left
          · intro w hSw; (try dsimp only at hSw); go_simp; try (with_reducible rfl)
          try simp only [sq]
          refine wpAnyH_take (i := 4) (v := ?_) rfl (by kernel_rfl) (by kernel_rfl) (by kernel_rfl) (fun _ _ _ h => h) (Or.inl ⟨by rfl, ?_⟩) hHeld ?_
          rotate_left
          · intro w hSw; (try dsimp only at hSw); go_simp; try (with_reducible rfl)
          try simp only [sq]
          refine wpAnyH_take (i := 5) (v := undef) rfl (by kernel_rfl) (by kernel_rfl) (by kernel_rfl) (fun _ _ _ h => h) (Or.inr ⟨by rfl, rfl⟩) hHeld ?_
          try simp only [sq]
          refine wpAnyH_take (i := 6) (v := undef) rfl (by kernel_rfl) (by kernel_rfl) (by kernel_rfl) (fun _ _ _ h => h) (Or.inr ⟨by rfl, rfl⟩) hHeld ?_
          try simp only [sq]
          refine wpAnyH_take (i := 7) (v := undef) rfl (by kernel_rfl) (by kernel_rfl) (by kernel_rfl) (fun _ _ _ h => h) (Or.inr ⟨by rfl, rfl⟩) hHeld ?_
          try simp only [sq]
          refine wpAnyH_take (i := 8) (v := undef) rfl (by kernel_rfl) (by kernel_rfl) (by kernel_rfl) (fun _ _ _ h => h) (Or.inr ⟨by rfl, rfl⟩) hHeld ?_
          try simp only [sq]
          refine wpAnyH_take (i := 9) (v := undef) rfl (by kernel_rfl) (by kernel_rfl) (by kernel_rfl) (fun _ _ _ h => h) (Or.inr ⟨by rfl, rfl⟩) hHeld ?_
          try simp only [sq]
          refine wpAnyH_take (i := 10) (v := undef) rfl (by kernel_rfl) (by kernel_rfl) (by kernel_rfl) (fun _ _ _ h => h) (Or.inr ⟨by rfl, rfl⟩) hHeld ?_
          try simp only [sq]
          refine wpAnyH_take (i := 11) (v := undef) rfl (by kernel_rfl) (by kernel_rfl) (by kernel_rfl) (fun _ _ _ h => h) (Or.inr ⟨by rfl, rfl⟩) hHeld ?_
          try simp only [sq]
          refine wpAnyH_take (i := 12) (v := undef) rfl (by kernel_rfl) (by kernel_rfl) (by kernel_rfl) (fun _ _ _ h => h) (Or.inr ⟨by rfl, rfl⟩) hHeld ?_
          try simp only [sq]
          refine wpAnyH_take (i := 13) (v := undef) rfl (by kernel_rfl) (by kernel_rfl) (by kernel_rfl) (fun _ _ _ h => h) (Or.inr ⟨by rfl, rfl⟩) hHeld ?_
          try simp only [sq]
          refine wpAnyH_take (i := 14) (v := ?_) rfl (by kernel_rfl) (by kernel_rfl) (by kernel_rfl) (fun _ _ _ h => h) (Or.inl ⟨by rfl, ?_⟩) hHeld ?_
          rotate_left
          · intro w hSw; (try dsimp only at hSw); go_simp; try (with_reducible rfl)
          try simp only [sq]
          refine wpAnyH_take (i := 15) (v := ?_) rfl (by kernel_rfl) (by kernel_rfl) (by kernel_rfl) (fun _ _ _ h => h) (Or.inl ⟨by rfl, ?_⟩) hHeld ?_
          rotate_left
          · intro w hSw; (try dsimp only at hSw); go_simp; try (with_reducible rfl)
          try simp only [sq]
          refine wpAnyH_take (i := 16) (v := undef) rfl (by kernel_rfl) (by kernel_rfl) (by kernel_rfl) (fun _ _ _ h => h) (Or.inr ⟨by rfl, rfl⟩) hHeld ?_
          try simp only [sq]
          refine wpAnyH_take (i := 17) (v := undef) rfl (by kernel_rfl) (by kernel_rfl) (by kernel_rfl) (fun _ _ _ h => h) (Or.inr ⟨by rfl, rfl⟩) hHeld ?_
          try simp only [sq]
          refine wpAnyH_take (i := 18) (v := undef) rfl (by kernel_rfl) (by kernel_rfl) (by kernel_rfl) (fun _ _ _ h => h) (Or.inr ⟨by rfl, rfl⟩) hHeld ?_
          try simp only [sq]
          refine wpAnyH_take (i := 19) (v := undef) rfl (by kernel_rfl) (by kernel_rfl) (by kernel_rfl) (fun _ _ _ h => h) (Or.inr ⟨by rfl, rfl⟩) hHeld ?_
          try simp only [sq]
          refine wpAnyH_take (i := 20) (v := undef) rfl (by kernel_rfl) (by kernel_rfl) (by kernel_rfl) (fun _ _ _ h => h) (Or.inr ⟨by rfl, rfl⟩) hHeld ?_
          try simp only [sq]
          refine wpAnyH_take (i := 21) (v := undef) rfl (by kernel_rfl) (by kernel_rfl) (by kernel_rfl) (fun _ _ _ h => h) (Or.inr ⟨by rfl, rfl⟩) hHeld ?_
          try simp only [sq]
          refine wpAnyH_take (i := 22) (v := undef) rfl (by kernel_rfl) (by kernel_rfl) (by kernel_rfl) (fun _ _ _ h => h) (Or.inr ⟨by rfl, rfl⟩) hHeld ?_
          try simp only [sq]
          refine wpAnyH_take (i := 23) (v := undef) rfl (by kernel_rfl) (by kernel_rfl) (by kernel_rfl) (fun _ _ _ h => h) (Or.inr ⟨by rfl, rfl⟩) hHeld ?_
          try simp only [sq]
          refine wpAnyH_take (i := 24) (v := undef) rfl (by kernel_rfl) (by kernel_rfl) (by kernel_rfl) (fun _ _ _ h => h) (Or.inr ⟨by rfl, rfl⟩) hHeld ?_
          try simp only [sq]
          refine wpAnyH_take (i := 25) (v := undef) rfl (by kernel_rfl) (by kernel_rfl) (by kernel_rfl) (fun _ _ _ h => h) (Or.inr ⟨by rfl, rfl⟩) hHeld ?_
          try simp only [sq]
          refine wpAnyH_take (i := 26) (v := undef) rfl (by kernel_rfl) (by kernel_rfl) (by kernel_rfl) (fun _ _ _ h => h) (Or.inr ⟨by rfl, rfl⟩) hHeld ?_
          try simp only [sq]
          refine wpAnyH_take (i := 27) (v := undef) rfl (by kernel_rfl) (by kernel_rfl) (by kernel_rfl) (fun _ _ _ h => h) (Or.inr ⟨by rfl, rfl⟩) hHeld ?_
          try simp only [sq]
          refine wpAnyH_take (i := 28) (v := undef) rfl (by kernel_rfl) (by kernel_rfl) (by kernel_rfl) (fun _ _ _ h => h) (Or.inr ⟨by rfl, rfl⟩) hHeld ?_
          try simp only [sq]
          refine wpAnyH_take (i := 29) (v := undef) rfl (by kernel_rfl) (by kernel_rfl) (by kernel_rfl) (fun _ _ _ h => h) (Or.inr ⟨by rfl, rfl⟩) hHeld ?_
          try simp only [sq]
          refine wpAnyH_take (i := 30) (v := ?_) rfl (by kernel_rfl) (by kernel_rfl) (by kernel_rfl) (fun _ _ _ h => h) (Or.inl ⟨by rfl, ?_⟩) hHeld ?_
          rotate_left
          · intro w hSw; (try dsimp only at hSw); go_simp; try (with_reducible rfl)
          try simp only [sq]
          refine wpAnyH_done (by kernel_rfl) ?_ _
          go_wp2_with fail
          go_meet
          exact ⟨by first | (rw [HEI.out]; done) | (rw [HEI.out]; rfl), hid (by show Below _ _ _; (repeat (first | with_reducible exact Below.refl _ _ | with_reducible assumption | (with_reducible refine btrans ?_ (by with_reducible assumption)) | with_reducible refine bdrew ?_ | with_reducible refine balloc ?_ _)))⟩
        cases go
        rotate_left
        · skip
          rcases Nat.eq_zero_or_pos i with hz | hp
          · have HAB : Hid (ab = true) := hid (by rw [HAS.out, hz]; rfl)
            have HEI : Hid (ei = true) := hid (by rw [HE.out, HAB.out]; simp)
            clear HAS
            subst hz
            refine wp_region_held_drew (S := (fun w' => w'.cell? ⟨X, 0, none⟩ = some (.int .i64 id) ∧ w'.cell? ⟨X, 1, none⟩ = some (.bool true) ∧ w'.cell? ⟨X, 2, none⟩ = some (.int .i64 kd) ∧ w'.cell? ⟨X, 3, none⟩ = some (.slice a' ps.length cap') ∧ w'.cell? ⟨w.heap.size, 2, none⟩ = some (.slice (some ⟨b, o, none⟩) n cap))) (by kernel_rfl) ?_ (fun hHeld => ?_)
            · (repeat' apply And.intro) <;> (repeat (first | with_reducible assumption | with_reducible refine keepdrew ?_ | with_reducible refine keepcell (by with_reducible assumption) ?_ | with_reducible refine keepalloc ?_ _))
            refine wpAnyH_take (i := 0) (v := ?_) rfl (by kernel_rfl) (by kernel_rfl) (by kernel_rfl) (fun _ _ _ h => h) (Or.inl ⟨by rfl, ?_⟩) hHeld ?_
            rotate_left
            · intro w hSw; (try dsimp only at hSw); go_simp; try (with_reducible rfl)
            try simp only [sq]
            refine wpAnyH_take (i := 1) (v := ?_) rfl (by kernel_rfl) (by kernel_rfl) (by kernel_rfl) (fun _ _ _ h => h) (Or.inl ⟨by rfl, ?_⟩) hHeld ?_
            rotate_left
            · intro w hSw; (try dsimp only at hSw); go_simp; try (with_reducible rfl)
            try simp only [sq]
            refine wpAnyH_ready (rs := [2]) (by kernel_rfl) (by simp) ?_
            refine AllReadyH.cons rfl (fun K hK => ?_) AllReadyH.nil
            try simp only [sq]
            go_simp
            (first
                | (go_at_call 53; refine (HIDc.out _).mono ?_; rintro e z ⟨rfl, hw⟩; replace hw := hw.symm; subst hw))
            go_wp2_with fail
            refine hK.out _ _ ?_ (fun hHeld => ?_)
            · (repeat' apply And.intro) <;> (repeat (first | with_reducible assumption | with_reducible refine keepdrew ?_ | with_reducible refine keepcell (by with_reducible assumption) ?_ | with_reducible refine keepalloc ?_ _))
            clear hK K
            try simp only [sq]
            refine wpAnyH_take (i := 3) (v := ?_) rfl (by kernel_rfl) (by kernel_rfl) (by kernel_rfl) (fun _ _ _ h => h) (Or.inl ⟨by rfl, ?_⟩) hHeld ?_
            rotate_left
            · intro w hSw; (try dsimp only at hSw); go_simp; try (with_reducible rfl)
            try simp only [sq]
            refine wpAnyH_take (i := 4) (v := ?_) rfl (by kernel_rfl) (by kernel_rfl) (by kernel_rfl) (fun _ _ _ h => h) (Or.inl ⟨by rfl, ?_⟩) hHeld ?_
            rotate_left
            · intro w hSw; (try dsimp only at hSw); go_simp; try (with_reducible rfl)
            try simp only [sq]
            refine wpAnyH_take (i := 5) (v := ?_) rfl (by kernel_rfl) (by kernel_rfl) (by kernel_rfl) (fun _ _ _ h => h) (Or.inl ⟨by rfl, ?_⟩) hHeld ?_
            rotate_left
            · intro w hSw; (try dsimp only at hSw); go_simp; try (with_reducible rfl)
            try simp only [sq]
            refine wpAnyH_take (i := 6) (v := ?_) rfl (by kernel_rfl) (by kernel_rfl) (by kernel_rfl) (fun _ _ _ h => h) (Or.inl ⟨by rfl, ?_⟩) hHeld ?_
            rotate_left
            · intro w hSw; (try dsimp only at hSw); go_simp; try (with_reducible rfl)
            try simp only [sq]
            refine wpAnyH_take (i := 7) (v := ?_) rfl (by kernel_rfl) (by kernel_rfl) (by kernel_rfl) (fun _ _ _ h => h) (Or.inl ⟨by rfl, ?_⟩) hHeld ?_
            rotate_left
            · intro w hSw; (try dsimp only at hSw); go_simp; try (with_reducible rfl)
            try simp only [sq]
            refine wpAnyH_take (i := 8) (v := ?_) rfl (by kernel_rfl) (by kernel_rfl) (by kernel_rfl) (fun _ _ _ h => h) (Or.inl ⟨by rfl, ?_⟩) hHeld ?_
            rotate_left
            · intro w hSw; (try dsimp only at hSw); go_simp; try (with_reducible rfl)
            try simp only [sq]
            refine wpAnyH_take (i := 9) (v := undef) rfl (by kernel_rfl) (by kernel_rfl) (by kernel_rfl) (fun _ _ _ h => h) (Or.inr ⟨by rfl, rfl⟩) hHeld ?_
            try simp only [sq]
            refine wpAnyH_take (i := 10) (v := undef) rfl (by kernel_rfl) (by kernel_rfl) (by kernel_rfl) (fun _ _ _ h => h) (Or.inr ⟨by rfl, rfl⟩) hHeld ?_
            try simp only [sq]
            refine wpAnyH_take (i := 11) (v := undef) rfl (by kernel_rfl) (by kernel_rfl) (by kernel_rfl) (fun _ _ _ h => h) (Or.inr ⟨by rfl, rfl⟩) hHeld ?_
            try simp only [sq]
            refine wpAnyH_take (i := 12) (v := undef) rfl (by kernel_rfl) (by kernel_rfl) (by kernel_rfl) (fun _ _ _ h => h) (Or.inr ⟨by rfl, rfl⟩) hHeld ?_
            try simp only [sq]
            refine wpAnyH_take (i := 13) (v := ?_) rfl (by kernel_rfl) (by kernel_rfl) (by kernel_rfl) (fun _ _ _ h => h) (Or.inl ⟨by rfl, ?_⟩) hHeld ?_
            rotate_left
            · intro w hSw; (try dsimp only at hSw); go_simp; try (with_reducible rfl)
            try simp only [sq]
            refine wpAnyH_take (i := 14) (v := ?_) rfl (by kernel_rfl) (by kernel_rfl) (by kernel_rfl) (fun _ _ _ h => h) (Or.inl ⟨by rfl, ?_⟩) hHeld ?_
            rotate_left
            · intro w hSw; (try dsimp only at hSw); go_simp; try (with_reducible rfl)
            try simp only [sq]
            refine wpAnyH_take (i := 15) (v := ?_) rfl (by kernel_rfl) (by kernel_rfl) (by kernel_rfl) (fun _ _ _ h => h) (Or.inl ⟨by rfl, ?_⟩) hHeld ?_
            rotate_left
            · intro w hSw; (try dsimp only at hSw); go_simp; try (with_reducible rfl)
            try simp only [sq]
            refine wpAnyH_take (i := 16) (v := ?_) rfl (by kernel_rfl) (by kernel_rfl) (by kernel_rfl) (fun _ _ _ h => h) (Or.inl ⟨by rfl, ?_⟩) hHeld ?_
            rotate_left
            · intro w hSw; (try dsimp only at hSw); go_simp; try (with_reducible rfl)
            try simp only [sq]
            refine wpAnyH_take (i := 17) (v := ?_) rfl (by kernel_rfl) (by kernel_rfl) (by kernel_rfl) (fun _ _ _ h => h) (Or.inl ⟨by rfl, ?_⟩) hHeld ?_
            rotate_left
            · intro w hSw; (try dsimp only at hSw); go_simp; try (with_reducible rfl)
            try simp only [sq]
            refine wpAnyH_take (i := 18) (v := ?_) rfl (by kernel_rfl) (by kernel_rfl) (by kernel_rfl) (fun _ _ _ h => h) (Or.inl ⟨by rfl, ?_⟩) hHeld ?_
            rotate_left
            · intro w hSw; (try dsimp only at hSw); go_simp; try (with_reducible rfl)
            try simp only [sq]
            refine wpAnyH_take (i := 19) (v := undef) rfl (by kernel_rfl) (by kernel_rfl) (by kernel_rfl) (fun _ _ _ h => h) (Or.inr ⟨by rfl, rfl⟩) hHeld ?_
            try simp only [sq]
            refine wpAnyH_take (i := 20) (v := undef) rfl (by kernel_rfl) (by kernel_rfl) (by kernel_rfl) (fun _ _ _ h => h) (Or.inr ⟨by rfl, rfl⟩) hHeld ?_
            try simp only [sq]
            refine wpAnyH_take (i := 21) (v := undef) rfl (by kernel_rfl) (by kernel_rfl) (by kernel_rfl) (fun _ _ _ h => h) (Or.inr ⟨by rfl, rfl⟩) hHeld ?_
            try simp only [sq]
            refine wpAnyH_take (i := 22) (v := undef) rfl (by kernel_rfl) (by kernel_rfl) (by kernel_rfl) (fun _ _ _ h => h) (Or.inr ⟨by rfl, rfl⟩) hHeld ?_
            try simp only [sq]
            refine wpAnyH_take (i := 23) (v := undef) rfl (by kernel_rfl) (by kernel_rfl) (by kernel_rfl) (fun _ _ _ h => h) (Or.inr ⟨by rfl, rfl⟩) hHeld ?_
            try simp only [sq]
            refine wpAnyH_take (i := 24) (v := undef) rfl (by kernel_rfl) (by kernel_rfl) (by kernel_rfl) (fun _ _ _ h => h) (Or.inr ⟨by rfl, rfl⟩) hHeld ?_
            try simp only [sq]
            refine wpAnyH_take (i := 25) (v := undef) rfl (by kernel_rfl) (by kernel_rfl) (by kernel_rfl) (fun _ _ _ h => h) (Or.inr ⟨by rfl, rfl⟩) hHeld ?_
            try simp only [sq]
            refine wpAnyH_take (i := 26) (v := undef) rfl (by kernel_rfl) (by kernel_rfl) (by kernel_rfl) (fun _ _ _ h => h) (Or.inr ⟨by rfl, rfl⟩) hHeld ?_
            try simp only [sq]
            refine wpAnyH_take (i := 27) (v := undef) rfl (by kernel_rfl) (by kernel_rfl) (by kernel_rfl) (fun _ _ _ h => h) (Or.inr ⟨by rfl, rfl⟩) hHeld ?_
            try simp only [sq]
            refine wpAnyH_take (i := 28) (v := undef) rfl (by kernel_rfl) (by kernel_rfl) (by kernel_rfl) (fun _ _ _ h => h) (Or.inr ⟨by rfl, rfl⟩) hHeld ?_
            try simp only [sq]
            refine wpAnyH_take (i := 29) (v := ?_) rfl (by kernel_rfl) (by kernel_rfl) (by kernel_rfl) (fun _ _ _ h => h) (Or.inl ⟨by rfl, ?_⟩) hHeld ?_
            rotate_left
            · intro w hSw; (try dsimp only at hSw); go_simp; try (with_reducible rfl)
            try simp only [sq]
            refine wpAnyH_take (i := 30) (v := ?_) rfl (by kernel_rfl) (by kernel_rfl) (by kernel_rfl) (fun _ _ _ h => h) (Or.inl ⟨by rfl, ?_⟩) hHeld ?_
            rotate_left
            · intro w hSw; (try dsimp only at hSw); go_simp; try (with_reducible rfl)
            try simp only [sq]
            refine wpAnyH_done (by kernel_rfl) ?_ _
            go_wp2_with fail
            go_meet
            exact ⟨by first | (rw [HEI.out]; done) | (rw [HEI.out]; rfl), hid (by show Below _ _ _; (repeat (first | with_reducible exact Below.refl _ _ | with_reducible assumption | (with_reducible refine btrans ?_ (by with_reducible assumption)) | with_reducible refine bdrew ?_ | with_reducible refine balloc ?_ _)))⟩
          · obtain ⟨k, rfl⟩ : ∃ k, i = k + 1 := ⟨i - 1, by omega⟩
            have y0 := HP1.out k rfl
            simp only [Nat.add_sub_cancel] at HAS
            generalize (cs.getD k chd).1 = pid at y0 HAS
            have HAB : Hid (ab = decide (pid < id)) := hid (by rw [HAS.out]; simp)
            have HEI : Hid (ei = decide (pid < id)) := hid (by rw [HE.out, HAB.out]; simp)
            clear HAS
            have hz1 : (0 : Int) < ((k + 1 : Nat) : Int) := by omega
            have hw1 : IntKind.i64.wrap (((k + 1 : Nat) : Int) - 1) = (k : Int) := by rw [IntKind.wrap_i64]; omega
            have hw2 : IntKind.i64.wrap (k : Int) = (k : Int) := by rw [IntKind.wrap_i64]; omega
            have hk0 : (0 : Int) ≤ (k : Int) := by omega
            have hkn : (k : Int) < (n : Int) := by omega
            refine wp_region_held_drew (S := (fun w' => w'.cell? ⟨X, 0, none⟩ = some (.int .i64 id) ∧ w'.cell? ⟨X, 1, none⟩ = some (.bool true) ∧ w'.cell? ⟨X, 2, none⟩ = some (.int .i64 kd) ∧ w'.cell? ⟨X, 3, none⟩ = some (.slice a' ps.length cap') ∧ w'.cell? ⟨w.heap.size, 2, none⟩ = some (.slice (some ⟨b, o, none⟩) n cap) ∧ w'.cell? ⟨b, o + k * 4, none⟩ = some (.int .i64 pid))) (by kernel_rfl) ?_ (fun hHeld => ?_)
            · (repeat' apply And.intro) <;> (repeat (first | with_reducible assumption | with_reducible refine keepdrew ?_ | with_reducible refine keepcell (by with_reducible assumption) ?_ | with_reducible refine keepalloc ?_ _))
            refine wpAnyH_take (i := 0) (v := ?_) rfl (by kernel_rfl) (by kernel_rfl) (by kernel_rfl) (fun _ _ _ h => h) (Or.inl ⟨by rfl, ?_⟩) hHeld ?_
            rotate_left
            · intro w hSw; (try dsimp only at hSw); go_simp; try (with_reducible rfl)
            try simp only [sq]
            refine wpAnyH_take (i := 1) (v := ?_) rfl (by kernel_rfl) (by kernel_rfl) (by kernel_rfl) (fun _ _ _ h => h) (Or.inl ⟨by rfl, ?_⟩) hHeld ?_
            rotate_left
            · intro w hSw; (try dsimp only at hSw); go_simp; try (with_reducible rfl)
            try simp only [sq]
            refine wpAnyH_ready (rs := [2]) (by kernel_rfl) (by simp) ?_
            refine AllReadyH.cons rfl (fun K hK => ?_) AllReadyH.nil
            try simp only [sq]
            go_simp
            (first
                | (go_at_call 53; refine (HIDc.out _).mono ?_; rintro e z ⟨rfl, hw⟩; replace hw := hw.symm; subst hw))
            go_wp2_with fail
            refine hK.out _ _ ?_ (fun hHeld => ?_)
            · (repeat' apply And.intro) <;> (repeat (first | with_reducible assumption | with_reducible refine keepdrew ?_ | with_reducible refine keepcell (by with_reducible assumption) ?_ | with_reducible refine keepalloc ?_ _))
            clear hK K
            try simp only [sq]
            refine wpAnyH_take (i := 3) (v := ?_) rfl (by kernel_rfl) (by kernel_rfl) (by kernel_rfl) (fun _ _ _ h => h) (Or.inl ⟨by rfl, ?_⟩) hHeld ?_
            rotate_left
            · intro w hSw; (try dsimp only at hSw); go_simp; try (with_reducible rfl)
            try simp only [sq]
            refine wpAnyH_take (i := 4) (v := ?_) rfl (by kernel_rfl) (by kernel_rfl) (by kernel_rfl) (fun _ _ _ h => h) (Or.inl ⟨by rfl, ?_⟩) hHeld ?_
            rotate_left
            · intro w hSw; (try dsimp only at hSw); go_simp; try (with_reducible rfl)
            try simp only [sq]
            refine wpAnyH_take (i := 5) (v := ?_) rfl (by kernel_rfl) (by kernel_rfl) (by kernel_rfl) (fun _ _ _ h => h) (Or.inl ⟨by rfl, ?_⟩) hHeld ?_
            rotate_left
            · intro w hSw; (try dsimp only at hSw); go_simp; try (with_reducible rfl)
            try simp only [sq]
            refine wpAnyH_take (i := 6) (v := ?_) rfl (by kernel_rfl) (by kernel_rfl) (by kernel_rfl) (fun _ _ _ h => h) (Or.inl ⟨by rfl, ?_⟩) hHeld ?_
            rotate_left
            · intro w hSw; (try dsimp only at hSw); go_simp; try (with_reducible rfl)
            try simp only [sq]
            refine wpAnyH_take (i := 7) (v := ?_) rfl (by kernel_rfl) (by kernel_rfl) (by kernel_rfl) (fun _ _ _ h => h) (Or.inl ⟨by rfl, ?_⟩) hHeld ?_
            rotate_left
            · intro w hSw; (try dsimp only at hSw); go_simp; try (with_reducible rfl)
            try simp only [sq]
            refine wpAnyH_take (i := 8) (v := ?_) rfl (by kernel_rfl) (by kernel_rfl) (by kernel_rfl) (fun _ _ _ h => h) (Or.inl ⟨by rfl, ?_⟩) hHeld ?_
            rotate_left
            · intro w hSw; (try dsimp only at hSw); go_simp; try (with_reducible rfl)
            try simp only [sq]
            refine wpAnyH_take (i := 9) (v := undef) rfl (by kernel_rfl) (by kernel_rfl) (by kernel_rfl) (fun _ _ _ h => h) (Or.inr ⟨by rfl, rfl⟩) hHeld ?_
            try simp only [sq]
            refine wpAnyH_take (i := 10) (v := undef) rfl (by kernel_rfl) (by kernel_rfl) (by kernel_rfl) (fun _ _ _ h => h) (Or.inr ⟨by rfl, rfl⟩) hHeld ?_
            try simp only [sq]
            refine wpAnyH_take (i := 11) (v := undef) rfl (by kernel_rfl) (by kernel_rfl) (by kernel_rfl) (fun _ _ _ h => h) (Or.inr ⟨by rfl, rfl⟩) hHeld ?_
            try simp only [sq]
            refine wpAnyH_take (i := 12) (v := undef) rfl (by kernel_rfl) (by kernel_rfl) (by kernel_rfl) (fun _ _ _ h => h) (Or.inr ⟨by rfl, rfl⟩) hHeld ?_
            try simp only [sq]
            refine wpAnyH_take (i := 13) (v := ?_) rfl (by kernel_rfl) (by kernel_rfl) (by kernel_rfl) (fun _ _ _ h => h) (Or.inl ⟨by rfl, ?_⟩) hHeld ?_
            rotate_left
            · intro w hSw; (try dsimp only at hSw); go_simp; try (with_reducible rfl)
            try simp only [sq]
            refine wpAnyH_take (i := 14) (v := ?_) rfl (by kernel_rfl) (by kernel_rfl) (by kernel_rfl) (fun _ _ _ h => h) (Or.inl ⟨by rfl, ?_⟩) hHeld ?_
            rotate_left
            · intro w hSw; (try dsimp only at hSw); go_simp; try (with_reducible rfl)
            try simp only [sq]
            refine wpAnyH_take (i := 15) (v := ?_) rfl (by kernel_rfl) (by kernel_rfl) (by kernel_rfl) (fun _ _ _ h => h) (Or.inl ⟨by rfl, ?_⟩) hHeld ?_
            rotate_left
            · intro w hSw; (try dsimp only at hSw); go_simp; try (with_reducible rfl)
            try simp only [sq]
            refine wpAnyH_take (i := 16) (v := ?_) rfl (by kernel_rfl) (by kernel_rfl) (by kernel_rfl) (fun _ _ _ h => h) (Or.inl ⟨by rfl, ?_⟩) hHeld ?_
            rotate_left
            · intro w hSw; (try dsimp only at hSw); go_simp; try (with_reducible rfl)
            try simp only [sq]
            refine wpAnyH_take (i := 17) (v := ?_) rfl (by kernel_rfl) (by kernel_rfl) (by kernel_rfl) (fun _ _ _ h => h) (Or.inl ⟨by rfl, ?_⟩) hHeld ?_
            rotate_left
            · intro w hSw; (try dsimp only at hSw); go_simp; try (with_reducible rfl)
            try simp only [sq]
            refine wpAnyH_take (i := 18) (v := ?_) rfl (by kernel_rfl) (by kernel_rfl) (by kernel_rfl) (fun _ _ _ h => h) (Or.inl ⟨by rfl, ?_⟩) hHeld ?_
            rotate_left
            · intro w hSw; (try dsimp only at hSw); go_simp; try (with_reducible rfl)
            try simp only [sq]
            refine wpAnyH_take (i := 19) (v := ?_) rfl (by kernel_rfl) (by kernel_rfl) (by kernel_rfl) (fun _ _ _ h => h) (Or.inl ⟨by rfl, ?_⟩) hHeld ?_
            rotate_left
            · intro w hSw; (try dsimp only at hSw); go_simp; try (with_reducible rfl)
            try simp only [sq]
            refine wpAnyH_take (i := 20) (v := ?_) rfl (by kernel_rfl) (by kernel_rfl) (by kernel_rfl) (fun _ _ _ h => h) (Or.inl ⟨by rfl, ?_⟩) hHeld ?_
            rotate_left
            · intro w hSw; (try dsimp only at hSw); go_simp; try (with_reducible rfl)
            try simp only [sq]
            refine wpAnyH_take (i := 21) (v := ?_) rfl (by kernel_rfl) (by kernel_rfl) (by kernel_rfl) (fun _ _ _ h => h) (Or.inl ⟨by rfl, ?_⟩) hHeld ?_
            rotate_left
            · intro w hSw; (try dsimp only at hSw); go_simp; try (with_reducible rfl)
            try simp only [sq]
            refine wpAnyH_take (i := 22) (v := ?_) rfl (by kernel_rfl) (by kernel_rfl) (by kernel_rfl) (fun _ _ _ h => h) (Or.inl ⟨by rfl, ?_⟩) hHeld ?_
            rotate_left
            · intro w hSw; (try dsimp only at hSw); go_simp; try (with_reducible rfl)
            try simp only [sq]
            refine wpAnyH_take (i := 23) (v := ?_) rfl (by kernel_rfl) (by kernel_rfl) (by kernel_rfl) (fun _ _ _ h => h) (Or.inl ⟨by rfl, ?_⟩) hHeld ?_
            rotate_left
            · intro w hSw; (try dsimp only at hSw); go_simp; try (with_reducible rfl)
            try simp only [sq]
            refine wpAnyH_take (i := 24) (v := ?_) rfl (by kernel_rfl) (by kernel_rfl) (by kernel_rfl) (fun _ _ _ h => h) (Or.inl ⟨by rfl, ?_⟩) hHeld ?_
            rotate_left
            · intro w hSw; (try dsimp only at hSw); go_simp; try (with_reducible rfl)
            try simp only [sq]
            refine wpAnyH_take (i := 25) (v := ?_) rfl (by kernel_rfl) (by kernel_rfl) (by kernel_rfl) (fun _ _ _ h => h) (Or.inl ⟨by rfl, ?_⟩) hHeld ?_
            rotate_left
            · intro w hSw; (try dsimp only at hSw); go_simp; try (with_reducible rfl)
            try simp only [sq]
            refine wpAnyH_take (i := 26) (v := ?_) rfl (by kernel_rfl) (by kernel_rfl) (by kernel_rfl) (fun _ _ _ h => h) (Or.inl ⟨by rfl, ?_⟩) hHeld ?_
            rotate_left
            · intro w hSw; (try dsimp only at hSw); go_simp; try (with_reducible rfl)
            try simp only [sq]
            refine wpAnyH_take (i := 27) (v := ?_) rfl (by kernel_rfl) (by kernel_rfl) (by kernel_rfl) (fun _ _ _ h => h) (Or.inl ⟨by rfl, ?_⟩) hHeld ?_
            rotate_left
            · intro w hSw; (try dsimp only at hSw); go_simp; try (with_reducible rfl)
            try simp only [sq]
            refine wpAnyH_take (i := 28) (v := ?_) rfl (by kernel_rfl) (by kernel_rfl) (by kernel_rfl) (fun _ _ _ h => h) (Or.inl ⟨by rfl, ?_⟩) hHeld ?_
            rotate_left
            · intro w hSw; (try dsimp only at hSw); go_simp; try (with_reducible rfl)
            try simp only [sq]
            refine wpAnyH_take (i := 29) (v := ?_) rfl (by kernel_rfl) (by kernel_rfl) (by kernel_rfl) (fun _ _ _ h => h) (Or.inl ⟨by rfl, ?_⟩) hHeld ?_
            rotate_left
            · intro w hSw; (try dsimp only at hSw); go_simp; try (with_reducible rfl)
            try simp only [sq]
            refine wpAnyH_take (i := 30) (v := ?_) rfl (by kernel_rfl) (by kernel_rfl) (by kernel_rfl) (fun _ _ _ h => h) (Or.inl ⟨by rfl, ?_⟩) hHeld ?_
            rotate_left
            · intro w hSw; (try dsimp only at hSw); go_simp; try (with_reducible rfl)
            try simp only [sq]
            refine wpAnyH_done (by kernel_rfl) ?_ _
            go_wp2_with fail
            go_meet
            exact ⟨by rw [HEI.out]; congr 1; by_cases hq : pid < id <;> simp [hq] <;> omega, hid (by show Below _ _ _; (repeat (first | with_reducible exact Below.refl _ _ | with_reducible assumption | (with_reducible refine btrans ?_ (by with_reducible assumption)) | with_reducible refine bdrew ?_ | with_reducible refine balloc ?_ _)))⟩
        cases sb
        · have HEI : Hid (ei = false) := hid (by rw [HE.out]; simp)
          refine wp_region_held_drew (S := (fun w' => w'.cell? ⟨X, 0, none⟩ = some (.int .i64 id) ∧ w'.cell? ⟨X, 1, none⟩ = some (.bool false) ∧ w'.cell? ⟨X, 2, none⟩ = some (.int .i64 kd) ∧ w'.cell? ⟨X, 3, none⟩ = some (.slice a' ps.length cap') ∧ w'.cell? ⟨w.heap.size, 2, none⟩ = some (.slice (some ⟨b, o, none⟩) n cap))) (by kernel_rfl) ?_ (fun hHeld => ?_)
          · (repeat' apply And.intro) <;> (repeat (first | with_reducible assumption | with_reducible refine keepdrew ?_ | with_reducible refine keepcell (by with_reducible assumption) ?_ | with_reducible refine keepalloc ?_ _))
          refine wpAnyH_take (i := 0) (v := ?_) rfl (by kernel_rfl) (by kernel_rfl) (by kernel_rfl) (fun _ _ _ h => h) (Or.inl ⟨by rfl, ?_⟩) hHeld ?_
          rotate_left
          · intro w hSw; (try dsimp only at hSw); go_simp; try (with_reducible rfl)
          try simp only [sq]
          refine wpAnyH_take (i := 1) (v := ?_) rfl (by kernel_rfl) (by kernel_rfl) (by kernel_rfl) (fun _ _ _ h => h) (Or.inl ⟨by rfl, ?_⟩) hHeld ?_
          rotate_left
          · intro w hSw; (try dsimp only at hSw); go_simp; try (with_reducible rfl)
          try simp only [sq]
          refine wpAnyH_ready (rs := [2]) (by kernel_rfl) (by simp) ?_
          refine AllReadyH.cons rfl (fun K hK => ?_) AllReadyH.nil
          try simp only [sq]
          go_simp
          (first
              | (go_at_call 53; refine (HIDc.out _).mono ?_; rintro e z ⟨rfl, hw⟩; replace hw := hw.symm; subst hw))
          go_wp2_with fail
          refine hK.out _ _ ?_ (fun hHeld => ?_)
          · (repeat' apply And.intro) <;> (repeat (first | with_reducible assumption | with_reducible refine keepdrew ?_ | with_reducible refine keepcell (by with_reducible assumption) ?_ | with_reducible refine keepalloc ?_ _))
          clear hK K
          try simp only [sq]
          refine wpAnyH_take (i := 3) (v := ?_) rfl (by kernel_rfl) (by kernel_rfl) (by kernel_rfl) (fun _ _ _ h => h) (Or.inl ⟨by rfl, ?_⟩) hHeld ?_
          rotate_left
          · intro w hSw; (try dsimp only at hSw); go_simp; try (with_reducible rfl)
          try simp only [sq]
          refine wpAnyH_take (i := 4) (v := ?_) rfl (by kernel_rfl) (by kernel_rfl) (by kernel_rfl) (fun _ _ _ h => h) (Or.inl ⟨by rfl, ?_⟩) hHeld ?_
          rotate_left
          · intro w hSw; (try dsimp only at hSw); go_simp; try (with_reducible rfl)
          try simp only [sq]
          refine wpAnyH_take (i := 5) (v := ?_) rfl (by kernel_rfl) (by kernel_rfl) (by kernel_rfl) (fun _ _ _ h => h) (Or.inl ⟨by rfl, ?_⟩) hHeld ?_
          rotate_left
          · intro w hSw; (try dsimp only at hSw); go_simp; try (with_reducible rfl)
          try simp only [sq]
          refine wpAnyH_take (i := 6) (v := ?_) rfl (by kernel_rfl) (by kernel_rfl) (by kernel_rfl) (fun _ _ _ h => h) (Or.inl ⟨by rfl, ?_⟩) hHeld ?_
          rotate_left
          · intro w hSw; (try dsimp only at hSw); go_simp; try (with_reducible rfl)
          try simp only [sq]
          refine wpAnyH_take (i := 7) (v := ?_) rfl (by kernel_rfl) (by kernel_rfl) (by kernel_rfl) (fun _ _ _ h => h) (Or.inl ⟨by rfl, ?_⟩) hHeld ?_
          rotate_left
          · intro w hSw; (try dsimp only at hSw); go_simp; try (with_reducible rfl)
          try simp only [sq]
          refine wpAnyH_take (i := 8) (v := ?_) rfl (by kernel_rfl) (by kernel_rfl) (by kernel_rfl) (fun _ _ _ h => h) (Or.inl ⟨by rfl, ?_⟩) hHeld ?_
          rotate_left
          · intro w hSw; (try dsimp only at hSw); go_simp; try (with_reducible rfl)
          try simp only [sq]
          refine wpAnyH_take (i := 9) (v := ?_) rfl (by kernel_rfl) (by kernel_rfl) (by kernel_rfl) (fun _ _ _ h => h) (Or.inl ⟨by rfl, ?_⟩) hHeld ?_
          rotate_left
          · intro w hSw; (try dsimp only at hSw); go_simp; try (with_reducible rfl)
          try simp only [sq]
          refine wpAnyH_take (i := 10) (v := ?_) rfl (by kernel_rfl) (by kernel_rfl) (by kernel_rfl) (fun _ _ _ h => h) (Or.inl ⟨by rfl, ?_⟩) hHeld ?_
          rotate_left
          · intro w hSw; (try dsimp only at hSw); go_simp; try (with_reducible rfl)
          try simp only [sq]
          refine wpAnyH_ready (rs := [11]) (by kernel_rfl) (by simp) ?_
          refine AllReadyH.cons rfl (fun K hK => ?_) AllReadyH.nil
          try simp only [sq]
          go_simp
          (first
              | (go_at_call 54; refine (HSO.out _ (bdrew HBX.out)).mono ?_; rintro e z2 ⟨rfl, hz2⟩))
          go_wp2_with fail
          refine hK.out _ _ ?_ (fun hHeld => ?_)
          · (repeat' apply And.intro) <;> (repeat (first | with_reducible assumption | with_reducible refine keepdrew ?_ | with_reducible refine keepcell (by with_reducible assumption) ?_ | with_reducible refine keepalloc ?_ _))
          clear hK K
          try simp only [sq]
          refine wpAnyH_take (i := 12) (v := ?_) rfl (by kernel_rfl) (by kernel_rfl) (by kernel_rfl) (fun _ _ _ h => h) (Or.inl ⟨by rfl, ?_⟩) hHeld ?_
          rotate_left
          · intro w hSw; (try dsimp only at hSw); go_simp; try (with_reducible rfl)
          try simp only [sq]
          refine wpAnyH_take (i := 13) (v := ?_) rfl (by kernel_rfl) (by kernel_rfl) (by kernel_rfl) (fun _ _ _ h => h) (Or.inl ⟨by rfl, ?_⟩) hHeld ?_
          rotate_left
          · intro w hSw; (try dsimp only at hSw); go_simp; try (with_reducible rfl)
          try simp only [sq]
          refine wpAnyH_take (i := 14) (v := ?_) rfl (by kernel_rfl) (by kernel_rfl) (by kernel_rfl) (fun _ _ _ h => h) (Or.inl ⟨by rfl, ?_⟩) hHeld ?_
          rotate_left
          · intro w hSw; (try dsimp only at hSw); go_simp; try (with_reducible rfl)
          try simp only [sq]
          refine wpAnyH_take (i := 15) (v := ?_) rfl (by kernel_rfl) (by kernel_rfl) (by kernel_rfl) (fun _ _ _ h => h) (Or.inl ⟨by rfl, ?_⟩) hHeld ?_
          rotate_left
          · intro w hSw; (try dsimp only at hSw); go_simp; try (with_reducible rfl)
          try simp only [sq]
          refine wpAnyH_take (i := 16) (v := undef) rfl (by kernel_rfl) (by kernel_rfl) (by kernel_rfl) (fun _ _ _ h => h) (Or.inr ⟨by rfl, rfl⟩) hHeld ?_
          try simp only [sq]
          refine wpAnyH_take (i := 17) (v := undef) rfl (by kernel_rfl) (by kernel_rfl) (by kernel_rfl) (fun _ _ _ h => h) (Or.inr ⟨by rfl, rfl⟩) hHeld ?_
          try simp only [sq]
          refine wpAnyH_take (i := 18) (v := undef) rfl (by kernel_rfl) (by kernel_rfl) (by kernel_rfl) (fun _ _ _ h => h) (Or.inr ⟨by rfl, rfl⟩) hHeld ?_
          try simp only [sq]
          refine wpAnyH_take (i := 19) (v := undef) rfl (by kernel_rfl) (by kernel_rfl) (by kernel_rfl) (fun _ _ _ h => h) (Or.inr ⟨by rfl, rfl⟩) hHeld ?_
          try simp only [sq]
          refine wpAnyH_take (i := 20) (v := undef) rfl (by kernel_rfl) (by kernel_rfl) (by kernel_rfl) (fun _ _ _ h => h) (Or.inr ⟨by rfl, rfl⟩) hHeld ?_
          try simp only [sq]
          refine wpAnyH_take (i := 21) (v := undef) rfl (by kernel_rfl) (by kernel_rfl) (by kernel_rfl) (fun _ _ _ h => h) (Or.inr ⟨by rfl, rfl⟩) hHeld ?_
          try simp only [sq]
          refine wpAnyH_take (i := 22) (v := undef) rfl (by kernel_rfl) (by kernel_rfl) (by kernel_rfl) (fun _ _ _ h => h) (Or.inr ⟨by rfl, rfl⟩) hHeld ?_
          try simp only [sq]
          refine wpAnyH_take (i := 23) (v := undef) rfl (by kernel_rfl) (by kernel_rfl) (by kernel_rfl) (fun _ _ _ h => h) (Or.inr ⟨by rfl, rfl⟩) hHeld ?_
          try simp only [sq]
          refine wpAnyH_take (i := 24) (v := undef) rfl (by kernel_rfl) (by kernel_rfl) (by kernel_rfl) (fun _ _ _ h => h) (Or.inr ⟨by rfl, rfl⟩) hHeld ?_
          try simp only [sq]
          refine wpAnyH_take (i := 25) (v := undef) rfl (by kernel_rfl) (by kernel_rfl) (by kernel_rfl) (fun _ _ _ h => h) (Or.inr ⟨by rfl, rfl⟩) hHeld ?_
          try simp only [sq]
          refine wpAnyH_take (i := 26) (v := undef) rfl (by kernel_rfl) (by kernel_rfl) (by kernel_rfl) (fun _ _ _ h => h) (Or.inr ⟨by rfl, rfl⟩) hHeld ?_
          try simp only [sq]
          refine wpAnyH_take (i := 27) (v := undef) rfl (by kernel_rfl) (by kernel_rfl) (by kernel_rfl) (fun _ _ _ h => h) (Or.inr ⟨by rfl, rfl⟩) hHeld ?_
          try simp only [sq]
          refine wpAnyH_take (i := 28) (v := undef) rfl (by kernel_rfl) (by kernel_rfl) (by kernel_rfl) (fun _ _ _ h => h) (Or.inr ⟨by rfl, rfl⟩) hHeld ?_
          try simp only [sq]
          refine wpAnyH_take (i := 29) (v := undef) rfl (by kernel_rfl) (by kernel_rfl) (by kernel_rfl) (fun _ _ _ h => h) (Or.inr ⟨by rfl, rfl⟩) hHeld ?_
          try simp only [sq]
          refine wpAnyH_take (i := 30) (v := ?_) rfl (by kernel_rfl) (by kernel_rfl) (by kernel_rfl) (fun _ _ _ h => h) (Or.inl ⟨by rfl, ?_⟩) hHeld ?_
          rotate_left
          · intro w hSw; (try dsimp only at hSw); go_simp; try (with_reducible rfl)
          try simp only [sq]
          refine wpAnyH_done (by kernel_rfl) ?_ _
          go_wp2_with fail
          go_meet
          exact ⟨by first | (rw [HEI.out]; done) | (rw [HEI.out]; rfl), hid (by show Below _ _ _; (repeat (first | with_reducible exact Below.refl _ _ | with_reducible assumption | (with_reducible refine btrans ?_ (by with_reducible assumption)) | with_reducible refine bdrew ?_ | with_reducible refine balloc ?_ _)))⟩
        · skip
          rcases Nat.eq_zero_or_pos i with hz | hp
          · have HAB : Hid (ab = true) := hid (by rw [HAS.out, hz]; rfl)
            have HEI : Hid (ei = true) := hid (by rw [HE.out, HAB.out]; simp)
            clear HAS
            subst hz
            refine wp_region_held_drew (S := (fun w' => w'.cell? ⟨X, 0, none⟩ = some (.int .i64 id) ∧ w'.cell? ⟨X, 1, none⟩ = some (.bool false) ∧ w'.cell? ⟨X, 2, none⟩ = some (.int .i64 kd) ∧ w'.cell? ⟨X, 3, none⟩ = some (.slice a' ps.length cap') ∧ w'.cell? ⟨w.heap.size, 2, none⟩ = some (.slice (some ⟨b, o, none⟩) n cap))) (by kernel_rfl) ?_ (fun hHeld => ?_)
            · (repeat' apply And.intro) <;> (repeat (first | with_reducible assumption | with_reducible refine keepdrew ?_ | with_reducible refine keepcell (by with_reducible assumption) ?_ | with_reducible refine keepalloc ?_ _))
            refine wpAnyH_take (i := 0) (v := ?_) rfl (by kernel_rfl) (by kernel_rfl) (by kernel_rfl) (fun _ _ _ h => h) (Or.inl ⟨by rfl, ?_⟩) hHeld ?_
            rotate_left
            · intro w hSw; (try dsimp only at hSw); go_simp; try (with_reducible rfl)
            try simp only [sq]
            refine wpAnyH_take (i := 1) (v := ?_) rfl (by kernel_rfl) (by kernel_rfl) (by kernel_rfl) (fun _ _ _ h => h) (Or.inl ⟨by rfl, ?_⟩) hHeld ?_
            rotate_left
            · intro w hSw; (try dsimp only at hSw); go_simp; try (with_reducible rfl)
            try simp only [sq]
            refine wpAnyH_ready (rs := [2]) (by kernel_rfl) (by simp) ?_
            refine AllReadyH.cons rfl (fun K hK => ?_) AllReadyH.nil
            try simp only [sq]
            go_simp
            (first
                | (go_at_call 53; refine (HIDc.out _).mono ?_; rintro e z ⟨rfl, hw⟩; replace hw := hw.symm; subst hw))
            go_wp2_with fail
            refine hK.out _ _ ?_ (fun hHeld => ?_)
            · (repeat' apply And.intro) <;> (repeat (first | with_reducible assumption | with_reducible refine keepdrew ?_ | with_reducible refine keepcell (by with_reducible assumption) ?_ | with_reducible refine keepalloc ?_ _))
            clear hK K
            try simp only [sq]
            refine wpAnyH_take (i := 3) (v := ?_) rfl (by kernel_rfl) (by kernel_rfl) (by kernel_rfl) (fun _ _ _ h => h) (Or.inl ⟨by rfl, ?_⟩) hHeld ?_
            rotate_left
            · intro w hSw; (try dsimp only at hSw); go_simp; try (with_reducible rfl)
            try simp only [sq]
            refine wpAnyH_take (i := 4) (v := ?_) rfl (by kernel_rfl) (by kernel_rfl) (by kernel_rfl) (fun _ _ _ h => h) (Or.inl ⟨by rfl, ?_⟩) hHeld ?_
            rotate_left
            · intro w hSw; (try dsimp only at hSw); go_simp; try (with_reducible rfl)
            try simp only [sq]
            refine wpAnyH_take (i := 5) (v := ?_) rfl (by kernel_rfl) (by kernel_rfl) (by kernel_rfl) (fun _ _ _ h => h) (Or.inl ⟨by rfl, ?_⟩) hHeld ?_
            rotate_left
            · intro w hSw; (try dsimp only at hSw); go_simp; try (with_reducible rfl)
            try simp only [sq]
            refine wpAnyH_take (i := 6) (v := ?_) rfl (by kernel_rfl) (by kernel_rfl) (by kernel_rfl) (fun _ _ _ h => h) (Or.inl ⟨by rfl, ?_⟩) hHeld ?_
            rotate_left
            · intro w hSw; (try dsimp only at hSw); go_simp; try (with_reducible rfl)
            try simp only [sq]
            refine wpAnyH_take (i := 7) (v := ?_) rfl (by kernel_rfl) (by kernel_rfl) (by kernel_rfl) (fun _ _ _ h => h) (Or.inl ⟨by rfl, ?_⟩) hHeld ?_
            rotate_left
            · intro w hSw; (try dsimp only at hSw); go_simp; try (with_reducible rfl)
            try simp only [sq]
            refine wpAnyH_take (i := 8) (v := ?_) rfl (by kernel_rfl) (by kernel_rfl) (by kernel_rfl) (fun _ _ _ h => h) (Or.inl ⟨by rfl, ?_⟩) hHeld ?_
            rotate_left
            · intro w hSw; (try dsimp only at hSw); go_simp; try (with_reducible rfl)
            try simp only [sq]
            refine wpAnyH_take (i := 9) (v := ?_) rfl (by kernel_rfl) (by kernel_rfl) (by kernel_rfl) (fun _ _ _ h => h) (Or.inl ⟨by rfl, ?_⟩) hHeld ?_
            rotate_left
            · intro w hSw; (try dsimp only at hSw); go_simp; try (with_reducible rfl)
            try simp only [sq]
            refine wpAnyH_take (i := 10) (v := ?_) rfl (by kernel_rfl) (by kernel_rfl) (by kernel_rfl) (fun _ _ _ h => h) (Or.inl ⟨by rfl, ?_⟩) hHeld ?_
            rotate_left
            · intro w hSw; (try dsimp only at hSw); go_simp; try (with_reducible rfl)
            try simp only [sq]
            refine wpAnyH_ready (rs := [11]) (by kernel_rfl) (by simp) ?_
            refine AllReadyH.cons rfl (fun K hK => ?_) AllReadyH.nil
            try simp only [sq]
            go_simp
            (first
                | (go_at_call 54; refine (HSO.out _ (bdrew HBX.out)).mono ?_; rintro e z2 ⟨rfl, hz2⟩))
            go_wp2_with fail
            refine hK.out _ _ ?_ (fun hHeld => ?_)
            · (repeat' apply And.intro) <;> (repeat (first | with_reducible assumption | with_reducible refine keepdrew ?_ | with_reducible refine keepcell (by with_reducible assumption) ?_ | with_reducible refine keepalloc ?_ _))
            clear hK K
            try simp only [sq]
            refine wpAnyH_take (i := 12) (v := ?_) rfl (by kernel_rfl) (by kernel_rfl) (by kernel_rfl) (fun _ _ _ h => h) (Or.inl ⟨by rfl, ?_⟩) hHeld ?_
            rotate_left
            · intro w hSw; (try dsimp only at hSw); go_simp; try (with_reducible rfl)
            try simp only [sq]
            refine wpAnyH_take (i := 13) (v := ?_) rfl (by kernel_rfl) (by kernel_rfl) (by kernel_rfl) (fun _ _ _ h => h) (Or.inl ⟨by rfl, ?_⟩) hHeld ?_
            rotate_left
            · intro w hSw; (try dsimp only at hSw); go_simp; try (with_reducible rfl)
            try simp only [sq]
            refine wpAnyH_take (i := 14) (v := ?_) rfl (by kernel_rfl) (by kernel_rfl) (by kernel_rfl) (fun _ _ _ h => h) (Or.inl ⟨by rfl, ?_⟩) hHeld ?_
            rotate_left
            · intro w hSw; (try dsimp only at hSw); go_simp; try (with_reducible rfl)
            try simp only [sq]
            refine wpAnyH_take (i := 15) (v := ?_) rfl (by kernel_rfl) (by kernel_rfl) (by kernel_rfl) (fun _ _ _ h => h) (Or.inl ⟨by rfl, ?_⟩) hHeld ?_
            rotate_left
            · intro w hSw; (try dsimp only at hSw); go_simp; try (with_reducible rfl)
            try simp only [sq]
            refine wpAnyH_take (i := 16) (v := ?_) rfl (by kernel_rfl) (by kernel_rfl) (by kernel_rfl) (fun _ _ _ h => h) (Or.inl ⟨by rfl, ?_⟩) hHeld ?_
            rotate_left
            · intro w hSw; (try dsimp only at hSw); go_simp; try (with_reducible rfl)
            try simp only [sq]
            refine wpAnyH_take (i := 17) (v := ?_) rfl (by kernel_rfl) (by kernel_rfl) (by kernel_rfl) (fun _ _ _ h => h) (Or.inl ⟨by rfl, ?_⟩) hHeld ?_
            rotate_left
            · intro w hSw; (try dsimp only at hSw); go_simp; try (with_reducible rfl)
            try simp only [sq]
            refine wpAnyH_take (i := 18) (v := ?_) rfl (by kernel_rfl) (by kernel_rfl) (by kernel_rfl) (fun _ _ _ h => h) (Or.inl ⟨by rfl, ?_⟩) hHeld ?_
            rotate_left
            · intro w hSw; (try dsimp only at hSw); go_simp; try (with_reducible rfl)
            try simp only [sq]
            refine wpAnyH_take (i := 19) (v := undef) rfl (by kernel_rfl) (by kernel_rfl) (by kernel_rfl) (fun _ _ _ h => h) (Or.inr ⟨by rfl, rfl⟩) hHeld ?_
            try simp only [sq]
            refine wpAnyH_take (i := 20) (v := undef) rfl (by kernel_rfl) (by kernel_rfl) (by kernel_rfl) (fun _ _ _ h => h) (Or.inr ⟨by rfl, rfl⟩) hHeld ?_
            try simp only [sq]
            refine wpAnyH_take (i := 21) (v := undef) rfl (by kernel_rfl) (by kernel_rfl) (by kernel_rfl) (fun _ _ _ h => h) (Or.inr ⟨by rfl, rfl⟩) hHeld ?_
            try simp only [sq]
            refine wpAnyH_take (i := 22) (v := undef) rfl (by kernel_rfl) (by kernel_rfl) (by kernel_rfl) (fun _ _ _ h => h) (Or.inr ⟨by rfl, rfl⟩) hHeld ?_
            try simp only [sq]
            refine wpAnyH_take (i := 23) (v := undef) rfl (by kernel_rfl) (by kernel_rfl) (by kernel_rfl) (fun _ _ _ h => h) (Or.inr ⟨by rfl, rfl⟩) hHeld ?_
            try simp only [sq]
            refine wpAnyH_take (i := 24) (v := undef) rfl (by kernel_rfl) (by kernel_rfl) (by kernel_rfl) (fun _ _ _ h => h) (Or.inr ⟨by rfl, rfl⟩) hHeld ?_
            try simp only [sq]
            refine wpAnyH_take (i := 25) (v := undef) rfl (by kernel_rfl) (by kernel_rfl) (by kernel_rfl) (fun _ _ _ h => h) (Or.inr ⟨by rfl, rfl⟩) hHeld ?_
            try simp only [sq]
            refine wpAnyH_take (i := 26) (v := undef) rfl (by kernel_rfl) (by kernel_rfl) (by kernel_rfl) (fun _ _ _ h => h) (Or.inr ⟨by rfl, rfl⟩) hHeld ?_
            try simp only [sq]
            refine wpAnyH_take (i := 27) (v := undef) rfl (by kernel_rfl) (by kernel_rfl) (by kernel_rfl) (fun _ _ _ h => h) (Or.inr ⟨by rfl, rfl⟩) hHeld ?_
            try simp only [sq]
            refine wpAnyH_take (i := 28) (v := undef) rfl (by kernel_rfl) (by kernel_rfl) (by kernel_rfl) (fun _ _ _ h => h) (Or.inr ⟨by rfl, rfl⟩) hHeld ?_
            try simp only [sq]
            refine wpAnyH_take (i := 29) (v := ?_) rfl (by kernel_rfl) (by kernel_rfl) (by kernel_rfl) (fun _ _ _ h => h) (Or.inl ⟨by rfl, ?_⟩) hHeld ?_
            rotate_left
            · intro w hSw; (try dsimp only at hSw); go_simp; try (with_reducible rfl)
            try simp only [sq]
            refine wpAnyH_take (i := 30) (v := ?_) rfl (by kernel_rfl) (by kernel_rfl) (by kernel_rfl) (fun _ _ _ h => h) (Or.inl ⟨by rfl, ?_⟩) hHeld ?_
            rotate_left
            · intro w hSw; (try dsimp only at hSw); go_simp; try (with_reducible rfl)
            try simp only [sq]
            refine wpAnyH_done (by kernel_rfl) ?_ _
            go_wp2_with fail
            go_meet
            exact ⟨by first | (rw [HEI.out]; done) | (rw [HEI.out]; rfl), hid (by show Below _ _ _; (repeat (first | with_reducible exact Below.refl _ _ | with_reducible assumption | (with_reducible refine btrans ?_ (by with_reducible assumption)) | with_reducible refine bdrew ?_ | with_reducible refine balloc ?_ _)))⟩
          · obtain ⟨k, rfl⟩ : ∃ k, i = k + 1 := ⟨i - 1, by omega⟩
            have y0 := HP1.out k rfl
            simp only [Nat.add_sub_cancel] at HAS
            generalize (cs.getD k chd).1 = pid at y0 HAS
            have HAB : Hid (ab = decide (pid < id)) := hid (by rw [HAS.out]; simp)
            have HEI : Hid (ei = decide (pid < id)) := hid (by rw [HE.out, HAB.out]; simp)
            clear HAS
            have hz1 : (0 : Int) < ((k + 1 : Nat) : Int) := by omega
            have hw1 : IntKind.i64.wrap (((k + 1 : Nat) : Int) - 1) = (k : Int) := by rw [IntKind.wrap_i64]; omega
            have hw2 : IntKind.i64.wrap (k : Int) = (k : Int) := by rw [IntKind.wrap_i64]; omega
            have hk0 : (0 : Int) ≤ (k : Int) := by omega
            have hkn : (k : Int) < (n : Int) := by omega
            refine wp_region_held_drew (S := (fun w' => w'.cell? ⟨X, 0, none⟩ = some (.int .i64 id) ∧ w'.cell? ⟨X, 1, none⟩ = some (.bool false) ∧ w'.cell? ⟨X, 2, none⟩ = some (.int .i64 kd) ∧ w'.cell? ⟨X, 3, none⟩ = some (.slice a' ps.length cap') ∧ w'.cell? ⟨w.heap.size, 2, none⟩ = some (.slice (some ⟨b, o, none⟩) n cap) ∧ w'.cell? ⟨b, o + k * 4, none⟩ = some (.int .i64 pid))) (by kernel_rfl) ?_ (fun hHeld => ?_)
            · (repeat' apply And.intro) <;> (repeat (first | with_reducible assumption | with_reducible refine keepdrew ?_ | with_reducible refine keepcell (by with_reducible assumption) ?_ | with_reducible refine keepalloc ?_ _))
            refine wpAnyH_take (i := 0) (v := ?_) rfl (by kernel_rfl) (by kernel_rfl) (by kernel_rfl) (fun _ _ _ h => h) (Or.inl ⟨by rfl, ?_⟩) hHeld ?_
            rotate_left
            · intro w hSw; (try dsimp only at hSw); go_simp; try (with_reducible rfl)
            try simp only [sq]
            refine wpAnyH_take (i := 1) (v := ?_) rfl (by kernel_rfl) (by kernel_rfl) (by kernel_rfl) (fun _ _ _ h => h) (Or.inl ⟨by rfl, ?_⟩) hHeld ?_
            rotate_left
            · intro w hSw; (try dsimp only at hSw); go_simp; try (with_reducible rfl)
            try simp only [sq]
            refine wpAnyH_ready (rs := [2]) (by kernel_rfl) (by simp) ?_
            refine AllReadyH.cons rfl (fun K hK => ?_) AllReadyH.nil
            try simp only [sq]
            go_simp
            (first
                | (go_at_call 53; refine (HIDc.out _).mono ?_; rintro e z ⟨rfl, hw⟩; replace hw := hw.symm; subst hw))
            go_wp2_with fail
            refine hK.out _ _ ?_ (fun hHeld => ?_)
            · (repeat' apply And.intro) <;> (repeat (first | with_reducible assumption | with_reducible refine keepdrew ?_ | with_reducible refine keepcell (by with_reducible assumption) ?_ | with_reducible refine keepalloc ?_ _))
            clear hK K
            try simp only [sq]
            refine wpAnyH_take (i := 3) (v := ?_) rfl (by kernel_rfl) (by kernel_rfl) (by kernel_rfl) (fun _ _ _ h => h) (Or.inl ⟨by rfl, ?_⟩) hHeld ?_
            rotate_left
            · intro w hSw; (try dsimp only at hSw); go_simp; try (with_reducible rfl)
            try simp only [sq]
            refine wpAnyH_take (i := 4) (v := ?_) rfl (by kernel_rfl) (by kernel_rfl) (by kernel_rfl) (fun _ _ _ h => h) (Or.inl ⟨by rfl, ?_⟩) hHeld ?_
            rotate_left
            · intro w hSw; (try dsimp only at hSw); go_simp; try (with_reducible rfl)
            try simp only [sq]
            refine wpAnyH_take (i := 5) (v := ?_) rfl (by kernel_rfl) (by kernel_rfl) (by kernel_rfl) (fun _ _ _ h => h) (Or.inl ⟨by rfl, ?_⟩) hHeld ?_
            rotate_left
            · intro w hSw; (try dsimp only at hSw); go_simp; try (with_reducible rfl)
            try simp only [sq]
            refine wpAnyH_take (i := 6) (v := ?_) rfl (by kernel_rfl) (by kernel_rfl) (by kernel_rfl) (fun _ _ _ h => h) (Or.inl ⟨by rfl, ?_⟩) hHeld ?_
            rotate_left
            · intro w hSw; (try dsimp only at hSw); go_simp; try (with_reducible rfl)
            try simp only [sq]
            refine wpAnyH_take (i := 7) (v := ?_) rfl (by kernel_rfl) (by kernel_rfl) (by kernel_rfl) (fun _ _ _ h => h) (Or.inl ⟨by rfl, ?_⟩) hHeld ?_
            rotate_left
            · intro w hSw; (try dsimp only at hSw); go_simp; try (with_reducible rfl)
            try simp only [sq]
            refine wpAnyH_take (i := 8) (v := ?_) rfl (by kernel_rfl) (by kernel_rfl) (by kernel_rfl) (fun _ _ _ h => h) (Or.inl ⟨by rfl, ?_⟩) hHeld ?_
            rotate_left
            · intro w hSw; (try dsimp only at hSw); go_simp; try (with_reducible rfl)
            try simp only [sq]
            refine wpAnyH_take (i := 9) (v := ?_) rfl (by kernel_rfl) (by kernel_rfl) (by kernel_rfl) (fun _ _ _ h => h) (Or.inl ⟨by rfl, ?_⟩) hHeld ?_
            rotate_left
            · intro w hSw; (try dsimp only at hSw); go_simp; try (with_reducible rfl)
            try simp only [sq]
            refine wpAnyH_take (i := 10) (v := ?_) rfl (by kernel_rfl) (by kernel_rfl) (by kernel_rfl) (fun _ _ _ h => h) (Or.inl ⟨by rfl, ?_⟩) hHeld ?_
            rotate_left
            · intro w hSw; (try dsimp only at hSw); go_simp; try (with_reducible rfl)
            try simp only [sq]
            refine wpAnyH_ready (rs := [11]) (by kernel_rfl) (by simp) ?_
            refine AllReadyH.cons rfl (fun K hK => ?_) AllReadyH.nil
            try simp only [sq]
            go_simp
            (first
                | (go_at_call 54; refine (HSO.out _ (bdrew HBX.out)).mono ?_; rintro e z2 ⟨rfl, hz2⟩))
            go_wp2_with fail
            refine hK.out _ _ ?_ (fun hHeld => ?_)
            · (repeat' apply And.intro) <;> (repeat (first | with_reducible assumption | with_reducible refine keepdrew ?_ | with_reducible refine keepcell (by with_reducible assumption) ?_ | with_reducible refine keepalloc ?_ _))
            clear hK K
            try simp only [sq]
            refine wpAnyH_take (i := 12) (v := ?_) rfl (by kernel_rfl) (by kernel_rfl) (by kernel_rfl) (fun _ _ _ h => h) (Or.inl ⟨by rfl, ?_⟩) hHeld ?_
            rotate_left
            · intro w hSw; (try dsimp only at hSw); go_simp; try (with_reducible rfl)
            try simp only [sq]
            refine wpAnyH_take (i := 13) (v := ?_) rfl (by kernel_rfl) (by kernel_rfl) (by kernel_rfl) (fun _ _ _ h => h) (Or.inl ⟨by rfl, ?_⟩) hHeld ?_
            rotate_left
            · intro w hSw; (try dsimp only at hSw); go_simp; try (with_reducible rfl)
            try simp only [sq]
            refine wpAnyH_take (i := 14) (v := ?_) rfl (by kernel_rfl) (by kernel_rfl) (by kernel_rfl) (fun _ _ _ h => h) (Or.inl ⟨by rfl, ?_⟩) hHeld ?_
            rotate_left
            · intro w hSw; (try dsimp only at hSw); go_simp; try (with_reducible rfl)
            try simp only [sq]
            refine wpAnyH_take (i := 15) (v := ?_) rfl (by kernel_rfl) (by kernel_rfl) (by kernel_rfl) (fun _ _ _ h => h) (Or.inl ⟨by rfl, ?_⟩) hHeld ?_
            rotate_left
            · intro w hSw; (try dsimp only at hSw); go_simp; try (with_reducible rfl)
            try simp only [sq]
            refine wpAnyH_take (i := 16) (v := ?_) rfl (by kernel_rfl) (by kernel_rfl) (by kernel_rfl) (fun _ _ _ h => h) (Or.inl ⟨by rfl, ?_⟩) hHeld ?_
            rotate_left
            · intro w hSw; (try dsimp only at hSw); go_simp; try (with_reducible rfl)
            try simp only [sq]
            refine wpAnyH_take (i := 17) (v := ?_) rfl (by kernel_rfl) (by kernel_rfl) (by kernel_rfl) (fun _ _ _ h => h) (Or.inl ⟨by rfl, ?_⟩) hHeld ?_
            rotate_left
            · intro w hSw; (try dsimp only at hSw); go_simp; try (with_reducible rfl)
            try simp only [sq]
            refine wpAnyH_take (i := 18) (v := ?_) rfl (by kernel_rfl) (by kernel_rfl) (by kernel_rfl) (fun _ _ _ h => h) (Or.inl ⟨by rfl, ?_⟩) hHeld ?_
            rotate_left
            · intro w hSw; (try dsimp only at hSw); go_simp; try (with_reducible rfl)
            try simp only [sq]
            refine wpAnyH_take (i := 19) (v := ?_) rfl (by kernel_rfl) (by kernel_rfl) (by kernel_rfl) (fun _ _ _ h => h) (Or.inl ⟨by rfl, ?_⟩) hHeld ?_
            rotate_left
            · intro w hSw; (try dsimp only at hSw); go_simp; try (with_reducible rfl)
            try simp only [sq]
            refine wpAnyH_take (i := 20) (v := ?_) rfl (by kernel_rfl) (by kernel_rfl) (by kernel_rfl) (fun _ _ _ h => h) (Or.inl ⟨by rfl, ?_⟩) hHeld ?_
            rotate_left
            · intro w hSw; (try dsimp only at hSw); go_simp; try (with_reducible rfl)
            try simp only [sq]
            refine wpAnyH_take (i := 21) (v := ?_) rfl (by kernel_rfl) (by kernel_rfl) (by kernel_rfl) (fun _ _ _ h => h) (Or.inl ⟨by rfl, ?_⟩) hHeld ?_
            rotate_left
            · intro w hSw; (try dsimp only at hSw); go_simp; try (with_reducible rfl)
            try simp only [sq]
            refine wpAnyH_take (i := 22) (v := ?_) rfl (by kernel_rfl) (by kernel_rfl) (by kernel_rfl) (fun _ _ _ h => h) (Or.inl ⟨by rfl, ?_⟩) hHeld ?_
            rotate_left
            · intro w hSw; (try dsimp only at hSw); go_simp; try (with_reducible rfl)
            try simp only [sq]
            refine wpAnyH_take (i := 23) (v := ?_) rfl (by kernel_rfl) (by kernel_rfl) (by kernel_rfl) (fun _ _ _ h => h) (Or.inl ⟨by rfl, ?_⟩) hHeld ?_
            rotate_left
            · intro w hSw; (try dsimp only at hSw); go_simp; try (with_reducible rfl)
            try simp only [sq]
            refine wpAnyH_take (i := 24) (v := ?_) rfl (by kernel_rfl) (by kernel_rfl) (by kernel_rfl) (fun _ _ _ h => h) (Or.inl ⟨by rfl, ?_⟩) hHeld ?_
            rotate_left
            · intro w hSw; (try dsimp only at hSw); go_simp; try (with_reducible rfl)
            try simp only [sq]
            refine wpAnyH_take (i := 25) (v := ?_) rfl (by kernel_rfl) (by kernel_rfl) (by kernel_rfl) (fun _ _ _ h => h) (Or.inl ⟨by rfl, ?_⟩) hHeld ?_
            rotate_left
            · intro w hSw; (try dsimp only at hSw); go_simp; try (with_reducible rfl)
            try simp only [sq]
            refine wpAnyH_take (i := 26) (v := ?_) rfl (by kernel_rfl) (by kernel_rfl) (by kernel_rfl) (fun _ _ _ h => h) (Or.inl ⟨by rfl, ?_⟩) hHeld ?_
            rotate_left
            · intro w hSw; (try dsimp only at hSw); go_simp; try (with_reducible rfl)
            try simp only [sq]
            refine wpAnyH_take (i := 27) (v := ?_) rfl (by kernel_rfl) (by kernel_rfl) (by kernel_rfl) (fun _ _ _ h => h) (Or.inl ⟨by rfl, ?_⟩) hHeld ?_
            rotate_left
            · intro w hSw; (try dsimp only at hSw); go_simp; try (with_reducible rfl)
            try simp only [sq]
            refine wpAnyH_take (i := 28) (v := ?_) rfl (by kernel_rfl) (by kernel_rfl) (by kernel_rfl) (fun _ _ _ h => h) (Or.inl ⟨by rfl, ?_⟩) hHeld ?_
            rotate_left
            · intro w hSw; (try dsimp only at hSw); go_simp; try (with_reducible rfl)
            try simp only [sq]
            refine wpAnyH_take (i := 29) (v := ?_) rfl (by kernel_rfl) (by kernel_rfl) (by kernel_rfl) (fun _ _ _ h => h) (Or.inl ⟨by rfl, ?_⟩) hHeld ?_
            rotate_left
            · intro w hSw; (try dsimp only at hSw); go_simp; try (with_reducible rfl)
            try simp only [sq]
            refine wpAnyH_take (i := 30) (v := ?_) rfl (by kernel_rfl) (by kernel_rfl) (by kernel_rfl) (fun _ _ _ h => h) (Or.inl ⟨by rfl, ?_⟩) hHeld ?_
            rotate_left
            · intro w hSw; (try dsimp only at hSw); go_simp; try (with_reducible rfl)
            try simp only [sq]
            refine wpAnyH_done (by kernel_rfl) ?_ _
            go_wp2_with fail
            go_meet
            exact ⟨by rw [HEI.out]; congr 1; by_cases hq : pid < id <;> simp [hq] <;> omega, hid (by show Below _ _ _; (repeat (first | with_reducible exact Below.refl _ _ | with_reducible assumption | (with_reducible refine btrans ?_ (by with_reducible assumption)) | with_reducible refine bdrew ?_ | with_reducible refine balloc ?_ _)))⟩
      case rest =>
        obtain ⟨rfl, HBc⟩ := hcut
        have HG2 := hid (keepheap2 HBc.out HG0.out)
        have HBW2 := hid (btrans HB1.out HBc.out)
        clear x0 x1 x2 x3 d0 d1 d2 gx g0
        cases ei
        · have HF : Hid (tb = false) := hid (by rw [HT.out, HNOI.out rfl]; simp)
          go_wp2_with fail
          go_ret
          exact ⟨by rw [HF.out]; rfl, HBW2.out⟩
        · have HF := hid (HNEXT.out rfl)
          go_wp2_with fail
          go_roundw
          case rel => exact ⟨i + 1, by go_num, by omega, HF, HG2, HBW2⟩
          case measure => simp [intOf]; omega
    · have c1 : (n : Int) ≤ (i : Int) := by omega
      have HF := hid (HYE.out (fun m hm => HA.out m (by have := HN.out; omega)))
      have HT2 : Hid (tb = ((decide (0 ≤ st) && decide (st ≤ now)) && (op || decide (n = 0)))) := hid (by rw [HT.out, HF.out]; simp)
      clear HT HYE HNO HF
      generalize (decide (0 ≤ st) && decide (st ≤ now)) = sb at *
      cases sb
      · go_wp2_with fail
        refine (HIN.out _).mono ?_
        rintro e z ⟨rfl, hw⟩
        replace hw := hw.symm
        subst hw
        go_wp2_with fail
        go_ret
        exact ⟨by rw [HT2.out]; rfl, HBW.out⟩
      · go_wp2_with fail
        refine (HIN.out _).mono ?_
        rintro e z ⟨rfl, hw⟩
        replace hw := hw.symm
        subst hw
        cases op
        · by_cases h3 : n = 0
          · have HF3 : Hid (tb = true) := hid (by rw [HT2.out]; simp [h3])
            have h3' : ((n : Int) == 0) = true := by simp; omega
            clear h3 HT2
            go_wp2_with fail
            go_ret
            exact ⟨by rw [HF3.out]; rfl, HBW.out⟩
          · have HF3 : Hid (tb = false) := hid (by rw [HT2.out]; simp [h3])
            have h3' : ((n : Int) == 0) = false := by simp; omega
            clear h3 HT2
            go_wp2_with fail
            go_ret
            exact ⟨by rw [HF3.out]; rfl, HBW.out⟩
        · have HF3 : Hid (tb = true) := hid (by rw [HT2.out]; simp)
          go_wp2_with fail
          go_ret
          exact ⟨by rw [HF3.out]; rfl, HBW.out⟩
end Go.Proofs.YtehifednpbdokaaGreatDoor
namespace Go.Proofs.YtehifednpbdokaaGreatDoor
open Go.RowKit
set_option linter.unusedSimpArgs false
set_option linter.unusedVariables false
def storeb (now : Int) (rs : List Rw) (ts : List Tx) : Bool := rowsb now rs && (decide (ts.length ≤ 40) && ts.all (txb now))
set_option maxRecDepth 100000 in
set_option maxHeartbeats 4000000 in
theorem impl_StoreOk {N1 N2 : Nat → Prop} (now : Int) (a ta : Option Addr) (cap tcap : Nat) (rs : List Rw) (ts : List Tx) (w : World) (hm : rs.length ≤ 1099511627776) (htm : ts.length ≤ 1099511627776) (hr : Rws N1 w a rs) (ht : Txs N2 1099511627776 w ta ts) : Calls Tryz.prog 74 #[.agg #[.int .i64 now, .slice a rs.length cap, .slice ta ts.length tcap]] w fun e w' => e = .returned (.bool (storeb now rs ts)) ∧ Below w.heap.size w w' := by
  have HRK := hid (fun (W : World) (hb : Below w.heap.size w W) => impl_RowsOk now a cap rs W hm (hr.below hb))
  have HR := hid ht
  clear hr ht
  have HD : Hid (storeb now rs ts = (rowsb now rs && (decide (ts.length ≤ 40) && ts.all (txb now)))) := hid rfl
  have HNO : Hid (∀ i (h : i < ts.length), txb now ts[i] = false → ts.all (txb now) = false) := hid (fun i h e => by rw [List.all_eq_false]; exact ⟨ts[i], List.getElem_mem h, by simp [e]⟩)
  have HYE : Hid ((∀ i (h : i < ts.length), txb now ts[i] = true) → ts.all (txb now) = true) := hid (fun hh => by
    rw [List.all_eq_true]
    intro x hx
    obtain ⟨m, hm1, rfl⟩ := List.mem_iff_getElem.1 hx
    exact hh m hm1)
  generalize storeb now rs ts = sb at *
  generalize rowsb now rs = rb at *
  generalize ts.all (txb now) = tb at *
  generalize rs.length = n at *
  obtain ⟨tn, htn⟩ : ∃ tn, tn = ts.length := ⟨_, rfl⟩
  have HN := hid htn.symm
  rw [← htn] at htm HD ⊢
  clear htn
  have hB0 : Below w.heap.size w (w.alloc (.cells #[.int .i64 now, .slice a n cap, .slice ta tn tcap] 39)) := balloc (Below.refl _ _) _
  have g0 := new_alloc w w.heap.size (.cells #[.int .i64 now, .slice a n cap, .slice ta tn tcap] 39) rfl
  go_enter Tryz.func74, Tryz.ntmps74
  go_upto_region 1 with fail
  generalize w.alloc (.cells #[.int .i64 now, .slice a n cap, .slice ta tn tcap] 39) = W0 at *
  obtain ⟨⟨d0, d1, d2⟩, _⟩ := cellk3 g0
  by_cases h4 : 40 < tn
  · have h4' : (40 : Int) < (tn : Int) := by omega
    have HF : Hid (sb = false) := hid (by rw [HD.out, show decide (tn ≤ 40) = false by simpa using h4]; simp)
    clear h4
    go_wp2_with fail
    go_ret
    exact ⟨by rw [HF.out]; rfl, hB0⟩
  have h4' : (tn : Int) ≤ 40 := by omega
  have HD2 : Hid (sb = (rb && tb)) := hid (by rw [HD.out, show decide (tn ≤ 40) = true by simpa using h4]; simp)
  clear h4 HD
  go_wp2_with fail
  refine (HRK.out _ hB0).mono ?_
  rintro e W1 ⟨rfl, hz⟩
  have g1 := keepheap2 hz g0
  have hB1 := btrans hB0 hz
  clear g0 hB0 hz d0 d1 d2 HRK
  obtain ⟨⟨d0, d1, d2⟩, _⟩ := cellk3 g1
  cases rb
  · have HF : Hid (sb = false) := hid (by rw [HD2.out]; rfl)
    go_wp2_with fail
    go_ret
    exact ⟨by rw [HF.out]; rfl, hB1⟩
  have HD3 : Hid (sb = tb) := hid (by rw [HD2.out]; rfl)
  clear HD2
  go_wp2_with fail
  clear d0 d1 d2
  go_loopw [18] (fun ti wr => ∃ i : Nat, ti = .int .i64 i ∧ i ≤ tn ∧ Hid (∀ m (h : m < ts.length), m < i → txb now ts[m] = true) ∧ Hid (wr.heap[w.heap.size]? = some (.cells #[.int .i64 now, .slice a n cap, .slice ta tn tcap] 39 (0, 0))) ∧ Hid (Below w.heap.size w wr)) (fun ti _ => tn - (intOf ti).toNat)
  case atStart => exact ⟨0, rfl, Nat.zero_le _, hid (fun m h hh => absurd hh (by omega)), hid g1, hid hB1⟩
  case round =>
    clear g1 hB1
    obtain ⟨i, rfl, hi, HA, G1, HBW⟩ := hrel
    by_cases hlt : i < tn
    · have c1 : (i : Int) < (tn : Int) := by omega
      have hir : i < ts.length := by rw [HN.out]; exact hlt
      obtain ⟨b, o, rfl, hbs, a', cap', k0, k1, q1, q2, q3, q4, _⟩ := (HR.out.below HBW.out).at i hir
      have HX := hid (fun (W : World) (hb : Below wr.heap.size wr W) => impl_txRight now ts[i] a' cap' W q3 (q4.below hb))
      have HNOI := hid (HNO.out i hir)
      have HNEXT : Hid (txb now ts[i] = true → ∀ m (h : m < ts.length), m < i + 1 → txb now ts[m] = true) := hid (fun e1 m h hm => by
        by_cases e : m = i
        · subst e; exact e1
        · exact HA.out m h (by omega))
      unfold txv at HX
      clear q2 q3 q4
      generalize txb now ts[i] = xb at HX HNOI HNEXT
      generalize ts[i].1 = st at *
      generalize ts[i].2.1 = op at *
      generalize ts[i].2.2.length = np at *
      go_upto_region 6 with fail
      have hBx : Below wr.heap.size wr (wr.alloc (.cells #[.int .i64 st, .bool op, .slice a' np cap'] 84)) := balloc (Below.refl _ _) _
      have gx := new_alloc wr wr.heap.size (.cells #[.int .i64 st, .bool op, .slice a' np cap'] 84) rfl
      have g1 := keepheap2 hBx G1.out
      have HX1 := hid (HX.out _ hBx)
      have HB1 := hid (btrans HBW.out hBx)
      have HG1 := hid g1
      clear hBx k0 k1 q1 HX
      generalize wr.alloc (.cells #[.int .i64 st, .bool op, .slice a' np cap'] 84) = W2 at *
      generalize wr.heap.size = X at *
      obtain ⟨⟨x0, x1, x2⟩, _⟩ := cellk3 gx
      obtain ⟨⟨d0, d1, d2⟩, _⟩ := cellk3 g1
      clear gx g1
      go_wp2_with fail
      refine HX1.out.mono ?_
      rintro e z ⟨rfl, hz⟩
      have HBz := hid (btrans HB1.out hz)
      have HGz := hid (keepheap2 hz HG1.out)
      clear hz x0 x1 x2 d0 d1 d2
      cases xb
      · have HF : Hid (sb = false) := hid (by rw [HD3.out, HNOI.out rfl])
        go_wp2_with fail
        go_ret
        exact ⟨by rw [HF.out]; rfl, HBz.out⟩
      · have HF := hid (HNEXT.out rfl)
        go_wp2_with fail
        go_roundw
        case rel => exact ⟨i + 1, by go_num, by omega, HF, HGz, HBz⟩
        case measure => simp [intOf]; omega
    · have c1 : (tn : Int) ≤ (i : Int) := by omega
      have HF : Hid (sb = true) := hid (by rw [HD3.out]; exact HYE.out (fun m hm1 => HA.out m hm1 (by have := HN.out; omega)))
      go_wp2_with fail
      go_ret
      exact ⟨by rw [HF.out]; rfl, HBW.out⟩
set_option maxRecDepth 100000 in
set_option maxHeartbeats 4000000 in
theorem spec_StoreOk {N1 N2 : Nat → Prop} (now : Int) (a ta : Option Addr) (cap tcap : Nat) (rs : List Rw) (ts : List Tx) (w : World) (hm : rs.length ≤ 1099511627776) (htm : ts.length ≤ 1099511627776) (hr : Rws N1 w a rs) (ht : Txs N2 1099511627776 w ta ts) : Calls Tryz.prog 68 #[.agg #[.int .i64 now, .slice a rs.length cap, .slice ta ts.length tcap]] w fun e w' => e = .returned (.bool (storeb now rs ts)) ∧ Below w.heap.size w w' := by
  have HRK := hid (fun (W : World) (hb : Below w.heap.size w W) => spec_RowsOk now a cap rs W hm (hr.below hb))
  have HR := hid ht
  clear hr ht
  have HD : Hid (storeb now rs ts = (rowsb now rs && (decide (ts.length ≤ 40) && ts.all (txb now)))) := hid rfl
  have HNO : Hid (∀ i (h : i < ts.length), txb now ts[i] = false → ts.all (txb now) = false) := hid (fun i h e => by rw [List.all_eq_false]; exact ⟨ts[i], List.getElem_mem h, by simp [e]⟩)
  have HYE : Hid ((∀ i (h : i < ts.length), txb now ts[i] = true) → ts.all (txb now) = true) := hid (fun hh => by
    rw [List.all_eq_true]
    intro x hx
    obtain ⟨m, hm1, rfl⟩ := List.mem_iff_getElem.1 hx
    exact hh m hm1)
  generalize storeb now rs ts = sb at *
  generalize rowsb now rs = rb at *
  generalize ts.all (txb now) = tb at *
  generalize rs.length = n at *
  obtain ⟨tn, htn⟩ : ∃ tn, tn = ts.length := ⟨_, rfl⟩
  have HN := hid htn.symm
  rw [← htn] at htm HD ⊢
  clear htn
  have hB0 : Below w.heap.size w (w.alloc (.cells #[.int .i64 now, .slice a n cap, .slice ta tn tcap] 39)) := balloc (Below.refl _ _) _
  have g0 := new_alloc w w.heap.size (.cells #[.int .i64 now, .slice a n cap, .slice ta tn tcap] 39) rfl
  go_enter Tryz.func68, Tryz.ntmps68
  go_upto_region 1 with fail
  generalize w.alloc (.cells #[.int .i64 now, .slice a n cap, .slice ta tn tcap] 39) = W0 at *
  obtain ⟨⟨d0, d1, d2⟩, _⟩ := cellk3 g0
  go_wp2_with fail
  refine (HRK.out _ hB0).mono ?_
  rintro e W1 ⟨rfl, hz⟩
  have g1 := keepheap2 hz g0
  have hB1 := btrans hB0 hz
  clear g0 hB0 hz d0 d1 d2 HRK
  obtain ⟨⟨d0, d1, d2⟩, _⟩ := cellk3 g1
  cases rb
  · have HF : Hid (sb = false) := hid (by rw [HD.out]; rfl)
    go_wp2_with fail
    go_ret
    exact ⟨by rw [HF.out]; rfl, hB1⟩
  by_cases h4 : 40 < tn
  · have h4' : (40 : Int) < (tn : Int) := by omega
    have HF : Hid (sb = false) := hid (by rw [HD.out, show decide (tn ≤ 40) = false by simpa using h4]; simp)
    clear h4
    go_wp2_with fail
    go_ret
    exact ⟨by rw [HF.out]; rfl, hB1⟩
  have h4' : (tn : Int) ≤ 40 := by omega
  have HD3 : Hid (sb = tb) := hid (by rw [HD.out, show decide (tn ≤ 40) = true by simpa using h4]; simp)
  clear h4 HD
  go_wp2_with fail
  clear d0 d1 d2
  go_loopw [3] (fun ti wr => ∃ i : Nat, ti = .int .i64 i ∧ i ≤ tn ∧ Hid (∀ m (h : m < ts.length), m < i → txb now ts[m] = true) ∧ Hid (wr.heap[w.heap.size]? = some (.cells #[.int .i64 now, .slice a n cap, .slice ta tn tcap] 39 (0, 0))) ∧ Hid (Below w.heap.size w wr)) (fun ti _ => tn - (intOf ti).toNat)
  case atStart => exact ⟨0, rfl, Nat.zero_le _, hid (fun m h hh => absurd hh (by omega)), hid g1, hid hB1⟩
  case round =>
    clear g1 hB1
    obtain ⟨i, rfl, hi, HA, G1, HBW⟩ := hrel
    obtain ⟨⟨d0, d1, d2⟩, _⟩ := cellk3 G1.out
    by_cases hlt : i < tn
    · have c1 : (i : Int) < (tn : Int) := by omega
      have hir : i < ts.length := by rw [HN.out]; exact hlt
      obtain ⟨b, o, rfl, hbs, a', cap', k0, k1, q1, q2, q3, q4, _⟩ := (HR.out.below HBW.out).at i hir
      have HX := hid (fun (W : World) (hb : Below wr.heap.size wr W) => spec_tx now ts[i] a' cap' W q3 (q4.below hb))
      have HNOI := hid (HNO.out i hir)
      have HNEXT : Hid (txb now ts[i] = true → ∀ m (h : m < ts.length), m < i + 1 → txb now ts[m] = true) := hid (fun e1 m h hm => by
        by_cases e : m = i
        · subst e; exact e1
        · exact HA.out m h (by omega))
      unfold txv at HX
      clear q2 q3 q4
      generalize txb now ts[i] = xb at HX HNOI HNEXT
      generalize ts[i].1 = st at *
      generalize ts[i].2.1 = op at *
      generalize ts[i].2.2.length = np at *
      go_wp2_with fail
      go_region_held3 (fun w' => w'.cell? ⟨w.heap.size, 0, none⟩ = some (.int .i64 now) ∧ w'.cell? ⟨w.heap.size, 2, none⟩ = some (.slice (some ⟨b, o, none⟩) tn tcap) ∧ w'.cell? ⟨b, o + i * 3, none⟩ = some (.int .i64 st) ∧ w'.cell? ⟨b, o + i * 3 + 1, none⟩ = some (.bool op) ∧ w'.cell? ⟨b, o + i * 3 + 2, none⟩ = some (.slice a' np cap')) ((go_split_ands; (repeat' apply And.intro) <;> (repeat (first | with_reducible assumption | with_reducible refine keepset3 ?_ (by dsimp only; omega) | with_reducible refine keepdrew ?_ | with_reducible refine keepcell (by with_reducible assumption) ?_ | with_reducible refine keepalloc ?_ _))))
        (first
          | (go_at_call 110; refine (HX.out _ (bdrew (Below.refl _ _))).mono ?_; rintro e z ⟨rfl, hz⟩))
      have HBz := hid (btrans HBW.out (btrans (bdrew (Below.refl _ _)) hz))
      have HGz := hid (keepheap2 (btrans (bdrew (Below.refl _ _)) hz) G1.out)
      clear hz k0 k1 q1 d0 d1 d2
      cases xb
      · have HF : Hid (sb = false) := hid (by rw [HD3.out, HNOI.out rfl])
        go_wp2_with fail
        go_ret
        exact ⟨by rw [HF.out]; rfl, HBz.out⟩
      · have HF := hid (HNEXT.out rfl)
        go_wp2_with fail
        go_roundw
        case rel => exact ⟨i + 1, by go_num, by omega, HF, HGz, HBz⟩
        case measure => simp [intOf]; omega
    · have c1 : (tn : Int) ≤ (i : Int) := by omega
      have HF : Hid (sb = true) := hid (by rw [HD3.out]; exact HYE.out (fun m hm1 => HA.out m hm1 (by have := HN.out; omega)))
      go_wp2_with fail
      go_ret
      exact ⟨by rw [HF.out]; rfl, HBW.out⟩
set_option maxHeartbeats 1000000 in
theorem sz_store {N : Nat → Prop} (now : Int) (a ta : Option Addr) (cap tcap : Nat) (rs : List Rw) (ts : List Tx) (w : World) (hm : rs.length ≤ 9223372036854775807) (htm : ts.length ≤ 9223372036854775807) (hr : RwsL w a rs) (ht : Txs N 9223372036854775807 w ta ts) : Calls Tryz.prog 8 #[.agg #[.int .i64 now, .slice a rs.length cap, .slice ta ts.length tcap], .int .i64 1048576] w fun e w' => (∃ v : Int, e = .returned (.int .i64 v) ∧ (v = -1 ∨ (0 ≤ v ∧ v ≤ 1048576 ∧ Hid ((rs.length ≤ 1048576 ∧ ∀ m (h : m < rs.length), rs[m].2.2.2.2.length ≤ 1048576) ∧ txS ts)))) ∧ Below w.heap.size w w' := by
  have HR := hid (fun (W : World) (hb : Below w.heap.size w W) => sz_allL now a cap rs W hm (hr.below hb))
  have HT := hid (fun (W : World) (hb : Below w.heap.size w W) (l : Int) (h0 : 0 ≤ l) (h1 : l ≤ 1048576) => sz_txs ta tcap ts l W htm h0 h1 (ht.below hb))
  clear hr ht
  obtain ⟨G, hG⟩ : ∃ G : Prop, G = (rs.length ≤ 1048576 ∧ ∀ m (h : m < rs.length), rs[m].2.2.2.2.length ≤ 1048576) := ⟨_, rfl⟩
  obtain ⟨K, hK⟩ : ∃ K : Prop, K = txS ts := ⟨_, rfl⟩
  rw [← hG] at HR ⊢
  rw [← hK] at HT ⊢
  clear hG hK
  generalize rs.length = n at *
  generalize ts.length = tn at *
  have hB0 : Below w.heap.size w (w.alloc (.cells #[.int .i64 now, .slice a n cap, .slice ta tn tcap] 27)) := balloc (Below.refl _ _) _
  have g0 := new_alloc w w.heap.size (.cells #[.int .i64 now, .slice a n cap, .slice ta tn tcap] 27) rfl
  go_enter Tryz.func8, Tryz.ntmps8
  go_upto_region 1 with fail
  generalize w.alloc (.cells #[.int .i64 now, .slice a n cap, .slice ta tn tcap] 27) = W0 at *
  obtain ⟨⟨d0, d1, d2⟩, _⟩ := cellk3 g0
  go_wp2_with fail
  refine (HR.out _ hB0).mono ?_
  rintro e w1 ⟨⟨v, rfl, hv⟩, hb⟩
  have g1 := keepheap2 hb g0
  have hB := btrans hB0 hb
  clear g0 hB0 hb d0 d1 d2
  obtain ⟨⟨d0, d1, d2⟩, _⟩ := cellk3 g1
  rcases hv with rfl | ⟨hv0, hv1, HV⟩
  · go_wp2_with fail
    go_ret
    exact ⟨⟨_, rfl, .inl rfl⟩, hB⟩
  have hv2 : ¬ v < 0 := by omega
  go_wp2_with fail
  refine (HT.out _ hB v hv0 hv1).mono ?_
  rintro e w2 ⟨⟨u, rfl, hu⟩, hb⟩
  have hB2 := btrans hB hb
  clear hb d0 d1 d2
  rcases hu with rfl | ⟨hu0, hu1, HU⟩
  · go_wp2_with fail
    go_ret
    exact ⟨⟨_, rfl, .inl rfl⟩, hB2⟩
  · have hu2 : ¬ u < 0 := by omega
    go_wp2_with fail
    go_ret
    exact ⟨⟨_, rfl, .inr ⟨hu0, hu1, hid ⟨HV.out, HU.out⟩⟩⟩, hB2⟩
set_option maxHeartbeats 1000000 in
theorem eq_store {N1 N2 N3 N4 : Nat → Prop} (now : Int) (a1 a2 t1 t2 : Option Addr) (c1 c2 e1 e2 : Nat) (rs : List Rw) (ts : List Tx) (w : World) (hm : rs.length ≤ 1099511627776) (htm : ts.length ≤ 1099511627776) (r1 : Rws N1 w a1 rs) (r2 : Rws N2 w a2 rs) (x1 : Txs N3 1099511627776 w t1 ts) (x2 : Txs N4 1099511627776 w t2 ts) : Calls Tryz.prog 13 #[.agg #[.int .i64 now, .slice a1 rs.length c1, .slice t1 ts.length e1], .agg #[.int .i64 now, .slice a2 rs.length c2, .slice t2 ts.length e2]] w fun e w' => e = .returned (.bool true) ∧ Below w.heap.size w w' := by
  have HR := hid (fun (W : World) (hb : Below w.heap.size w W) => eq_rows now a1 a2 c1 c2 rs W hm (r1.below hb) (r2.below hb))
  have HT := hid (fun (W : World) (hb : Below w.heap.size w W) => eq_txs t1 t2 e1 e2 ts W htm (x1.below hb) (x2.below hb))
  clear r1 r2 x1 x2
  generalize rs.length = n at *
  generalize ts.length = tn at *
  have hB0 : Below w.heap.size w ((w.alloc (.cells #[.int .i64 now, .slice a1 n c1, .slice t1 tn e1] 39)).alloc (.cells #[.int .i64 now, .slice a2 n c2, .slice t2 tn e2] 39)) := balloc (balloc (Below.refl _ _) _) _
  have g0 := old_alloc (o' := .cells #[.int .i64 now, .slice a2 n c2, .slice t2 tn e2] 39) (new_alloc w w.heap.size (.cells #[.int .i64 now, .slice a1 n c1, .slice t1 tn e1] 39) rfl)
  have g1 := new_alloc (w.alloc (.cells #[.int .i64 now, .slice a1 n c1, .slice t1 tn e1] 39)) (w.heap.size + 1) (.cells #[.int .i64 now, .slice a2 n c2, .slice t2 tn e2] 39) (by simp)
  go_enter Tryz.func13, Tryz.ntmps13
  go_upto_region 1 with fail
  generalize (w.alloc (.cells #[.int .i64 now, .slice a1 n c1, .slice t1 tn e1] 39)).alloc (.cells #[.int .i64 now, .slice a2 n c2, .slice t2 tn e2] 39) = W0 at *
  obtain ⟨⟨d0, d1, d2⟩, _⟩ := cellk3 g0
  obtain ⟨⟨f0, f1, f2⟩, _⟩ := cellk3 g1
  go_wp2_with fail
  refine (HR.out _ hB0).mono ?_
  rintro e w1 ⟨rfl, hb⟩
  replace g0 := keepheap2 hb g0
  replace g1 := keepheap2 hb g1
  have hB := btrans hB0 hb
  clear hB0 hb d0 d1 d2 f0 f1 f2
  obtain ⟨⟨d0, d1, d2⟩, _⟩ := cellk3 g0
  obtain ⟨⟨f0, f1, f2⟩, _⟩ := cellk3 g1
  go_wp2_with fail
  refine (HT.out _ hB).mono ?_
  rintro e w2 ⟨rfl, hb⟩
  go_wp2_with fail
  go_ret
  exact ⟨rfl, btrans hB hb⟩
end Go.Proofs.YtehifednpbdokaaGreatDoor
