import Derived.Test.YtkdoigibpaempaaGreatDoorUd
import Derived.Test.YtkdoigibpaempaaGreatDoorJ25
import Derived.Test.YtkdoigibpaempaaGreatDoorTg
import Derived.Test.YtkdoigibpaempaaGreatDoorJ19
import Derived.Test.YtkdoigibpaempaaGreatDoorJ22
set_option linter.unusedSimpArgs false
set_option linter.unusedVariables false
namespace Go.Proofs.YtkdoigibpaempaaGreatDoor
open Go.RowKit
theorem storeb_rows {now : Int} {rs : List Rw} {ts : List Tx} (h : storeb now rs ts = true) : rowsb now rs = true := by
  unfold storeb at h
  simp only [Bool.and_eq_true] at h
  first | exact h.1.2 | exact h.2.1 | exact h.1.1 | exact h.1 | exact h.2
theorem ssn_mk2 {w w' : World} {now n n' now' : Int} {rs : List Rw} {ts ts' : List Tx} {a ta : Option Addr} {c tcc nr nt b1 u1 b2 u2 : Nat} (e1 : ts = ts') (e2 : n = n') (h1 : rs.length = nr) (h2 : ts'.length = nt) (e3 : now = now') (x1 : LC KR b1 u1 w' (.slice a nr c) rs) (x2 : LC KT b2 u2 w' (.slice ta nt tcc) ts') (hl : txL ts') (hb : Below w.heap.size w w') : SSN w now rs ts n (.returned (.tuple #[.agg #[.int .i64 now', .slice a nr c, .slice ta nt tcc], .int .i64 n'])) w' := by
  subst e3
  exact ssn_mk e1 e2 h1 h2 x1 x2 hl hb
theorem set_heap_same {z1 z2 : World} {g k : Nat} {v : Value} (h : z1.heap[g]? = z2.heap[g]?) : (z1.setCell ⟨g, k, none⟩ v).heap[g]? = (z2.setCell ⟨g, k, none⟩ v).heap[g]? := by
  simp only [World.setCell, Array.getElem?_modify, if_true, h]
theorem LC.rb_but {base hi g cap m Q : Nat} {w wf : World} {ts : List Tx} {t : TypeId} (h : LC KT base hi w (.slice (some ⟨g, 0, none⟩) ts.length cap) ts) (hm : m < ts.length) (hQ : hi ≤ Q) (hQ1 : Q < w.heap.size)
    (q : ∀ b, b ≠ Q → base ≤ b → b < w.heap.size + 1 → wf.heap[b]? = (((w.setCell ⟨g, m * 3 + 1, none⟩ (.bool false)).alloc (.cells #[] t)).setCell ⟨g, m * 3 + 2, none⟩ (.slice (some ⟨w.heap.size, 0, none⟩) 0 0)).heap[b]?) (hs : w.heap.size + 1 ≤ wf.heap.size) : LC KT base (w.heap.size + 1) wf (.slice (some ⟨g, 0, none⟩) ts.length cap) (ts.set m (ts[m].1, false, [])) := by
  obtain ⟨_, _, _, _, hg1, hg2⟩ := h.cells3 hm
  have hQf : Q < wf.heap.size := by omega
  obtain ⟨z, hz⟩ : ∃ z : World, z = { w with heap := w.heap.set Q wf.heap[Q] hQ1 } := ⟨_, rfl⟩
  have hzs : z.heap.size = w.heap.size := by rw [hz]; simp
  have hzQ : z.heap[Q]? = wf.heap[Q]? := by rw [hz]; simp [hQ1, hQf]
  have hzo : ∀ b, b ≠ Q → z.heap[b]? = w.heap[b]? := fun b hb => by rw [hz]; simp only [Array.getElem?_set]; rw [if_neg (fun e => hb e.symm)]
  clear hz
  have h2 := (h.frame (w' := z) (fun b h1 h2 => hzo b (by omega)) (by omega)).rb (t := t) hm
  rw [hzs] at h2
  have hfar : ∀ (y : World), ∀ b, b < y.heap.size → b ≠ g → (((y.setCell ⟨g, m * 3 + 1, none⟩ (.bool false)).alloc (.cells #[] t)).setCell ⟨g, m * 3 + 2, none⟩ (.slice (some ⟨w.heap.size, 0, none⟩) 0 0)).heap[b]? = y.heap[b]? := fun y b h1 h2 => by
    rw [Below.heap_setCell _ _ _ _ (by dsimp only; omega), (balloc (Below.refl (y.setCell ⟨g, m * 3 + 1, none⟩ (.bool false)).heap.size _) (.cells #[] t)).block b (by simp; omega), Below.heap_setCell _ _ _ _ (by dsimp only; omega)]
  refine h2.frame (fun b h1 h3 => ?_) (by simp; omega)
  by_cases e1 : b = Q
  · subst e1
    rw [hfar z b (by omega) (by omega), hzQ]
  · rw [q b e1 h1 h3]
    by_cases e2 : b = g
    · subst e2
      refine set_heap_same ?_
      have k1 := (balloc (Below.refl (w.setCell ⟨b, m * 3 + 1, none⟩ (.bool false)).heap.size _) (.cells #[] t)).block b (by simp; omega)
      have k2 := (balloc (Below.refl (z.setCell ⟨b, m * 3 + 1, none⟩ (.bool false)).heap.size _) (.cells #[] t)).block b (by simp; omega)
      rw [k1, k2]
      exact set_heap_same (hzo b e1).symm
    · by_cases e3 : b = w.heap.size
      · rw [Below.heap_setCell _ _ _ _ (by dsimp only; omega), Below.heap_setCell _ _ _ _ (by dsimp only; omega)]
        subst e3
        rw [new_alloc (w.setCell ⟨g, m * 3 + 1, none⟩ (.bool false)) w.heap.size (.cells #[] t) (by simp), new_alloc (z.setCell ⟨g, m * 3 + 1, none⟩ (.bool false)) w.heap.size (.cells #[] t) (by simp [hzs])]
      · rw [hfar w b (by omega) e2, hfar z b (by omega) e2, hzo b e1]
theorem lc_ch0 {base hi g n cap i : Nat} {w : World} {cs : List Ch} (h : LC KC base hi w (.slice (some ⟨g, 0, none⟩) n cap) cs) (hi' : i < cs.length) : w.cell? ⟨g, i * 4, none⟩ = some (.int .i64 cs[i].1) := by
  obtain ⟨_, ⟨h0, _⟩ | ⟨g2, cap2, ss, lo, up, h1, _, _, _, _, h6, _⟩⟩ := h
  · rw [h0] at hi'; simp at hi'
  · cases h1
    exact (h6 i hi').1.1 0 (by decide)
theorem setk2 {w : World} {p : Nat} {u0 u1 u2 : Value} {t : TypeId} (h : w.heap[p]? = some (.cells #[u0, u1, u2] t (0, 0))) (v0 v1 : Value) : ((w.setCell ⟨p, 0, none⟩ v0).setCell ⟨p, 1, none⟩ v1).heap[p]? = some (.cells #[v0, v1, u2] t (0, 0)) := set_at (k := 1) (u := v1) (set_at (k := 0) (u := v0) h)
set_option maxRecDepth 100000 in
set_option maxHeartbeats 8000000 in
theorem spec_Commit {N1 N2 : Nat → Prop} (now n : Int) (B D : Nat) (rs : List Rw) (ts : List Tx) (w : World) (hm : rs.length ≤ 1099511627776) (htm : ts.length ≤ 1099511627776) (hcl : ∀ m (h : m < ts.length), ts[m].2.2.length ≤ 1048576) (hr : RwsS w B rs) (hrr : Rws N1 w (some ⟨B, 0, none⟩) rs) (ht : TxsS w D ts) (htt : Txs N2 1099511627776 w (some ⟨D, 0, none⟩) ts) : Calls Tryz.prog 5 #[.agg #[.int .i64 now, .slice (some ⟨B, 0, none⟩) rs.length rs.length, .slice (some ⟨D, 0, none⟩) ts.length ts.length], .int .i64 n] w fun e w' => SSN w (cmW now rs ts n) (cmR now rs ts n) (rbT now rs ts n) (cmN now rs ts n) e w' := by
  have HCP := hid (fun (W : World) (hb : Below w.heap.size w W) => spec_copyStoreL now B D ts.length rs ts W hm htm (hr.below hb) (ht.below hb))
  have HOK := hid (fun (W : World) (hb : Below w.heap.size w W) => spec_open now (some ⟨B, 0, none⟩) (some ⟨D, 0, none⟩) rs.length ts.length rs ts n W hm htm (hrr.below hb) (htt.below hb))
  have HTL : Hid (txL ts) := hid (fun j (hj : j < ts.length) => (ht.2 j hj).choose_spec.choose_spec.2.2.1)
  have HNO := hid (@cm_no now rs ts n)
  have HYE : Hid (opn now rs ts n = true → ∃ (m : Nat) (hmt : m < ts.length), n = (m : Int) ∧ rbT now rs ts n = ts.set m (ts[m].1, false, []) ∧ rowsb now rs = true ∧ (cmN now rs ts n = cmc now rs ts[m].2.2 ts[m].1) ∧ (cmd now rs ts[m].2.2 ts[m].1 = false → cmR now rs ts n = rs ∧ cmW now rs ts n = now) ∧ (cmd now rs ts[m].2.2 ts[m].1 = true → cmR now rs ts n = apl (now + 1) rs ts[m].2.2 ∧ cmW now rs ts n = now + 1)) := hid (fun h => by
    obtain ⟨m, rfl, hmt, h1, _⟩ := opn_at h
    obtain ⟨e1, e2⟩ := rb_yes hmt h
    have hy : cmY now rs ts (m : Int) = cmd now rs ts[m].2.2 ts[m].1 := by unfold cmY; rw [h, txn_at hmt]; rfl
    refine ⟨m, hmt, rfl, e1, storeb_rows h1, cmN_yes hmt h, fun q => ?_, fun q => ?_⟩
    · unfold cmR cmW; rw [hy, q]; exact ⟨rfl, rfl⟩
    · unfold cmR cmW; rw [hy, q, txn_at hmt]; exact ⟨rfl, rfl⟩)
  have HTX : Hid (∀ (m : Nat) (hmt : m < ts.length), ∃ cb cp, w.cell? ⟨D, m * 3, none⟩ = some (.int .i64 ts[m].1) ∧ w.cell? ⟨D, m * 3 + 2, none⟩ = some (.slice (some ⟨cb, 0, none⟩) ts[m].2.2.length cp) ∧ ts[m].2.2.length ≤ 1099511627776 ∧ ChsS w cb ts[m].2.2) := hid (fun m hmt => by
    obtain ⟨cb, cp, _, ⟨q0, _, q2⟩, q3, q4⟩ := ht.2 m hmt
    exact ⟨cb, cp, q0, q2, q3, q4⟩)
  have HTO := hid (fun (id since : Int) (W : World) (hb : Below w.heap.size w W) => spec_Touched now (some ⟨B, 0, none⟩) rs.length rs id since W hm (hrr.below hb))
  have HAP := hid (fun (N' : Nat → Prop) (cs : List Ch) (ca : Option Addr) (cc : Nat) (W : World) (hl : cs.length ≤ 1048576) (hb : Below w.heap.size w W) (hC : Chs N' 1099511627776 W ca cs) => (spec_Apply now B rs ca cc cs W hm (hr.below hb) (hrr.below hb) hl hC).mono (fun e w' h => APR.form h))
  unfold APS at HAP
  clear hr hrr ht htt
  generalize rbT now rs ts n = bt at *
  generalize cmN now rs ts n = bn at *
  generalize cmR now rs ts n = br at *
  generalize cmW now rs ts n = bw at *
  generalize opn now rs ts n = op at *
  obtain ⟨nr, hnr⟩ : ∃ x, x = rs.length := ⟨_, rfl⟩
  obtain ⟨nt, hnt⟩ : ∃ x, x = ts.length := ⟨_, rfl⟩
  have HNR := hid hnr.symm
  have HNT := hid hnt.symm
  rw [← hnr, ← hnt] at HCP HOK
  rw [← hnr] at HTO HAP
  rw [← hnr, ← hnt]
  clear hnr hnt
  have hB : Below w.heap.size w ((w.alloc (.cells #[.int .i64 now, .slice (some ⟨B, 0, none⟩) nr nr, .slice (some ⟨D, 0, none⟩) nt nt] 34)).alloc (.cells #[.int .i64 0, .slice none 0 0, .slice none 0 0] 34)) := balloc (balloc (Below.refl _ _) _) _
  have gP := old_alloc (o' := .cells #[.int .i64 0, .slice none 0 0, .slice none 0 0] 34) (new_alloc w w.heap.size (.cells #[.int .i64 now, .slice (some ⟨B, 0, none⟩) nr nr, .slice (some ⟨D, 0, none⟩) nt nt] 34) rfl)
  have gZ := new_alloc (w.alloc (.cells #[.int .i64 now, .slice (some ⟨B, 0, none⟩) nr nr, .slice (some ⟨D, 0, none⟩) nt nt] 34)) (w.heap.size + 1) (.cells #[.int .i64 0, .slice none 0 0, .slice none 0 0] 34) (by simp)
  have hWs : w.heap.size + 1 < ((w.alloc (.cells #[.int .i64 now, .slice (some ⟨B, 0, none⟩) nr nr, .slice (some ⟨D, 0, none⟩) nt nt] 34)).alloc (.cells #[.int .i64 0, .slice none 0 0, .slice none 0 0] 34)).heap.size := by simp
  go_enter Tryz.func5, Tryz.ntmps5
  go_upto_region 1 with fail
  generalize (w.alloc (.cells #[.int .i64 now, .slice (some ⟨B, 0, none⟩) nr nr, .slice (some ⟨D, 0, none⟩) nt nt] 34)).alloc (.cells #[.int .i64 0, .slice none 0 0, .slice none 0 0] 34) = W at *
  obtain ⟨⟨d0, d1, d2⟩, _⟩ := cellk3 gP
  go_wp2_with fail
  refine (HCP.out _ hB).mono ?_
  rintro e y ⟨a, c, ta, tcc, b1, u1, b2, u2, rfl, ⟨hx1, px, hx2⟩, hu, hu2, e1, e2, hy⟩
  replace gP := keepheapA hy gP
  replace gZ := keepheapA hy gZ
  replace hB := btrans hB hy
  have hyz := hy.size
  have HX1 := hid hx1
  have HX2 := hid hx2.lc
  have hq1 := hx1.1
  have hq2 := hx2.2.2.2.1
  clear hy hx1 hx2 HCP d0 d1 d2
  go_upto_region 2 with fail
  have hal : Below y.heap.size y (y.alloc (.cells #[.int .i64 now, .slice a nr c, .slice ta nt tcc] 34)) := balloc (Below.refl _ _) _
  have gQ := new_alloc y y.heap.size (.cells #[.int .i64 now, .slice a nr c, .slice ta nt tcc] 34) rfl
  replace gP := keepheapA hal gP
  replace gZ := keepheapA hal gZ
  replace hB := btrans hB hal
  replace HX1 := hid (HX1.out.below hal)
  replace HX2 := hid (HX2.out.below hal)
  have hyq : (y.alloc (.cells #[.int .i64 now, .slice a nr c, .slice ta nt tcc] 34)).heap.size = y.heap.size + 1 := by simp
  have hyq1 := Nat.le_of_eq hyq
  have hyq2 := Nat.le_of_eq hyq.symm
  clear hal hyq
  generalize y.alloc (.cells #[.int .i64 now, .slice a nr c, .slice ta nt tcc] 34) = Y at *
  generalize W.heap.size = Wz at *
  generalize y.heap.size = Q at *
  obtain ⟨⟨d0, d1, d2⟩, _⟩ := cellk3 gP
  go_wp2_with fail
  refine (HOK.out _ hB).mono ?_
  rintro e z ⟨rfl, hz⟩
  replace gP := keepheapA hz gP
  replace gZ := keepheapA hz gZ
  replace gQ := keepheapA hz gQ
  replace hB := btrans hB hz
  have hzz := hz.size
  replace HX1 := hid (HX1.out.below hz)
  replace HX2 := hid (HX2.out.below hz)
  clear hz d0 d1 d2 HOK
  cases op
  · obtain ⟨k1, k2, k3, k4⟩ := HNO.out rfl
    replace k3 := k3.symm
    replace k4 := k4.symm
    subst k3 k4
    clear HNO HYE
    have HB := hid hB
    clear hB
    obtain ⟨⟨v0, v1, v2⟩, s0, s1, s2⟩ := cellk3 gZ
    obtain ⟨⟨t0, t1, t2⟩, _⟩ := cellk3 gQ
    go_wp2_with fail
    have gF := setk3 gZ (.int .i64 now) (.slice a nr c) (.slice ta nt tcc)
    have bF := (bset (bset (bset HB.out (q := w.heap.size + 1) (k := 0) (by omega) (.int .i64 now)) (q := w.heap.size + 1) (k := 1) (by omega) (.slice a nr c)) (q := w.heap.size + 1) (k := 2) (by omega) (.slice ta nt tcc))
    have hfar : ∀ b, b ≠ w.heap.size + 1 → (((z.setCell ⟨w.heap.size + 1, 0, none⟩ (.int .i64 now)).setCell ⟨w.heap.size + 1, 1, none⟩ (.slice a nr c)).setCell ⟨w.heap.size + 1, 2, none⟩ (.slice ta nt tcc)).heap[b]? = z.heap[b]? := fun b hb => by rw [Below.heap_setCell _ _ _ _ (by dsimp only; omega), Below.heap_setCell _ _ _ _ (by dsimp only; omega), Below.heap_setCell _ _ _ _ (by dsimp only; omega)]
    have x1 := HX1.out.frame (w' := (((z.setCell ⟨w.heap.size + 1, 0, none⟩ (.int .i64 now)).setCell ⟨w.heap.size + 1, 1, none⟩ (.slice a nr c)).setCell ⟨w.heap.size + 1, 2, none⟩ (.slice ta nt tcc))) (fun b h1 h2 => hfar b (by omega)) (by simp)
    have x2 := HX2.out.frame (w' := (((z.setCell ⟨w.heap.size + 1, 0, none⟩ (.int .i64 now)).setCell ⟨w.heap.size + 1, 1, none⟩ (.slice a nr c)).setCell ⟨w.heap.size + 1, 2, none⟩ (.slice ta nt tcc))) (fun b h1 h2 => hfar b (by omega)) (by simp)
    generalize (((z.setCell ⟨w.heap.size + 1, 0, none⟩ (.int .i64 now)).setCell ⟨w.heap.size + 1, 1, none⟩ (.slice a nr c)).setCell ⟨w.heap.size + 1, 2, none⟩ (.slice ta nt tcc)) = wf at *
    obtain ⟨⟨z0, z1, z2⟩, _⟩ := cellk3 gF
    exact bodyPost_ret (v := .tuple #[.agg #[.int .i64 now, .slice a nr c, .slice ta nt tcc], .int .i64 1]) (by simp [results, Tryz.results5, go_sem, z0, z1, z2]) rfl (ssn_mk k1 k2 HNR.out HNT.out x1 x2 HTL.out bF)
  · obtain ⟨m, hmt, rfl, k1, hrok, kN, kF, kT⟩ := HYE.out rfl
    have HK1 := hid k1
    clear HNO HYE k1
    obtain ⟨cb, cp, j0, j2, j3, j4⟩ := HTX.out m hmt
    have hlc := hcl m hmt
    have HJ0 := hid j0
    have hDw : D < w.heap.size := World.block_lt_of_cell? w ⟨D, m * 3, none⟩ j0
    replace j0 := keepcell hB j0
    replace j2 := keepcell hB j2
    have HCC := hid (fun (W : World) (hb : Below w.heap.size w W) => spec_copyChs cb cp ts[m].2.2 W j3 (j4.below hb))
    have HKN := hid kN
    have HKF := hid kF
    have HKT := hid kT
    have hL : LC KT b2 u2 z (.slice ta ts.length tcc) ts := by rw [HNT.out]; exact HX2.out
    obtain ⟨g, rfl⟩ := hL.some_form (by omega)
    have HLB := hid (fun (W : World) (h : LC KT b2 u2 W (.slice (some ⟨g, 0, none⟩) ts.length tcc) ts) (hq : Q < W.heap.size) (wf : World) (q : ∀ b, b ≠ Q → b2 ≤ b → b < W.heap.size + 1 → wf.heap[b]? = (((W.setCell ⟨g, m * 3 + 1, none⟩ (.bool false)).alloc (.cells #[] 54)).setCell ⟨g, m * 3 + 2, none⟩ (.slice (some ⟨W.heap.size, 0, none⟩) 0 0)).heap[b]?) (hs : W.heap.size + 1 ≤ wf.heap.size) => h.rb_but hmt (by omega) hq q hs)
    have HCE := hid (fun (W : World) (h : LC KT b2 u2 W (.slice (some ⟨g, 0, none⟩) ts.length tcc) ts) => h.cells3 hmt)
    obtain ⟨_, _, _, _, hg1, hg2⟩ := hL.cells3 hmt
    have HSL := hid (set_L (m := m) (x := ts[m].1) (b := false) HTL.out)
    have hsn : (ts.set m (ts[m].1, false, [])).length = nt := by rw [List.length_set]; exact HNT.out
    have HTC : Hid (∀ (c : Ch), touchb now rs c.1 ts[m].1 = tchc rs ts[m].1 c) := hid (fun c => by unfold touchb tchc; rw [hrok]; rfl)
    generalize ts.set m (ts[m].1, false, []) = ts2 at *
    generalize ts[m].1 = st at *
    generalize ts[m].2.2 = cs at *
    have hmn : m < nt := by have := HNT.out; omega
    have c0 : (m : Int) < (nt : Int) := by omega
    rw [HNT.out] at HLB HCE hL
    replace HX2 := hid hL
    clear hL HTL hmt HNT HTX kN kF kT j4
    have HTB : Hid ((∃ i, ∃ h : i < cs.length, tchc rs st cs[i] = true) → cs.any (tchc rs st) = true) := hid (fun ⟨i, h, q⟩ => List.any_eq_true.2 ⟨cs[i], List.getElem_mem h, q⟩)
    have HTN : Hid ((∀ i (h : i < cs.length), tchc rs st cs[i] = false) → cs.any (tchc rs st) = false) := hid (fun q => by
      rw [List.any_eq_false]
      intro x hx
      obtain ⟨i, hi, rfl⟩ := List.mem_iff_getElem.1 hx
      rw [q i hi]; simp)
    obtain ⟨⟨d0, d1, d2⟩, _⟩ := cellk3 gP
    obtain ⟨nc, hnc⟩ : ∃ nc, nc = cs.length := ⟨_, rfl⟩
    have HNC := hid hnc.symm
    rw [← hnc] at HCC j2 j3 hlc
    clear hnc
    go_wp2_with fail
    refine (HCC.out _ hB).mono ?_
    rintro e z1 ⟨lv, lp, rfl, hlx, ⟨lg, lc, rfl⟩, hz1⟩
    replace gP := keepheapA hz1 gP
    replace gZ := keepheapA hz1 gZ
    replace gQ := keepheapA hz1 gQ
    replace HX1 := hid (HX1.out.below hz1)
    replace HX2 := hid (HX2.out.below hz1)
    replace hB := btrans hB hz1
    have hz1s := hz1.size
    have HLC : Hid (LC KC z.heap.size z1.heap.size z1 (.slice (some ⟨lg, 0, none⟩) nc lc) cs) := hid hlx.lc
    clear hlx hz1 d0 d1 d2 j2 j0 HCC
    obtain ⟨⟨w0', w1', w2', q0, q1, q2⟩, p0, p1, p2, _, _⟩ := HCE.out z1 HX2.out
    have HLR := hid (HLB.out z1 HX2.out (lt_of_block gQ))
    clear HLB HCE HX2
    obtain ⟨⟨t0, t1, t2⟩, _⟩ := cellk3 gQ
    have r2 : ((z1.setCell ⟨g, m * 3 + 1, none⟩ (.bool false)).alloc (.cells #[] 54)).cell? ⟨g, m * 3 + 2, none⟩ = some w2' := keepalloc (by rw [World.cell?_setCell_other _ _ _ _ (by intro q; injection q; omega)]; exact q2) _
    have f2 : ((z1.setCell ⟨g, m * 3 + 1, none⟩ (.bool false)).alloc (.cells #[] 54)).frozen? ⟨g, m * 3 + 2, none⟩ = false := by rw [World.frozen?_alloc_old _ _ ⟨g, m * 3 + 2, none⟩ (by simp; omega), World.frozen?_setCell]; exact p2
    go_upto_region 7 with fail
    have hfar : ∀ b, b < z1.heap.size → b ≠ g → (((z1.setCell ⟨g, m * 3 + 1, none⟩ (.bool false)).alloc (.cells #[] 54)).setCell ⟨g, m * 3 + 2, none⟩ (.slice (some ⟨z1.heap.size, 0, none⟩) 0 0)).heap[b]? = z1.heap[b]? := fun b h1 h2 => by
      rw [Below.heap_setCell _ _ _ _ (by dsimp only; omega), (balloc (Below.refl (z1.setCell ⟨g, m * 3 + 1, none⟩ (.bool false)).heap.size _) (.cells #[] 54)).block b (by simp; omega), Below.heap_setCell _ _ _ _ (by dsimp only; omega)]
    have hs3 : (((z1.setCell ⟨g, m * 3 + 1, none⟩ (.bool false)).alloc (.cells #[] 54)).setCell ⟨g, m * 3 + 2, none⟩ (.slice (some ⟨z1.heap.size, 0, none⟩) 0 0)).heap.size = z1.heap.size + 1 := by simp
    replace gP := (hfar _ (lt_of_block gP) (by omega)).trans gP
    replace gZ := (hfar _ (lt_of_block gZ) (by omega)).trans gZ
    replace gQ := (hfar _ (lt_of_block gQ) (by omega)).trans gQ
    replace HX1 := hid (HX1.out.frame (w' := (((z1.setCell ⟨g, m * 3 + 1, none⟩ (.bool false)).alloc (.cells #[] 54)).setCell ⟨g, m * 3 + 2, none⟩ (.slice (some ⟨z1.heap.size, 0, none⟩) 0 0))) (fun b h1 h2 => hfar b (by have := HX1.out.1; omega) (by omega)) (by omega))
    replace HLC := hid (HLC.out.frame (w' := (((z1.setCell ⟨g, m * 3 + 1, none⟩ (.bool false)).alloc (.cells #[] 54)).setCell ⟨g, m * 3 + 2, none⟩ (.slice (some ⟨z1.heap.size, 0, none⟩) 0 0))) (fun b h1 h2 => hfar b (by omega) (by omega)) (by omega))
    have HB := hid (bset (balloc (bset hB (q := g) (k := m * 3 + 1) (by omega) (.bool false)) (.cells #[] 54)) (q := g) (k := m * 3 + 2) (by omega) (.slice (some ⟨z1.heap.size, 0, none⟩) 0 0))
    have hs3a := Nat.le_of_eq hs3
    have hs3b := Nat.le_of_eq hs3.symm
    clear hfar hs3 hB q0 q1 q2 p0 p1 p2 r2 f2 t0 t1 t2
    generalize (((z1.setCell ⟨g, m * 3 + 1, none⟩ (.bool false)).alloc (.cells #[] 54)).setCell ⟨g, m * 3 + 2, none⟩ (.slice (some ⟨z1.heap.size, 0, none⟩) 0 0)) = V3 at *
    have HGP := hid gP
    have HGZ := hid gZ
    have HGQ := hid gQ
    clear gP gZ gQ
    go_wp2_with fail
    go_loopw [8] (fun ti wr => ∃ i : Nat, ti = .int .i64 i ∧ i ≤ nc ∧ Hid (∀ k (h : k < cs.length), k < i → tchc rs st cs[k] = false) ∧ Hid (Below V3.heap.size V3 wr)) (fun ti _ => nc - (intOf ti).toNat)
    case atStart => exact ⟨0, rfl, Nat.zero_le _, hid (fun k _ h => absurd h (by omega)), hid (Below.refl _ _)⟩
    case round =>
      obtain ⟨i, rfl, hi, HF, HV⟩ := hrel
      have gP := keepheapA HV.out HGP.out
      have gZ := keepheapA HV.out HGZ.out
      have gQ := keepheapA HV.out HGQ.out
      have hBr := btrans HB.out HV.out
      have HXR := hid (HX1.out.below HV.out)
      have HLCr := hid (HLC.out.below HV.out)
      have hVs := HV.out.size
      clear HGP HGZ HGQ
      obtain ⟨⟨d0, d1, d2⟩, _⟩ := cellk3 gP
      by_cases hlt : i < nc
      · have c1 : (i : Int) < (nc : Int) := by omega
        have c2 : (0 : Int) ≤ (i : Int) := by omega
        have hic : i < cs.length := by rw [HNC.out]; exact hlt
        have l0 := lc_ch0 HLCr.out hic
        have j0 := keepcell hBr HJ0.out
        obtain ⟨tb, htb⟩ : ∃ tb, tb = tchc rs st cs[i] := ⟨_, rfl⟩
        have HTI : Hid (∀ W, Below w.heap.size w W → Calls Tryz.prog 16 #[.agg #[.int .i64 now, .slice (some ⟨B, 0, none⟩) nr nr], .int .i64 cs[i].1, .int .i64 st] W fun e w' => e = .returned (.bool tb) ∧ Below W.heap.size W w') := hid (fun W hb => by
          have hh := HTO.out cs[i].1 st W hb
          rw [HTC.out cs[i], ← htb] at hh
          exact hh)
        have HTB2 := hid htb
        obtain ⟨xid, hxid⟩ : ∃ xid, xid = cs[i].1 := ⟨_, rfl⟩
        rw [← hxid] at l0 HTI
        clear hxid htb HTO HTC HAP HLC HLCr HX1
        go_upto_region 10 with fail
        replace d0 : wr.drew.cell? ⟨w.heap.size, 0, none⟩ = _ := d0
        replace d1 : wr.drew.cell? ⟨w.heap.size, 1, none⟩ = _ := d1
        replace d2 : wr.drew.cell? ⟨w.heap.size, 2, none⟩ = _ := d2
        replace l0 : wr.drew.cell? ⟨lg, i * 4, none⟩ = _ := l0
        replace j0 : wr.drew.cell? ⟨D, m * 3, none⟩ = _ := j0
        replace gZ : wr.drew.heap[w.heap.size + 1]? = _ := gZ
        replace gQ : wr.drew.heap[Q]? = _ := gQ
        have hB0 : Below w.heap.size w wr.drew := bdrew hBr
        have HV0 : Hid (Below V3.heap.size V3 wr.drew) := hid (bdrew HV.out)
        have HX0 : Hid (LC KR b1 u1 wr.drew (.slice a nr c) rs) := hid (HXR.out.below (bdrew (Below.refl _ _)))
        clear gP hBr HV HXR hVs
        refine wp_region_held_drew (S := (fun w' => w'.cell? ⟨w.heap.size, 0, none⟩ = some (.int .i64 now) ∧ w'.cell? ⟨w.heap.size, 1, none⟩ = some (.slice (some ⟨B, 0, none⟩) nr nr) ∧ w'.cell? ⟨w.heap.size, 2, none⟩ = some (.slice (some ⟨D, 0, none⟩) nt nt) ∧ w'.cell? ⟨lg, i * 4, none⟩ = some (.int .i64 xid) ∧ w'.cell? ⟨D, m * 3, none⟩ = some (.int .i64 st))) (by kernel_rfl) ?_ (fun hHeld => ?_)
        · (repeat' apply And.intro) <;> (with_reducible repeat (first | assumption | refine keepdrew ?_ | refine keepcell (by assumption) ?_))
        generalize wr.drew = V0 at *
        refine wpAnyH_take (i := 0) (v := ?_) rfl (by kernel_rfl) (by kernel_rfl) (by kernel_rfl) (fun _ _ _ h => h) (Or.inl ⟨by rfl, ?_⟩) hHeld ?_
        rotate_left
        · intro w hSw; (try dsimp only at hSw); go_simp; try (with_reducible rfl)
        try simp only [sq]
        refine wpAnyH_take (i := 1) (v := ?_) rfl (by kernel_rfl) (by kernel_rfl) (by kernel_rfl) (fun _ _ _ h => h) (Or.inl ⟨by rfl, ?_⟩) hHeld ?_
        rotate_left
        · intro w hSw; (try dsimp only at hSw); go_simp; try (with_reducible rfl)
        try simp only [sq]
        refine wpAnyH_take (i := 2) (v := ?_) rfl (by kernel_rfl) (by kernel_rfl) (by kernel_rfl) (fun _ _ _ h => h) (Or.inl ⟨by rfl, ?_⟩) hHeld ?_
        rotate_left
        · intro w hSw; (try dsimp only at hSw); go_simp; try (with_reducible rfl)
        try simp only [sq]
        refine wpAnyH_take (i := 3) (v := ?_) rfl (by kernel_rfl) (by kernel_rfl) (by kernel_rfl) (fun _ _ _ h => h) (Or.inl ⟨by rfl, ?_⟩) hHeld ?_
        rotate_left
        · intro w hSw; (try dsimp only at hSw); go_simp; try (with_reducible rfl)
        try simp only [sq]
        refine wpAnyH_take (i := 4) (v := ?_) rfl (by kernel_rfl) (by kernel_rfl) (by kernel_rfl) (fun _ _ _ h => h) (Or.inl ⟨by rfl, ?_⟩) hHeld ?_
        rotate_left
        · intro w hSw; (try dsimp only at hSw); go_simp; try (with_reducible rfl)
        try simp only [sq]
        refine wpAnyH_take (i := 5) (v := ?_) rfl (by kernel_rfl) (by kernel_rfl) (by kernel_rfl) (fun _ _ _ h => h) (Or.inl ⟨by rfl, ?_⟩) hHeld ?_
        rotate_left
        · intro w hSw; (try dsimp only at hSw); go_simp; try (with_reducible rfl)
        try simp only [sq]
        refine wpAnyH_take (i := 6) (v := ?_) rfl (by kernel_rfl) (by kernel_rfl) (by kernel_rfl) (fun _ _ _ h => h) (Or.inl ⟨by rfl, ?_⟩) hHeld ?_
        rotate_left
        · intro w hSw; (try dsimp only at hSw); go_simp; try (with_reducible rfl)
        try simp only [sq]
        refine wpAnyH_take (i := 7) (v := ?_) rfl (by kernel_rfl) (by kernel_rfl) (by kernel_rfl) (fun _ _ _ h => h) (Or.inl ⟨by rfl, ?_⟩) hHeld ?_
        rotate_left
        · intro w hSw; (try dsimp only at hSw); go_simp; try (with_reducible rfl)
        try simp only [sq]
        refine wpAnyH_take (i := 8) (v := ?_) rfl (by kernel_rfl) (by kernel_rfl) (by kernel_rfl) (fun _ _ _ h => h) (Or.inl ⟨by rfl, ?_⟩) hHeld ?_
        rotate_left
        · intro w hSw; (try dsimp only at hSw); go_simp; try (with_reducible rfl)
        try simp only [sq]
        refine wpAnyH_take (i := 9) (v := ?_) rfl (by kernel_rfl) (by kernel_rfl) (by kernel_rfl) (fun _ _ _ h => h) (Or.inl ⟨by rfl, ?_⟩) hHeld ?_
        rotate_left
        · intro w hSw; (try dsimp only at hSw); go_simp; try (with_reducible rfl)
        try simp only [sq]
        refine wpAnyH_take (i := 10) (v := ?_) rfl (by kernel_rfl) (by kernel_rfl) (by kernel_rfl) (fun _ _ _ h => h) (Or.inl ⟨by rfl, ?_⟩) hHeld ?_
        rotate_left
        · intro w hSw; (try dsimp only at hSw); go_simp; try (with_reducible rfl)
        try simp only [sq]
        refine wpAnyH_take (i := 11) (v := ?_) rfl (by kernel_rfl) (by kernel_rfl) (by kernel_rfl) (fun _ _ _ h => h) (Or.inl ⟨by rfl, ?_⟩) hHeld ?_
        rotate_left
        · intro w hSw; (try dsimp only at hSw); go_simp; try (with_reducible rfl)
        try simp only [sq]
        refine wpAnyH_take (i := 12) (v := ?_) rfl (by kernel_rfl) (by kernel_rfl) (by kernel_rfl) (fun _ _ _ h => h) (Or.inl ⟨by rfl, ?_⟩) hHeld ?_
        rotate_left
        · intro w hSw; (try dsimp only at hSw); go_simp; try (with_reducible rfl)
        try simp only [sq]
        refine wpAnyH_ready (rs := [13]) (by kernel_rfl) (by simp) ?_
        refine (AllReadyH.cons rfl (fun K hK => ?_) AllReadyH.nil)
        try simp only [sq]
        go_simp
        go_at_call 16
        refine (HTI.out _ hB0).mono ?_
        rintro e y ⟨rfl, hy⟩
        replace d0 := keepcell hy d0
        replace d1 := keepcell hy d1
        replace d2 := keepcell hy d2
        replace l0 := keepcell hy l0
        replace j0 := keepcell hy j0
        go_wp2_with fail
        refine hK.out _ _ ?_ (fun hHeld => ?_)
        · (repeat' apply And.intro) <;> (with_reducible repeat (first | assumption | refine keepdrew ?_ | refine keepcell (by assumption) ?_))
        clear hK K
        try simp only [sq]
        refine wpAnyH_done (by kernel_rfl) ?_ _
        replace gZ := keepheapA hy gZ
        replace gQ := keepheapA hy gQ
        have HBF := hid (btrans hB0 hy)
        have hVy := btrans HV0.out hy
        have HVF : Hid (∀ b, b ≠ Q → b < V3.heap.size → y.heap[b]? = V3.heap[b]?) := hid (fun b _ hb => hVy.block b hb)
        have HVS := hid hVy.size
        have HVY := hid hVy
        have HXY := hid (HX0.out.below hy)
        have hys := hy.size
        clear hVy hy hB0 d0 d1 d2 l0 j0 hHeld HTI HX0
        cases tb
        · go_wp2_with fail
          go_roundw
          case rel => exact ⟨i + 1, by go_num, by omega, hid (fun k h hk => by
            by_cases q : k = i
            · subst q; exact HTB2.out.symm
            · exact HF.out k h (by omega)), HVY⟩
          case measure => simp [intOf]; omega
        · have hany := HTB.out ⟨i, hic, HTB2.out.symm⟩
          have hcmd : cmd now rs cs st = false := by unfold cmd; rw [hany]; rfl
          obtain ⟨k3, k4⟩ := HKF.out hcmd
          have KN : Hid (bn = 4) := hid (by rw [HKN.out]; unfold cmc; rw [if_pos hany])
          replace k3 := k3.symm
          replace k4 := k4.symm
          subst k3 k4
          clear HKF HKT HKN HTB HTN hany hcmd HTB2
          obtain ⟨⟨v0, v1, v2⟩, s0, s1, s2⟩ := cellk3 gZ
          obtain ⟨⟨t0, t1, t2⟩, _⟩ := cellk3 gQ
          go_wp2_with fail
          have gF := setk3 gZ (.int .i64 (now)) (.slice a nr c) (.slice (some ⟨g, 0, none⟩) nt tcc)
          have bF := (bset (bset (bset HBF.out (q := w.heap.size + 1) (k := 0) (by omega) (.int .i64 (now))) (q := w.heap.size + 1) (k := 1) (by omega) (.slice a nr c)) (q := w.heap.size + 1) (k := 2) (by omega) (.slice (some ⟨g, 0, none⟩) nt tcc))
          have hfar : ∀ b, b ≠ w.heap.size + 1 → (((y.setCell ⟨w.heap.size + 1, 0, none⟩ (.int .i64 (now))).setCell ⟨w.heap.size + 1, 1, none⟩ (.slice a nr c)).setCell ⟨w.heap.size + 1, 2, none⟩ (.slice (some ⟨g, 0, none⟩) nt tcc)).heap[b]? = y.heap[b]? := fun b hb => by rw [Below.heap_setCell _ _ _ _ (by dsimp only; omega), Below.heap_setCell _ _ _ _ (by dsimp only; omega), Below.heap_setCell _ _ _ _ (by dsimp only; omega)]
          have x1 := HXY.out.frame (w' := (((y.setCell ⟨w.heap.size + 1, 0, none⟩ (.int .i64 (now))).setCell ⟨w.heap.size + 1, 1, none⟩ (.slice a nr c)).setCell ⟨w.heap.size + 1, 2, none⟩ (.slice (some ⟨g, 0, none⟩) nt tcc))) (fun b h1 h2 => hfar b (by omega)) (by simp)
          have x2 := HLR.out (((y.setCell ⟨w.heap.size + 1, 0, none⟩ (.int .i64 (now))).setCell ⟨w.heap.size + 1, 1, none⟩ (.slice a nr c)).setCell ⟨w.heap.size + 1, 2, none⟩ (.slice (some ⟨g, 0, none⟩) nt tcc)) (fun b h1 h2 h3 => (hfar b (by omega)).trans (HVF.out b h1 (by omega))) (by have := HVS.out; simp; omega)
          generalize (((y.setCell ⟨w.heap.size + 1, 0, none⟩ (.int .i64 (now))).setCell ⟨w.heap.size + 1, 1, none⟩ (.slice a nr c)).setCell ⟨w.heap.size + 1, 2, none⟩ (.slice (some ⟨g, 0, none⟩) nt tcc)) = wf at *
          obtain ⟨⟨z0, z1', z2⟩, _⟩ := cellk3 gF
          exact bodyPost_ret (v := .tuple #[.agg #[.int .i64 (now), .slice a nr c, .slice (some ⟨g, 0, none⟩) nt tcc], .int .i64 4]) (by simp [results, Tryz.results5, go_sem, z0, z1', z2]) rfl (ssn_mk2 HK1.out KN.out HNR.out hsn rfl x1 x2 HSL.out bF)
      · have hnn : i = nc := by omega
        subst hnn
        have hany := HTN.out (fun k h => HF.out k h (by rw [← HNC.out]; exact h))
        clear HTN HTB HTO HTC HF
        by_cases hn0 : i = 0
        · have hc0 : cs = [] := List.eq_nil_of_length_eq_zero (by rw [HNC.out]; exact hn0)
          have hcmd : cmd now rs cs st = false := by unfold cmd; rw [hc0]; simp
          obtain ⟨k3, k4⟩ := HKF.out hcmd
          have KN : Hid (bn = 0) := hid (by rw [HKN.out]; unfold cmc; rw [if_neg (by rw [hany]; simp), if_pos hc0])
          replace k3 := k3.symm
          replace k4 := k4.symm
          subst k3 k4
          have e1 : ¬ ((i : Int) < (i : Int)) := by omega
          have e2 : ((i : Int) == 0) = true := by rw [beq_iff_eq]; omega
          have HBF := hid hBr
          have HVF : Hid (∀ b, b ≠ Q → b < V3.heap.size → wr.heap[b]? = V3.heap[b]?) := hid (fun b _ hb => HV.out.block b hb)
          have HVS := hid HV.out.size
          clear HKF HKT HKN HAP hany hcmd hc0
          obtain ⟨⟨v0, v1, v2⟩, s0, s1, s2⟩ := cellk3 gZ
          obtain ⟨⟨t0, t1, t2⟩, _⟩ := cellk3 gQ
          go_wp2_with fail
          have gF := setk3 gZ (.int .i64 (now)) (.slice a nr c) (.slice (some ⟨g, 0, none⟩) nt tcc)
          have bF := (bset (bset (bset HBF.out (q := w.heap.size + 1) (k := 0) (by omega) (.int .i64 (now))) (q := w.heap.size + 1) (k := 1) (by omega) (.slice a nr c)) (q := w.heap.size + 1) (k := 2) (by omega) (.slice (some ⟨g, 0, none⟩) nt tcc))
          have hfar : ∀ b, b ≠ w.heap.size + 1 → (((wr.setCell ⟨w.heap.size + 1, 0, none⟩ (.int .i64 (now))).setCell ⟨w.heap.size + 1, 1, none⟩ (.slice a nr c)).setCell ⟨w.heap.size + 1, 2, none⟩ (.slice (some ⟨g, 0, none⟩) nt tcc)).heap[b]? = wr.heap[b]? := fun b hb => by rw [Below.heap_setCell _ _ _ _ (by dsimp only; omega), Below.heap_setCell _ _ _ _ (by dsimp only; omega), Below.heap_setCell _ _ _ _ (by dsimp only; omega)]
          have x1 := HXR.out.frame (w' := (((wr.setCell ⟨w.heap.size + 1, 0, none⟩ (.int .i64 (now))).setCell ⟨w.heap.size + 1, 1, none⟩ (.slice a nr c)).setCell ⟨w.heap.size + 1, 2, none⟩ (.slice (some ⟨g, 0, none⟩) nt tcc))) (fun b h1 h2 => hfar b (by omega)) (by simp)
          have x2 := HLR.out (((wr.setCell ⟨w.heap.size + 1, 0, none⟩ (.int .i64 (now))).setCell ⟨w.heap.size + 1, 1, none⟩ (.slice a nr c)).setCell ⟨w.heap.size + 1, 2, none⟩ (.slice (some ⟨g, 0, none⟩) nt tcc)) (fun b h1 h2 h3 => (hfar b (by omega)).trans (HVF.out b h1 (by omega))) (by have := HVS.out; simp; omega)
          generalize (((wr.setCell ⟨w.heap.size + 1, 0, none⟩ (.int .i64 (now))).setCell ⟨w.heap.size + 1, 1, none⟩ (.slice a nr c)).setCell ⟨w.heap.size + 1, 2, none⟩ (.slice (some ⟨g, 0, none⟩) nt tcc)) = wf at *
          obtain ⟨⟨z0, z1', z2⟩, _⟩ := cellk3 gF
          exact bodyPost_ret (v := .tuple #[.agg #[.int .i64 (now), .slice a nr c, .slice (some ⟨g, 0, none⟩) nt tcc], .int .i64 0]) (by simp [results, Tryz.results5, go_sem, z0, z1', z2]) rfl (ssn_mk2 HK1.out KN.out HNR.out hsn rfl x1 x2 HSL.out bF)
        have hc0 : ¬ cs = [] := fun q => hn0 (by rw [← HNC.out, q]; rfl)
        have HCF : Hid (apb now rs cs = false → cmd now rs cs st = false ∧ cmc now rs cs st = 5) := hid (fun q => ⟨by unfold cmd; rw [q]; simp, by unfold cmc; rw [if_neg (by rw [hany]; simp), if_neg hc0, if_neg (by rw [q]; simp)]⟩)
        have HCT : Hid (apb now rs cs = true → cmd now rs cs st = true ∧ cmc now rs cs st = 0 ∧ apnow now rs cs = now + 1 ∧ aprs now rs cs = apl (now + 1) rs cs) := hid (fun q => ⟨by unfold cmd; rw [hany, q]; simp [hc0], by unfold cmc; rw [if_neg (by rw [hany]; simp), if_neg hc0, if_pos q], (apb_yes q).1, (apb_yes q).2⟩)
        have e1 : ¬ ((i : Int) < (i : Int)) := by omega
        have e2 : ((i : Int) == 0) = false := by rw [beq_eq_false_iff_ne]; omega
        have HAQ : Hid (∀ (N' : Nat → Prop) W, Below w.heap.size w W → Chs N' 1099511627776 W (some ⟨lg, 0, none⟩) cs → Calls Tryz.prog 17 #[.agg #[.int .i64 now, .slice (some ⟨B, 0, none⟩) nr nr], .slice (some ⟨lg, 0, none⟩) i lc] W fun e w' => ∃ a c xs, e = .returned (.tuple #[.agg #[.int .i64 (apnow now rs cs), .slice a (aprs now rs cs).length c], .bool (apb now rs cs)]) ∧ RowsX W.heap.size w'.heap.size w' (.slice a (aprs now rs cs).length c) (aprs now rs cs) xs ∧ Below W.heap.size W w') := hid (fun N' W hb hC => by
          have hh := HAP.out N' cs (some ⟨lg, 0, none⟩) lc W (by rw [HNC.out]; exact hlc) hb hC
          rw [HNC.out] at hh
          exact hh)
        have HCL := hid HLCr.out.chs
        clear hany hc0 HAP HLC HLCr HX1
        generalize apb now rs cs = ab at *
        generalize apnow now rs cs = nw at *
        generalize aprs now rs cs = qs at *
        obtain ⟨nq, hnq⟩ : ∃ nq, nq = qs.length := ⟨_, rfl⟩
        have HNQ := hid hnq.symm
        rw [← hnq] at HAQ
        clear hnq
        go_wp2_with fail
        refine (HAQ.out _ _ hBr HCL.out).mono ?_
        rintro e y ⟨ga, gc, gx, rfl, hX, hy⟩
        replace gZ := keepheapA hy gZ
        replace gQ := keepheapA hy gQ
        have hVy := btrans HV.out hy
        have hBy := btrans hBr hy
        have HXY := hid (HXR.out.below hy)
        have hys := hy.size
        have hal : Below y.heap.size y (y.alloc (.cells #[.int .i64 nw, .slice ga nq gc] 31)) := balloc (Below.refl _ _) _
        have gN := new_alloc y y.heap.size (.cells #[.int .i64 nw, .slice ga nq gc] 31) rfl
        replace gZ := keepheapA hal gZ
        replace gQ := keepheapA hal gQ
        replace HXY := hid (HXY.out.below hal)
        have HXL := hid (hX.lc.below hal)
        have hsa : (y.alloc (.cells #[.int .i64 nw, .slice ga nq gc] 31)).heap.size = y.heap.size + 1 := by simp
        have hsa1 := Nat.le_of_eq hsa
        have hsa2 := Nat.le_of_eq hsa.symm
        replace hVy := btrans hVy hal
        replace hBy := btrans hBy hal
        clear hsa hX hy hal HAQ HCL d0 d1 d2 HV hBr HXR gP
        go_upto_region 15 with fail
        generalize y.alloc (.cells #[.int .i64 nw, .slice ga nq gc] 31) = Y at *
        cases ab
        · obtain ⟨hcmd, hcc⟩ := HCF.out (by first | rfl | trivial)
          obtain ⟨k3, k4⟩ := HKF.out hcmd
          have KN : Hid (bn = 5) := hid (by rw [HKN.out, hcc])
          replace k3 := k3.symm
          replace k4 := k4.symm
          subst k3 k4
          have HBF := hid hBy
          have HVF : Hid (∀ b, b ≠ Q → b < V3.heap.size → Y.heap[b]? = V3.heap[b]?) := hid (fun b _ hb => hVy.block b hb)
          have HVS := hid hVy.size
          clear HKF HKT HKN HCF HCT hcmd hcc hVy hBy
          obtain ⟨⟨v0, v1, v2⟩, s0, s1, s2⟩ := cellk3 gZ
          obtain ⟨⟨t0, t1, t2⟩, _⟩ := cellk3 gQ
          go_wp2_with fail
          have gF := setk3 gZ (.int .i64 (now)) (.slice a nr c) (.slice (some ⟨g, 0, none⟩) nt tcc)
          have bF := (bset (bset (bset HBF.out (q := w.heap.size + 1) (k := 0) (by omega) (.int .i64 (now))) (q := w.heap.size + 1) (k := 1) (by omega) (.slice a nr c)) (q := w.heap.size + 1) (k := 2) (by omega) (.slice (some ⟨g, 0, none⟩) nt tcc))
          have hfar : ∀ b, b ≠ w.heap.size + 1 → (((Y.setCell ⟨w.heap.size + 1, 0, none⟩ (.int .i64 (now))).setCell ⟨w.heap.size + 1, 1, none⟩ (.slice a nr c)).setCell ⟨w.heap.size + 1, 2, none⟩ (.slice (some ⟨g, 0, none⟩) nt tcc)).heap[b]? = Y.heap[b]? := fun b hb => by rw [Below.heap_setCell _ _ _ _ (by dsimp only; omega), Below.heap_setCell _ _ _ _ (by dsimp only; omega), Below.heap_setCell _ _ _ _ (by dsimp only; omega)]
          have x1 := HXY.out.frame (w' := (((Y.setCell ⟨w.heap.size + 1, 0, none⟩ (.int .i64 (now))).setCell ⟨w.heap.size + 1, 1, none⟩ (.slice a nr c)).setCell ⟨w.heap.size + 1, 2, none⟩ (.slice (some ⟨g, 0, none⟩) nt tcc))) (fun b h1 h2 => hfar b (by omega)) (by simp)
          have x2 := HLR.out (((Y.setCell ⟨w.heap.size + 1, 0, none⟩ (.int .i64 (now))).setCell ⟨w.heap.size + 1, 1, none⟩ (.slice a nr c)).setCell ⟨w.heap.size + 1, 2, none⟩ (.slice (some ⟨g, 0, none⟩) nt tcc)) (fun b h1 h2 h3 => (hfar b (by omega)).trans (HVF.out b h1 (by omega))) (by have := HVS.out; simp; omega)
          generalize (((Y.setCell ⟨w.heap.size + 1, 0, none⟩ (.int .i64 (now))).setCell ⟨w.heap.size + 1, 1, none⟩ (.slice a nr c)).setCell ⟨w.heap.size + 1, 2, none⟩ (.slice (some ⟨g, 0, none⟩) nt tcc)) = wf at *
          obtain ⟨⟨z0, z1', z2⟩, _⟩ := cellk3 gF
          exact bodyPost_ret (v := .tuple #[.agg #[.int .i64 (now), .slice a nr c, .slice (some ⟨g, 0, none⟩) nt tcc], .int .i64 5]) (by simp [results, Tryz.results5, go_sem, z0, z1', z2]) rfl (ssn_mk2 HK1.out KN.out HNR.out hsn rfl x1 x2 HSL.out bF)
        · obtain ⟨hcmd, hcc, q1, q2⟩ := HCT.out (by first | rfl | trivial)
          obtain ⟨k3, k4⟩ := HKT.out hcmd
          have KN : Hid (bn = 0) := hid (by rw [HKN.out, hcc])
          have HRL2 : Hid (br.length = nq) := hid (by rw [k3, ← q2]; exact HNQ.out)
          have HW2 : Hid (bw = nw) := hid (by rw [k4, q1])
          have HXL2 : Hid (LC KR wr.heap.size y.heap.size Y (.slice ga nq gc) br) := hid (by rw [k3, ← q2]; exact HXL.out)
          clear q1 q2 k3 k4 hcmd hcc
          obtain ⟨y0, y1, _, _⟩ := cell2f gN
          obtain ⟨⟨p0, p1, p2⟩, f0, f1, f2⟩ := cellk3 gQ
          have gQ2 := setk2 gQ (.int .i64 nw) (.slice ga nq gc)
          have hfarQ : ∀ b, b ≠ Q → ((Y.setCell ⟨Q, 0, none⟩ (.int .i64 nw)).setCell ⟨Q, 1, none⟩ (.slice ga nq gc)).heap[b]? = Y.heap[b]? := fun b hb => by rw [Below.heap_setCell _ _ _ _ (by dsimp only; omega), Below.heap_setCell _ _ _ _ (by dsimp only; omega)]
          have hQl : Q < V3.heap.size := by omega
          have gZ2 := (hfarQ _ (by omega)).trans gZ
          have HXF := hid (HXL2.out.frame (w' := (Y.setCell ⟨Q, 0, none⟩ (.int .i64 nw)).setCell ⟨Q, 1, none⟩ (.slice ga nq gc)) (fun b h1 h2 => hfarQ b (by omega)) (by simp))
          have HBF := hid (bset (bset hBy (q := Q) (k := 0) (by omega) (.int .i64 nw)) (q := Q) (k := 1) (by omega) (.slice ga nq gc))
          have HVF : Hid (∀ b, b ≠ Q → b < V3.heap.size → ((Y.setCell ⟨Q, 0, none⟩ (.int .i64 nw)).setCell ⟨Q, 1, none⟩ (.slice ga nq gc)).heap[b]? = V3.heap[b]?) := hid (fun b hq hb => (hfarQ b hq).trans (hVy.block b hb))
          have HVS : Hid (V3.heap.size ≤ ((Y.setCell ⟨Q, 0, none⟩ (.int .i64 nw)).setCell ⟨Q, 1, none⟩ (.slice ga nq gc)).heap.size) := hid (by simp; exact hVy.size)
          go_upto_region 18 with fail
          clear HKF HKT HKN HCF HCT hVy hBy gZ gQ y0 y1 p0 p1 p2 f0 f1 f2 hfarQ HXL HXL2 HXY gN
          generalize ((Y.setCell ⟨Q, 0, none⟩ (.int .i64 nw)).setCell ⟨Q, 1, none⟩ (.slice ga nq gc)) = Y2 at *
          have gZ := gZ2
          have gQ := gQ2
          clear gZ2 gQ2
          obtain ⟨⟨v0, v1, v2⟩, s0, s1, s2⟩ := cellk3 gZ
          obtain ⟨⟨t0, t1, t2⟩, _⟩ := cellk3 gQ
          go_wp2_with fail
          have gF := setk3 gZ (.int .i64 (nw)) (.slice ga nq gc) (.slice (some ⟨g, 0, none⟩) nt tcc)
          have bF := (bset (bset (bset HBF.out (q := w.heap.size + 1) (k := 0) (by omega) (.int .i64 (nw))) (q := w.heap.size + 1) (k := 1) (by omega) (.slice ga nq gc)) (q := w.heap.size + 1) (k := 2) (by omega) (.slice (some ⟨g, 0, none⟩) nt tcc))
          have hfar : ∀ b, b ≠ w.heap.size + 1 → (((Y2.setCell ⟨w.heap.size + 1, 0, none⟩ (.int .i64 (nw))).setCell ⟨w.heap.size + 1, 1, none⟩ (.slice ga nq gc)).setCell ⟨w.heap.size + 1, 2, none⟩ (.slice (some ⟨g, 0, none⟩) nt tcc)).heap[b]? = Y2.heap[b]? := fun b hb => by rw [Below.heap_setCell _ _ _ _ (by dsimp only; omega), Below.heap_setCell _ _ _ _ (by dsimp only; omega), Below.heap_setCell _ _ _ _ (by dsimp only; omega)]
          have x1 := HXF.out.frame (w' := (((Y2.setCell ⟨w.heap.size + 1, 0, none⟩ (.int .i64 (nw))).setCell ⟨w.heap.size + 1, 1, none⟩ (.slice ga nq gc)).setCell ⟨w.heap.size + 1, 2, none⟩ (.slice (some ⟨g, 0, none⟩) nt tcc))) (fun b h1 h2 => hfar b (by omega)) (by simp)
          have x2 := HLR.out (((Y2.setCell ⟨w.heap.size + 1, 0, none⟩ (.int .i64 (nw))).setCell ⟨w.heap.size + 1, 1, none⟩ (.slice ga nq gc)).setCell ⟨w.heap.size + 1, 2, none⟩ (.slice (some ⟨g, 0, none⟩) nt tcc)) (fun b h1 h2 h3 => (hfar b (by omega)).trans (HVF.out b h1 (by omega))) (by have := HVS.out; simp; omega)
          generalize (((Y2.setCell ⟨w.heap.size + 1, 0, none⟩ (.int .i64 (nw))).setCell ⟨w.heap.size + 1, 1, none⟩ (.slice ga nq gc)).setCell ⟨w.heap.size + 1, 2, none⟩ (.slice (some ⟨g, 0, none⟩) nt tcc)) = wf at *
          obtain ⟨⟨z0, z1', z2⟩, _⟩ := cellk3 gF
          exact bodyPost_ret (v := .tuple #[.agg #[.int .i64 (nw), .slice ga nq gc, .slice (some ⟨g, 0, none⟩) nt tcc], .int .i64 0]) (by simp [results, Tryz.results5, go_sem, z0, z1', z2]) rfl (ssn_mk2 HK1.out KN.out HRL2.out hsn HW2.out x1 x2 HSL.out bF)
end Go.Proofs.YtkdoigibpaempaaGreatDoor
