import Derived.Test.YtkdoigibpaempaaGreatDoorJ22
set_option linter.unusedSimpArgs false
set_option linter.unusedVariables false
namespace Go.Proofs.YtkdoigibpaempaaGreatDoor
open Go.RowKit
def cmY (now : Int) (rs : List Rw) (ts : List Tx) (n : Int) : Bool := opn now rs ts n && cmd now rs (txn ts n).2.2 (txn ts n).1
def cmN (now : Int) (rs : List Rw) (ts : List Tx) (n : Int) : Int := if opn now rs ts n = true then cmc now rs (txn ts n).2.2 (txn ts n).1 else 1
def cmR (now : Int) (rs : List Rw) (ts : List Tx) (n : Int) : List Rw := if cmY now rs ts n = true then apl (now + 1) rs (txn ts n).2.2 else rs
def cmW (now : Int) (rs : List Rw) (ts : List Tx) (n : Int) : Int := if cmY now rs ts n = true then now + 1 else now
theorem cm_no {now : Int} {rs : List Rw} {ts : List Tx} {n : Int} (h : opn now rs ts n = false) : rbT now rs ts n = ts ∧ cmN now rs ts n = 1 ∧ cmR now rs ts n = rs ∧ cmW now rs ts n = now := by
  have hy : cmY now rs ts n = false := by unfold cmY; rw [h]; rfl
  unfold cmN cmR cmW
  rw [h, hy]
  exact ⟨(rb_no h).1, rfl, rfl, rfl⟩
theorem cmN_yes {now : Int} {rs : List Rw} {ts : List Tx} {m : Nat} (hm : m < ts.length) (h : opn now rs ts (m : Int) = true) : cmN now rs ts (m : Int) = cmc now rs ts[m].2.2 ts[m].1 := by
  unfold cmN; rw [if_pos h, txn_at hm]
def RZ2 (S : Nat) (nw : Int) (rs : List Rw) (now : Int) (v0 v : Value) (br : List Rw) (bw : Int) (z : World) : Prop :=
  (br = rs ∧ bw = nw ∧ v = v0 ∧ nw = now) ∨ (∃ a n c, v = .slice a n c ∧ br.length = n ∧ bw = nw ∧ ∃ bs xs, S ≤ bs ∧ RowsX bs z.heap.size z v br xs)
theorem rz2_of {S : Nat} {now nw : Int} {rs : List Rw} {ts : List Tx} {m : Nat} {v0 : Value} {a : Option Addr} {n c : Nat} {z : World} (hm : m < ts.length) (h : opn now rs ts (m : Int) = true) (hz : RZC S now rs ts[m].2.2 ts[m].1 v0 nw (.slice a n c) z) : RZ2 S nw rs now v0 (.slice a n c) (cmR now rs ts (m : Int)) (cmW now rs ts (m : Int)) z := by
  have hy : cmY now rs ts (m : Int) = cmd now rs ts[m].2.2 ts[m].1 := by unfold cmY; rw [h, txn_at hm]; rfl
  unfold cmR cmW
  rw [hy, txn_at hm]
  rcases hz with ⟨h1, h2, h3⟩ | ⟨h1, h2, bs, xs, h3, h4⟩
  · rw [if_neg (by rw [h1]; simp), if_neg (by rw [h1]; simp)]
    exact .inl ⟨rfl, h2.symm, h3, h2⟩
  · rw [if_pos h1, if_pos h1]
    refine .inr ⟨a, n, c, rfl, ?_, h2.symm, bs, xs, h3, h4⟩
    obtain ⟨a', c', e⟩ := kept_form h4
    injection e with _ e _
    exact e.symm
theorem lc_chs_at {base hi g cap m : Nat} {w : World} {ts : List Tx} {ca : Option Addr} {cn cc : Nat} (h : LC KT base hi w (.slice (some ⟨g, 0, none⟩) ts.length cap) ts) (hm : m < ts.length) (hc : w.cell? ⟨g, 0 + m * 3 + 2, none⟩ = some (.slice ca cn cc)) : cn = ts[m].2.2.length ∧ Chs (fun _ => True) 1099511627776 w ca ts[m].2.2 := by
  obtain ⟨h0, h⟩ := h
  rcases h with ⟨_, h⟩ | ⟨g', cp, ss, lo, up, e, h1, h2, h3, h4, h5, h6⟩
  · cases h
  · cases e
    obtain ⟨⟨b1, b2⟩, a2, a3, a4⟩ := h5 m hm
    obtain ⟨a', cap', e, f1, f2⟩ := LC.form b2
    have k2 := b1 2 (by decide)
    simp only [KT, e] at k2
    rw [Nat.zero_add] at hc
    rw [show m * 3 + 2 = m * 3 + 2 from rfl] at hc
    have k3 : w.cell? ⟨g, m * 3 + 2, none⟩ = some (.slice a' ts[m].2.2.length cap') := k2
    rw [k3] at hc
    cases hc
    rw [e] at b2
    refine ⟨rfl, ?_⟩
    rcases LC.chs b2 with hc | ⟨b, o, e2, hb, hc⟩
    · exact .inl hc
    · refine .inr ⟨b, o, e2, hb, fun i hi' => ?_⟩
      obtain ⟨a4', cap4, q0, q1, q2, q3, q4, q5, q6, q7⟩ := hc i hi'
      exact ⟨a4', cap4, q0, q1, q2, q3, q4, q5, q6, fun _ _ _ => trivial⟩
theorem lc_rwsS {base hi g n cap : Nat} {w : World} {rs : List Rw} (h : LC KR base hi w (.slice (some ⟨g, 0, none⟩) n cap) rs) : RwsS w g rs := by
  obtain ⟨h0, h⟩ := h
  rcases h with ⟨_, h⟩ | ⟨g', cp, ss, lo, up, e, h1, h2, h3, h4, h5, h6⟩
  · cases h
  · cases e
    refine ⟨by omega, fun j hj => ?_⟩
    obtain ⟨⟨b1, _, c, cq, e, b2, b3, b4, b5, b6⟩, a2, a3, a4⟩ := h5 j hj
    have k0 := b1 0 (by decide)
    have k1 := b1 1 (by decide)
    have k2 := b1 2 (by decide)
    have k3 := b1 3 (by decide)
    have k4 := b1 4 (by decide)
    simp only [KR, e] at k0 k1 k2 k3 k4
    exact ⟨c, cq, b6.1, k0, k1, k2, k3, k4, b3, b6.pts⟩
set_option maxRecDepth 100000 in
set_option maxHeartbeats 8000000 in
theorem after_cm (now n : Int) (B D : Nat) (rs : List Rw) (ts : List Tx) (w : World) (na n4 n5 : Addr) (hm : rs.length ≤ 1099511627776) (htm : ts.length ≤ 1099511627776) (hr : RwsS w B rs) (ht : TxsS w D ts) (hg : w.cell? ⟨0, 0, none⟩ = some (.iface 258 (.pointer (some na)))) (he : w.cell? ⟨3, 0, none⟩ = some (.iface 148 (.agg #[.pointer (some ⟨4, 87, none⟩)]))) (kc : w.cell? ⟨1, 0, none⟩ = some (.iface 258 (.pointer (some n4)))) (kf : w.cell? ⟨2, 0, none⟩ = some (.iface 258 (.pointer (some n5)))) : Calls Tryz.prog 20 #[.agg #[.int .i64 now, .slice (some ⟨B, 0, none⟩) rs.length rs.length, .slice (some ⟨D, 0, none⟩) ts.length ts.length], .int .i64 n, .func (.func 21) #[] #[]] w fun e w' => SN w (cmW now rs ts n) (cmR now rs ts n) (rbT now rs ts n) (cmN now rs ts n) e w' := by
  have hel0 : 3 < w.heap.size := World.block_lt_of_cell? w ⟨3, 0, none⟩ he
  have HCP := hid (fun (W : World) (hb : Below w.heap.size w W) => store_copied now B D rs.length ts.length rs ts W hm htm (hr.below hb).z (ht.below hb))
  have HTL : Hid (∀ j (h : j < ts.length), ts[j].2.2.length ≤ 1099511627776) := hid (fun j (hj : j < ts.length) => (ht.2 j hj).choose_spec.choose_spec.2.2.1)
  have HRN : Hid (opn now rs ts n = false → ∀ (W : World) (g c tg tcc b1 u1 b2 u2 : Nat), W.cell? ⟨0, 0, none⟩ = some (.iface 258 (.pointer (some na))) → LC KR b1 u1 W (.slice (some ⟨g, 0, none⟩) rs.length c) rs → LC KT b2 u2 W (.slice (some ⟨tg, 0, none⟩) ts.length tcc) ts → Calls Tryz.prog 39 #[.agg #[.int .i64 now, .slice (some ⟨g, 0, none⟩) rs.length c, .slice (some ⟨tg, 0, none⟩) ts.length tcc], .int .i64 n] W fun e w' => e = .returned (.tuple #[zrun, .iface 115 (.agg #[.int .i64 1, .iface 258 (.pointer (some na))])]) ∧ Below W.heap.size W w') := hid (fun h W g c tg tcc b1 u1 b2 u2 hg x1 x2 => run_no now _ _ c tcc rs ts n W hm htm x1.rws (x2.txs HTL.out) _ _ hg h)
  have HRY : Hid (∀ (m : Nat) (hmt : m < ts.length), storeb now rs ts = true → ts[m].2.1 = true → ∀ (W : World) (g c tg tcc b1 u1 b2 u2 : Nat), LC KR b1 u1 W (.slice (some ⟨g, 0, none⟩) rs.length c) rs → LC KT b2 u2 W (.slice (some ⟨tg, 0, none⟩) ts.length tcc) ts → Calls Tryz.prog 39 #[.agg #[.int .i64 now, .slice (some ⟨g, 0, none⟩) rs.length c, .slice (some ⟨tg, 0, none⟩) ts.length tcc], .int .i64 m] W fun e w' => (∃ ca cn cc st, e = .returned (.tuple #[.agg #[.slice ca cn cc, .int .i64 st, .bool true, .int .i64 now, .slice (some ⟨g, 0, none⟩) rs.length c], .nilIface])) ∧ Below W.heap.size W w') := hid (fun m hmt h1 h2 W g c tg tcc b1 u1 b2 u2 x1 x2 => (run_yes now _ _ c tcc rs ts m W hm htm x1.rws (x2.txs HTL.out) hmt h1 h2).mono (fun e w' ⟨ca, ccap, e1, _, _, hb⟩ => ⟨⟨_, _, _, _, e1⟩, hb⟩))
  have HDO : Hid (∀ (m : Nat) (hmt : m < ts.length), ∀ (W : World) (g c tg tcc b1 u1 b2 u2 P : Nat), Below w.heap.size w W → u2 ≤ P → W.heap[P]? = some (.cells #[.int .i64 now, .slice (some ⟨g, 0, none⟩) rs.length c, .slice (some ⟨tg, 0, none⟩) ts.length tcc] 34 (0, 0)) → LC KR b1 u1 W (.slice (some ⟨g, 0, none⟩) rs.length c) rs → LC KT b2 u2 W (.slice (some ⟨tg, 0, none⟩) ts.length tcc) ts → w.heap.size ≤ P → w.heap.size ≤ tg → Calls Tryz.prog 42 #[.pointer (some ⟨P, 0, none⟩), .int .i64 m, .func (.func 21) #[] #[]] W fun e w' => ∃ nw a2 n2 c2, e = .returned (.int .i64 (cmc now rs ts[m].2.2 ts[m].1)) ∧ w'.heap[P]? = some (.cells #[.int .i64 nw, .slice a2 n2 c2, .slice (some ⟨tg, 0, none⟩) ts.length tcc] 34 (0, 0)) ∧ LC KT b2 u2 w' (.slice (some ⟨tg, 0, none⟩) ts.length tcc) (ts.set m (ts[m].1, false, [])) ∧ W.heap.size ≤ w'.heap.size ∧ (∀ b, b < W.heap.size → b ≠ P → b ≠ tg → w'.heap[b]? = W.heap[b]?) ∧ (w'.os = W.os ∧ w'.tape = W.tape ∧ w'.output = W.output) ∧ RZC W.heap.size now rs ts[m].2.2 ts[m].1 (.slice (some ⟨g, 0, none⟩) rs.length c) nw (.slice a2 n2 c2) w') := hid (fun m hmt W g c tg tcc b1 u1 b2 u2 P hbW hP gP x1 x2 p1 p2 => do_cm (RZC W.heap.size now rs ts[m].2.2 ts[m].1 (.slice (some ⟨g, 0, none⟩) rs.length c)) (cmc now rs ts[m].2.2 ts[m].1) now _ _ c tg tcc b2 u2 P m ts W htm hmt hP gP x2 (keepcell hbW he) (Nat.lt_of_lt_of_le hel0 hbW.size) (by omega) (by omega)
    (fun ca cn cc kk R Y hY gR => by
      obtain ⟨q1, q2⟩ := lc_chs_at x2 hmt kk
      subst q1
      exact commit_c W.heap.size now ts[m].1 ts[m].2.1 g c rs ca cc ts[m].2.2 R Y n4 n5 hY.size hm (HTL.out m hmt) ((lc_rwsS x1).below hY) (x1.rws.below hY) (q2.below hY) gR (keepcell hY (keepcell hbW kc)) (keepcell hY (keepcell hbW kf)))
    (fun nw v z z' h1 h2 h3 => h1.frame h2 h3))
  have HNO := hid (@cm_no now rs ts n)
  have HYE : Hid (opn now rs ts n = true → ∃ (m : Nat) (ts2 : List Tx), n = (m : Int) ∧ ts2.length = ts.length ∧ rbT now rs ts n = ts2 ∧ (∀ (W : World) (g c tg tcc b1 u1 b2 u2 : Nat), LC KR b1 u1 W (.slice (some ⟨g, 0, none⟩) rs.length c) rs → LC KT b2 u2 W (.slice (some ⟨tg, 0, none⟩) ts.length tcc) ts → Calls Tryz.prog 39 #[.agg #[.int .i64 now, .slice (some ⟨g, 0, none⟩) rs.length c, .slice (some ⟨tg, 0, none⟩) ts.length tcc], .int .i64 m] W fun e w' => (∃ ca cn cc st, e = .returned (.tuple #[.agg #[.slice ca cn cc, .int .i64 st, .bool true, .int .i64 now, .slice (some ⟨g, 0, none⟩) rs.length c], .nilIface])) ∧ Below W.heap.size W w') ∧
    (∀ (W : World) (g c tg tcc b1 u1 b2 u2 P : Nat), Below w.heap.size w W → u2 ≤ P → W.heap[P]? = some (.cells #[.int .i64 now, .slice (some ⟨g, 0, none⟩) rs.length c, .slice (some ⟨tg, 0, none⟩) ts.length tcc] 34 (0, 0)) → LC KR b1 u1 W (.slice (some ⟨g, 0, none⟩) rs.length c) rs → LC KT b2 u2 W (.slice (some ⟨tg, 0, none⟩) ts.length tcc) ts → w.heap.size ≤ P → w.heap.size ≤ tg → Calls Tryz.prog 42 #[.pointer (some ⟨P, 0, none⟩), .int .i64 m, .func (.func 21) #[] #[]] W fun e w' => ∃ nw a2 n2 c2, e = .returned (.int .i64 (cmN now rs ts n)) ∧ w'.heap[P]? = some (.cells #[.int .i64 nw, .slice a2 n2 c2, .slice (some ⟨tg, 0, none⟩) ts.length tcc] 34 (0, 0)) ∧ LC KT b2 u2 w' (.slice (some ⟨tg, 0, none⟩) ts.length tcc) ts2 ∧ W.heap.size ≤ w'.heap.size ∧ (∀ b, b < W.heap.size → b ≠ P → b ≠ tg → w'.heap[b]? = W.heap[b]?) ∧ (w'.os = W.os ∧ w'.tape = W.tape ∧ w'.output = W.output) ∧ RZ2 W.heap.size nw rs now (.slice (some ⟨g, 0, none⟩) rs.length c) (.slice a2 n2 c2) (cmR now rs ts n) (cmW now rs ts n) w')) := hid (fun h => by
    obtain ⟨m, rfl, hmt, h1, h2⟩ := opn_at h
    obtain ⟨e1, _⟩ := rb_yes hmt h
    refine ⟨m, _, rfl, List.length_set, e1, HRY.out m hmt h1 h2, fun W g c tg tcc b1 u1 b2 u2 P y1 y2 y3 y4 y5 y6 y7 => (HDO.out m hmt W g c tg tcc b1 u1 b2 u2 P y1 y2 y3 y4 y5 y6 y7).mono (fun e w' hh => ?_)⟩
    obtain ⟨nw, a2, n2, c2, z1, z2, z3, z4, z5, z6, z7⟩ := hh
    exact ⟨nw, a2, n2, c2, by rw [z1, cmN_yes hmt h], z2, z3, z4, z5, z6, rz2_of hmt h z7⟩)
  clear hr ht HRY HDO kc kf
  generalize rbT now rs ts n = bt at *
  generalize cmN now rs ts n = bn at *
  generalize cmR now rs ts n = br at *
  generalize cmW now rs ts n = bw at *
  generalize opn now rs ts n = op at *
  obtain ⟨nr, hnr⟩ : ∃ x, x = rs.length := ⟨_, rfl⟩
  obtain ⟨nt, hnt⟩ : ∃ x, x = ts.length := ⟨_, rfl⟩
  have HNR := hid hnr.symm
  have HNT := hid hnt.symm
  unfold StX at HCP
  rw [← hnr, ← hnt] at HCP HRN HYE ⊢
  clear hnr hnt HTL
  have hB : Below w.heap.size w ((w.alloc (.cells #[.int .i64 now, .slice (some ⟨B, 0, none⟩) nr nr, .slice (some ⟨D, 0, none⟩) nt nt] 34)).alloc (.cells #[.int .i64 0, .slice none 0 0, .slice none 0 0] 34)) := balloc (balloc (Below.refl _ _) _) _
  have gP := old_alloc (o' := .cells #[.int .i64 0, .slice none 0 0, .slice none 0 0] 34) (new_alloc w w.heap.size (.cells #[.int .i64 now, .slice (some ⟨B, 0, none⟩) nr nr, .slice (some ⟨D, 0, none⟩) nt nt] 34) rfl)
  have gZ := new_alloc (w.alloc (.cells #[.int .i64 now, .slice (some ⟨B, 0, none⟩) nr nr, .slice (some ⟨D, 0, none⟩) nt nt] 34)) (w.heap.size + 1) (.cells #[.int .i64 0, .slice none 0 0, .slice none 0 0] 34) (by simp)
  have hWs : w.heap.size + 1 < ((w.alloc (.cells #[.int .i64 now, .slice (some ⟨B, 0, none⟩) nr nr, .slice (some ⟨D, 0, none⟩) nt nt] 34)).alloc (.cells #[.int .i64 0, .slice none 0 0, .slice none 0 0] 34)).heap.size := by simp
  have hgl := World.block_lt_of_cell? w ⟨0, 0, none⟩ hg
  have hel := hel0
  go_enter Tryz.func20, Tryz.ntmps20
  go_upto_region 1 with fail
  generalize (w.alloc (.cells #[.int .i64 now, .slice (some ⟨B, 0, none⟩) nr nr, .slice (some ⟨D, 0, none⟩) nt nt] 34)).alloc (.cells #[.int .i64 0, .slice none 0 0, .slice none 0 0] 34) = W at *
  obtain ⟨⟨d0, d1, d2⟩, _⟩ := cellk3 gP
  go_wp2_with fail
  refine (HCP.out _ hB).mono ?_
  rintro e y ⟨g, c, tg, tcc, mid, rfl, ⟨hx1, hx2⟩, hrz, e1, e2, hy⟩
  replace gP := keepheapA hy gP
  replace gZ := keepheapA hy gZ
  replace hB := btrans hB hy
  have hyz := hy.size
  have HX1 := hid hx1
  have HX2 := hid hx2
  clear hy hx1 hx2 HCP d0 d1 d2 hrz gP
  go_upto_region 2 with fail
  have hal : Below y.heap.size y (y.alloc (.cells #[.int .i64 now, .slice (some ⟨g, 0, none⟩) nr c, .slice (some ⟨tg, 0, none⟩) nt tcc] 34)) := balloc (Below.refl _ _) _
  have gQ := new_alloc y y.heap.size (.cells #[.int .i64 now, .slice (some ⟨g, 0, none⟩) nr c, .slice (some ⟨tg, 0, none⟩) nt tcc] 34) rfl
  replace gZ := keepheapA hal gZ
  replace hB := btrans hB hal
  replace HX1 := hid (HX1.out.below hal)
  replace HX2 := hid (HX2.out.below hal)
  have hyq : (y.alloc (.cells #[.int .i64 now, .slice (some ⟨g, 0, none⟩) nr c, .slice (some ⟨tg, 0, none⟩) nt tcc] 34)).heap.size = y.heap.size + 1 := by simp
  have hyq1 := Nat.le_of_eq hyq
  have hyq2 := Nat.le_of_eq hyq.symm
  clear hal hyq
  generalize y.alloc (.cells #[.int .i64 now, .slice (some ⟨g, 0, none⟩) nr c, .slice (some ⟨tg, 0, none⟩) nt tcc] 34) = Y at *
  generalize W.heap.size = Wz at *
  generalize y.heap.size = Q at *
  obtain ⟨⟨t0, t1, t2⟩, _⟩ := cellk3 gQ
  cases op
  · obtain ⟨k1, k2, k3, k4⟩ := HNO.out rfl
    replace k3 := k3.symm
    replace k4 := k4.symm
    subst k3 k4
    have HRN2 := hid (HRN.out rfl Y g c tg tcc _ _ _ _ (keepcell hB hg) HX1.out HX2.out)
    clear HNO HYE HRN
    unfold zrun at HRN2
    go_wp2_with fail
    refine HRN2.out.mono ?_
    rintro e z ⟨rfl, hz⟩
    replace gZ := keepheapA hz gZ
    replace gQ := keepheapA hz gQ
    replace hB := btrans hB hz
    have hzz := hz.size
    replace HX1 := hid (HX1.out.below hz)
    replace HX2 := hid (HX2.out.below hz)
    clear hz t0 t1 t2 HRN2
    go_upto_region 3 with fail
    have hal : Below z.heap.size z (z.alloc (.cells #[.slice none 0 0, .int .i64 0, .bool false, .int .i64 0, .slice none 0 0] 85)) := balloc (Below.refl _ _) _
    replace gZ := keepheapA hal gZ
    replace gQ := keepheapA hal gQ
    replace hB := btrans hB hal
    replace HX1 := hid (HX1.out.below hal)
    replace HX2 := hid (HX2.out.below hal)
    have hvs := hal.size
    clear hal
    generalize z.alloc (.cells #[.slice none 0 0, .int .i64 0, .bool false, .int .i64 0, .slice none 0 0] 85) = V at *
    have hgv := keepcell hB hg
    go_wp2_with fail
    refine (is_hit 1 na _).mono ?_
    rintro e x ⟨rfl, hx⟩
    replace gZ := keepheapA hx gZ
    replace gQ := keepheapA hx gQ
    replace hB := btrans hB hx
    replace HX1 := hid (HX1.out.below hx)
    replace HX2 := hid (HX2.out.below hx)
    have hxs := hx.size
    clear hx hgv
    go_wp2_with fail
    have hex := keepcell hB he
    refine wp_region_held_drew (S := (fun w' => w'.heap[Q]? = some (.cells #[.int .i64 now, .slice (some ⟨g, 0, none⟩) nr c, .slice (some ⟨tg, 0, none⟩) nt tcc] 34 (0, 0)))) (by kernel_rfl) ?_ (fun hHeld => ?_)
    · exact gQ
    replace gQ : x.drew.heap[Q]? = some (.cells #[.int .i64 now, .slice (some ⟨g, 0, none⟩) nr c, .slice (some ⟨tg, 0, none⟩) nt tcc] 34 (0, 0)) := gQ
    replace gZ : x.drew.heap[w.heap.size + 1]? = some (.cells #[.int .i64 0, .slice none 0 0, .slice none 0 0] 34 (0, 0)) := gZ
    replace hB := bdrew hB
    replace HX1 := hid (HX1.out.below (bdrew (Below.refl _ _)))
    replace HX2 := hid (HX2.out.below (bdrew (Below.refl _ _)))
    have hex2 := keepcell hB he
    have hxd : x.heap.size ≤ x.drew.heap.size := Nat.le_refl _
    clear hex
    generalize x.drew = X at *
    refine wpAnyH_take (i := 0) (v := ?_) rfl (by kernel_rfl) (by kernel_rfl) (by kernel_rfl) (fun _ _ _ h => h) (Or.inl ⟨by rfl, ?_⟩) hHeld ?_
    rotate_left
    · intro w' hSw; (try dsimp only at hSw); obtain ⟨⟨_, _, _⟩, _⟩ := cellk3 hSw; go_simp; try (with_reducible rfl)
    try simp only [sq]
    refine wpAnyH_take (i := 1) (v := ?_) rfl (by kernel_rfl) (by kernel_rfl) (by kernel_rfl) (fun _ _ _ h => h) (Or.inl ⟨by rfl, ?_⟩) hHeld ?_
    rotate_left
    · intro w' hSw; (try dsimp only at hSw); go_simp; try (with_reducible rfl)
    try simp only [sq]
    refine wpAnyH_ready (rs := [2]) (by kernel_rfl) (by simp) ?_
    refine AllReadyH.cons rfl (fun K hK => ?_) AllReadyH.nil
    try simp only [sq]
    go_simp
    go_at_call 41
    refine (code_ref 1 _ _ rfl hex2).mono ?_
    rintro e XX ⟨rfl, hx⟩
    replace gZ := keepheapA hx gZ
    replace gQ := keepheapA hx gQ
    replace hB := btrans hB hx
    replace HX1 := hid (HX1.out.below hx)
    replace HX2 := hid (HX2.out.below hx)
    have hxs2 := hx.size
    clear hx hex2
    go_wp2_with fail
    refine hK.out _ _ ?_ (fun hHeld => ?_)
    · exact gQ
    clear hK K
    try simp only [sq]
    obtain ⟨⟨v0, v1, v2⟩, s0, s1, s2⟩ := cellk3 gZ
    refine wpAnyH_ready (rs := [3]) (by kernel_rfl) (by simp) ?_
    refine AllReadyH.cons rfl (fun K hK => ?_) AllReadyH.nil
    try simp only [sq]
    go_simp
    have HB := hid hB
    have hfq : (((XX.setCell ⟨w.heap.size + 1, 0, none⟩ (.int .i64 now)).setCell ⟨w.heap.size + 1, 1, none⟩ (.slice (some ⟨g, 0, none⟩) nr c)).setCell ⟨w.heap.size + 1, 2, none⟩ (.slice (some ⟨tg, 0, none⟩) nt tcc)).heap[Q]? = XX.heap[Q]? := by rw [Below.heap_setCell _ _ _ _ (by dsimp only; omega), Below.heap_setCell _ _ _ _ (by dsimp only; omega), Below.heap_setCell _ _ _ _ (by dsimp only; omega)]
    refine hK.out _ _ ?_ (fun hHeld => ?_)
    · exact hfq.trans gQ
    clear hK K hfq
    try simp only [sq]
    refine wpAnyH_take (i := 4) (v := ?_) rfl (by kernel_rfl) (by kernel_rfl) (by kernel_rfl) (fun _ _ _ h => h) (Or.inl ⟨by rfl, ?_⟩) hHeld ?_
    rotate_left
    · intro w' hSw; (try dsimp only at hSw); go_simp; try (with_reducible rfl)
    try simp only [sq]
    refine wpAnyH_done (by kernel_rfl) ?_ _
    clear hB v0 v1 v2 s0 s1 s2
    have gF := setk3 gZ (.int .i64 now) (.slice (some ⟨g, 0, none⟩) nr c) (.slice (some ⟨tg, 0, none⟩) nt tcc)
    have bF := (bset (bset (bset HB.out (q := w.heap.size + 1) (k := 0) (by omega) (.int .i64 now)) (q := w.heap.size + 1) (k := 1) (by omega) (.slice (some ⟨g, 0, none⟩) nr c)) (q := w.heap.size + 1) (k := 2) (by omega) (.slice (some ⟨tg, 0, none⟩) nt tcc))
    have hfar : ∀ b, b ≠ w.heap.size + 1 → (((XX.setCell ⟨w.heap.size + 1, 0, none⟩ (.int .i64 now)).setCell ⟨w.heap.size + 1, 1, none⟩ (.slice (some ⟨g, 0, none⟩) nr c)).setCell ⟨w.heap.size + 1, 2, none⟩ (.slice (some ⟨tg, 0, none⟩) nt tcc)).heap[b]? = XX.heap[b]? := fun b hb => by rw [Below.heap_setCell _ _ _ _ (by dsimp only; omega), Below.heap_setCell _ _ _ _ (by dsimp only; omega), Below.heap_setCell _ _ _ _ (by dsimp only; omega)]
    have x1 := HX1.out.frame (w' := (((XX.setCell ⟨w.heap.size + 1, 0, none⟩ (.int .i64 now)).setCell ⟨w.heap.size + 1, 1, none⟩ (.slice (some ⟨g, 0, none⟩) nr c)).setCell ⟨w.heap.size + 1, 2, none⟩ (.slice (some ⟨tg, 0, none⟩) nt tcc))) (fun b h1 h2 => hfar b (by omega)) (by simp)
    have x2 := HX2.out.frame (w' := (((XX.setCell ⟨w.heap.size + 1, 0, none⟩ (.int .i64 now)).setCell ⟨w.heap.size + 1, 1, none⟩ (.slice (some ⟨g, 0, none⟩) nr c)).setCell ⟨w.heap.size + 1, 2, none⟩ (.slice (some ⟨tg, 0, none⟩) nt tcc))) (fun b h1 h2 => hfar b (by omega)) (by simp)
    generalize (((XX.setCell ⟨w.heap.size + 1, 0, none⟩ (.int .i64 now)).setCell ⟨w.heap.size + 1, 1, none⟩ (.slice (some ⟨g, 0, none⟩) nr c)).setCell ⟨w.heap.size + 1, 2, none⟩ (.slice (some ⟨tg, 0, none⟩) nt tcc)) = wf at *
    obtain ⟨⟨z0, z1, z2⟩, _⟩ := cellk3 gF
    go_wp2_with fail
    exact bodyPost_ret (v := .tuple #[.agg #[.int .i64 now, .slice (some ⟨g, 0, none⟩) nr c, .slice (some ⟨tg, 0, none⟩) nt tcc], .int .i64 1]) (by simp [results, Tryz.results20, go_sem, z0, z1, z2]) rfl (sn_mk k1 k2 HNR.out HNT.out x1 x2 (by omega) (by omega) (by omega) bF)
  · obtain ⟨m, ts2, rfl, hl2, k1, hry, hdo⟩ := HYE.out rfl
    have HRY := hid (hry Y g c tg tcc _ _ _ _ HX1.out HX2.out)
    have HDO := hid hdo
    clear HNO HYE HRN hry hdo
    go_wp2_with fail
    refine HRY.out.mono ?_
    rintro e z ⟨⟨ca, cn, cc, st, rfl⟩, hz⟩
    replace gZ := keepheapA hz gZ
    replace gQ := keepheapA hz gQ
    replace hB := btrans hB hz
    have hzz := hz.size
    replace HX1 := hid (HX1.out.below hz)
    replace HX2 := hid (HX2.out.below hz)
    clear hz t0 t1 t2 HRY
    go_upto_region 3 with fail
    have hal : Below z.heap.size z (z.alloc (.cells #[.slice ca cn cc, .int .i64 st, .bool true, .int .i64 now, .slice (some ⟨g, 0, none⟩) nr c] 85)) := balloc (Below.refl _ _) _
    replace gZ := keepheapA hal gZ
    replace gQ := keepheapA hal gQ
    replace hB := btrans hB hal
    replace HX1 := hid (HX1.out.below hal)
    replace HX2 := hid (HX2.out.below hal)
    have hvs := hal.size
    clear hal
    generalize z.alloc (.cells #[.slice ca cn cc, .int .i64 st, .bool true, .int .i64 now, .slice (some ⟨g, 0, none⟩) nr c] 85) = V at *
    have hgv := keepcell hB hg
    go_wp2_with fail
    refine (is_none na _).mono ?_
    rintro e x ⟨rfl, hx⟩
    replace hx := hx.symm
    subst hx
    clear hgv
    have htm2 := HX2.out
    have hgt : Wz ≤ tg ∧ tg < mid := by
      obtain ⟨_, ⟨_, q⟩ | ⟨g2, _, _, _, _, q, _, q1, q2, _⟩⟩ := htm2
      · cases q
      · cases q; exact ⟨q1, q2⟩
    have HD := hid (HDO.out V g c tg tcc _ _ _ _ Q hB (by omega) gQ HX1.out HX2.out (by omega) (by omega))
    clear HDO htm2
    go_wp2_with fail
    refine HD.out.mono ?_
    rintro e x ⟨nw, a2, n2, c2, rfl, hq1, hq2, hq3, hq4, hq5, hq6⟩
    replace gZ := (hq4 _ (by have := lt_of_block gZ; omega) (by omega) (by omega)).trans gZ
    replace gQ := hq1
    have HB : Hid (Below w.heap.size w x) := hid ⟨hq5.1.trans hB.os, hq5.2.1.trans hB.tape, hq5.2.2.trans hB.output, by have := hB.size; omega, fun b hb => (hq4 b (by have := hB.size; omega) (by omega) (by omega)).trans (hB.block b hb)⟩
    replace HX1 := hid (HX1.out.frame (w' := x) (fun b h1 h2 => hq4 b (by omega) (by omega) (by omega)) hq3)
    have HX3 := hid hq2
    obtain ⟨e8, e9, rb1, ru1, hq7, hq8, hq9⟩ : bw = nw ∧ br.length = n2 ∧ ∃ b1' u1', LC KR b1' u1' x (.slice a2 n2 c2) br ∧ Wz ≤ b1' ∧ (u1' ≤ Wz ∨ mid ≤ b1') := by
      rcases hq6 with ⟨p1, p2, p3, p4⟩ | ⟨a9, n9, c9, pv, p1, p2, bs, xs, p3, p4⟩
      · cases p3
        refine ⟨p2, by rw [p1]; exact HNR.out, mid, Q, by rw [p1]; exact HX1.out, by omega, .inr (Nat.le_refl _)⟩
      · cases pv
        exact ⟨p2, p1, bs, x.heap.size, p4.lc, by omega, .inr (by omega)⟩
    subst e8
    replace HX1 := hid hq7
    clear hq7 hq6
    clear hq1 hq2 hq4 hq5 hB HX2 HD
    obtain ⟨⟨v0, v1, v2⟩, s0, s1, s2⟩ := cellk3 gZ
    obtain ⟨⟨t0, t1, t2⟩, _⟩ := cellk3 gQ
    go_wp2_with fail
    have gF := setk3 gZ (.int .i64 bw) (.slice a2 n2 c2) (.slice (some ⟨tg, 0, none⟩) nt tcc)
    have bF := (bset (bset (bset HB.out (q := w.heap.size + 1) (k := 0) (by omega) (.int .i64 bw)) (q := w.heap.size + 1) (k := 1) (by omega) (.slice a2 n2 c2)) (q := w.heap.size + 1) (k := 2) (by omega) (.slice (some ⟨tg, 0, none⟩) nt tcc))
    have hfar : ∀ b, b ≠ w.heap.size + 1 → (((x.setCell ⟨w.heap.size + 1, 0, none⟩ (.int .i64 bw)).setCell ⟨w.heap.size + 1, 1, none⟩ (.slice a2 n2 c2)).setCell ⟨w.heap.size + 1, 2, none⟩ (.slice (some ⟨tg, 0, none⟩) nt tcc)).heap[b]? = x.heap[b]? := fun b hb => by rw [Below.heap_setCell _ _ _ _ (by dsimp only; omega), Below.heap_setCell _ _ _ _ (by dsimp only; omega), Below.heap_setCell _ _ _ _ (by dsimp only; omega)]
    have x1 := HX1.out.frame (w' := (((x.setCell ⟨w.heap.size + 1, 0, none⟩ (.int .i64 bw)).setCell ⟨w.heap.size + 1, 1, none⟩ (.slice a2 n2 c2)).setCell ⟨w.heap.size + 1, 2, none⟩ (.slice (some ⟨tg, 0, none⟩) nt tcc))) (fun b h1 h2 => hfar b (by omega)) (by simp)
    have x2 := HX3.out.frame (w' := (((x.setCell ⟨w.heap.size + 1, 0, none⟩ (.int .i64 bw)).setCell ⟨w.heap.size + 1, 1, none⟩ (.slice a2 n2 c2)).setCell ⟨w.heap.size + 1, 2, none⟩ (.slice (some ⟨tg, 0, none⟩) nt tcc))) (fun b h1 h2 => hfar b (by omega)) (by simp)
    generalize (((x.setCell ⟨w.heap.size + 1, 0, none⟩ (.int .i64 bw)).setCell ⟨w.heap.size + 1, 1, none⟩ (.slice a2 n2 c2)).setCell ⟨w.heap.size + 1, 2, none⟩ (.slice (some ⟨tg, 0, none⟩) nt tcc)) = wf at *
    obtain ⟨⟨z0, z1, z2⟩, _⟩ := cellk3 gF
    exact bodyPost_ret (v := .tuple #[.agg #[.int .i64 bw, .slice a2 n2 c2, .slice (some ⟨tg, 0, none⟩) nt tcc], .int .i64 bn]) (by simp [results, Tryz.results20, go_sem, z0, z1, z2]) rfl (sn_mk k1 rfl e9 hl2 x1 x2 (by omega) (by omega) (by omega) bF)
set_option maxRecDepth 100000 in
set_option maxHeartbeats 4000000 in
theorem impl_Commit (now n : Int) (B D : Nat) (rs : List Rw) (ts : List Tx) (w : World) (na n4 n5 : Addr) (hm : rs.length ≤ 1099511627776) (htm : ts.length ≤ 1099511627776) (hr : RwsS w B rs) (ht : TxsS w D ts) (hg : w.cell? ⟨0, 0, none⟩ = some (.iface 258 (.pointer (some na)))) (he : w.cell? ⟨3, 0, none⟩ = some (.iface 148 (.agg #[.pointer (some ⟨4, 87, none⟩)]))) (kc : w.cell? ⟨1, 0, none⟩ = some (.iface 258 (.pointer (some n4)))) (kf : w.cell? ⟨2, 0, none⟩ = some (.iface 258 (.pointer (some n5)))) : Calls Tryz.prog 7 #[.agg #[.int .i64 now, .slice (some ⟨B, 0, none⟩) rs.length rs.length, .slice (some ⟨D, 0, none⟩) ts.length ts.length], .int .i64 n] w fun e w' => SN w (cmW now rs ts n) (cmR now rs ts n) (rbT now rs ts n) (cmN now rs ts n) e w' := by
  have HA := hid (fun (W : World) (hb : Below w.heap.size w W) => after_cm now n B D rs ts W na n4 n5 hm htm (hr.below hb) (ht.below hb) (keepcell hb hg) (keepcell hb he) (keepcell hb kc) (keepcell hb kf))
  clear hr ht hg he kc kf
  generalize rbT now rs ts n = bt at *
  generalize cmN now rs ts n = bn at *
  generalize cmR now rs ts n = br at *
  generalize cmW now rs ts n = bw at *
  unfold SN at HA
  obtain ⟨nr, hnr⟩ : ∃ x, x = rs.length := ⟨_, rfl⟩
  obtain ⟨nt, hnt⟩ : ∃ x, x = ts.length := ⟨_, rfl⟩
  obtain ⟨nb, hnb⟩ : ∃ x, x = bt.length := ⟨_, rfl⟩
  obtain ⟨nq, hnq⟩ : ∃ x, x = br.length := ⟨_, rfl⟩
  have HNQ := hid hnq.symm
  have HNR := hid hnr.symm
  have HNB := hid hnb.symm
  unfold StX at HA
  rw [← hnr, ← hnt, ← hnb, ← hnq] at HA
  rw [← hnr, ← hnt]
  clear hnr hnt hnb hnq
  have hB : Below w.heap.size w ((w.alloc (.cells #[.int .i64 now, .slice (some ⟨B, 0, none⟩) nr nr, .slice (some ⟨D, 0, none⟩) nt nt] 34)).alloc (.cells #[.int .i64 0, .slice none 0 0, .slice none 0 0] 34)) := balloc (balloc (Below.refl _ _) _) _
  have gP := old_alloc (o' := .cells #[.int .i64 0, .slice none 0 0, .slice none 0 0] 34) (new_alloc w w.heap.size (.cells #[.int .i64 now, .slice (some ⟨B, 0, none⟩) nr nr, .slice (some ⟨D, 0, none⟩) nt nt] 34) rfl)
  have gZ := new_alloc (w.alloc (.cells #[.int .i64 now, .slice (some ⟨B, 0, none⟩) nr nr, .slice (some ⟨D, 0, none⟩) nt nt] 34)) (w.heap.size + 1) (.cells #[.int .i64 0, .slice none 0 0, .slice none 0 0] 34) (by simp)
  have hWs : w.heap.size + 1 < ((w.alloc (.cells #[.int .i64 now, .slice (some ⟨B, 0, none⟩) nr nr, .slice (some ⟨D, 0, none⟩) nt nt] 34)).alloc (.cells #[.int .i64 0, .slice none 0 0, .slice none 0 0] 34)).heap.size := by simp
  go_enter Tryz.func7, Tryz.ntmps7
  go_upto_region 1 with fail
  generalize (w.alloc (.cells #[.int .i64 now, .slice (some ⟨B, 0, none⟩) nr nr, .slice (some ⟨D, 0, none⟩) nt nt] 34)).alloc (.cells #[.int .i64 0, .slice none 0 0, .slice none 0 0] 34) = W at *
  obtain ⟨⟨d0, d1, d2⟩, _⟩ := cellk3 gP
  go_wp2_with fail
  refine (HA.out _ hB).mono ?_
  rintro e y ⟨a', c', ta', tcc', b1, u1, b2, u2, rfl, ⟨hx1, hx2⟩, e1, e2, e3, hy⟩
  replace gZ := keepheapA hy gZ
  have HB := hid (btrans hB hy)
  have HX1 := hid hx1
  have HX2 := hid hx2
  have hyz := hy.size
  clear hy hx1 hx2 HA d0 d1 d2 gP hB
  obtain ⟨⟨v0, v1, v2⟩, s0, s1, s2⟩ := cellk3 gZ
  go_wp2_with fail
  have gF := setk3 gZ (.int .i64 bw) (.slice a' nq c') (.slice ta' nb tcc')
  have bF := (bset (bset (bset HB.out (q := w.heap.size + 1) (k := 0) (by omega) (.int .i64 bw)) (q := w.heap.size + 1) (k := 1) (by omega) (.slice a' nq c')) (q := w.heap.size + 1) (k := 2) (by omega) (.slice ta' nb tcc'))
  have hfar : ∀ b, b ≠ w.heap.size + 1 → (((y.setCell ⟨w.heap.size + 1, 0, none⟩ (.int .i64 bw)).setCell ⟨w.heap.size + 1, 1, none⟩ (.slice a' nq c')).setCell ⟨w.heap.size + 1, 2, none⟩ (.slice ta' nb tcc')).heap[b]? = y.heap[b]? := fun b hb => by rw [Below.heap_setCell _ _ _ _ (by dsimp only; omega), Below.heap_setCell _ _ _ _ (by dsimp only; omega), Below.heap_setCell _ _ _ _ (by dsimp only; omega)]
  have x1 := HX1.out.frame (w' := (((y.setCell ⟨w.heap.size + 1, 0, none⟩ (.int .i64 bw)).setCell ⟨w.heap.size + 1, 1, none⟩ (.slice a' nq c')).setCell ⟨w.heap.size + 1, 2, none⟩ (.slice ta' nb tcc'))) (fun b h1 h2 => hfar b (by omega)) (by simp)
  have x2 := HX2.out.frame (w' := (((y.setCell ⟨w.heap.size + 1, 0, none⟩ (.int .i64 bw)).setCell ⟨w.heap.size + 1, 1, none⟩ (.slice a' nq c')).setCell ⟨w.heap.size + 1, 2, none⟩ (.slice ta' nb tcc'))) (fun b h1 h2 => hfar b (by omega)) (by simp)
  generalize (((y.setCell ⟨w.heap.size + 1, 0, none⟩ (.int .i64 bw)).setCell ⟨w.heap.size + 1, 1, none⟩ (.slice a' nq c')).setCell ⟨w.heap.size + 1, 2, none⟩ (.slice ta' nb tcc')) = wf at *
  obtain ⟨⟨z0, z1, z2⟩, _⟩ := cellk3 gF
  exact bodyPost_ret (v := .tuple #[.agg #[.int .i64 bw, .slice a' nq c', .slice ta' nb tcc'], .int .i64 bn]) (by simp [results, Tryz.results7, go_sem, z0, z1, z2]) rfl (sn_mk rfl rfl HNQ.out HNB.out x1 x2 (by omega) (by omega) e3 bF)
end Go.Proofs.YtkdoigibpaempaaGreatDoor
