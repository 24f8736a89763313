/- What a transaction sees: the specification's l07Open, l07Sees, TxnGet. -/
import Derived.Test.YtafjjchebmldeaaGreatDoorSf
import Derived.Test.YtafjjchebmldeaaGreatDoorRwA2
namespace Go.Proofs.YtafjjchebmldeaaGreatDoor
open Go.RowKit
set_option linter.unusedSimpArgs false
set_option linter.unusedVariables false
def txn (ts : List Tx) (n : Int) : Tx := ts.getD n.toNat (0, false, [])
theorem txn_at {ts : List Tx} {m : Nat} (h : m < ts.length) : txn ts (m : Int) = ts[m] := by
  unfold txn
  rw [show ((m : Int)).toNat = m by omega, List.getD_eq_getElem?_getD, List.getElem?_eq_getElem h]; rfl
def opn (now : Int) (rs : List Rw) (ts : List Tx) (n : Int) : Bool := storeb now rs ts && ((decide (0 ≤ n) && decide (n ≤ (ts.length : Int) - 1)) && (txn ts n).2.1)
def chf (cs : List Ch) (id : Int) : Option Ch := cs.find? (fun c => decide (c.1 = id))
theorem chf_some {cs : List Ch} {id : Int} {i : Nat} (h : i < cs.length) (hb : ∀ m (h : m < cs.length), m < i → cs[m].1 ≠ id) (hi : cs[i].1 = id) : chf cs id = some cs[i] := by
  unfold chf
  rw [List.find?_eq_some_iff_getElem]
  exact ⟨by simpa using hi, i, h, rfl, fun j hj => by simpa using hb j (by omega) hj⟩
theorem chf_none {cs : List Ch} {id : Int} (hb : ∀ m (h : m < cs.length), cs[m].1 ≠ id) : chf cs id = none := by
  unfold chf
  rw [List.find?_eq_none]
  intro x hx
  obtain ⟨m, hm, rfl⟩ := List.getElem_of_mem hx
  simpa using hb m hm
def seK (rs : List Rw) (cs : List Ch) (id t : Int) : Int := match chf cs id with
  | some c => if c.2.1 then 0 else c.2.2.1
  | none => raK (rat rs id t)
def seP (rs : List Rw) (cs : List Ch) (id t : Int) : List (Int × Int) := match chf cs id with
  | some c => if c.2.1 then [] else c.2.2.2
  | none => raP (rat rs id t)
def seB (rs : List Rw) (cs : List Ch) (id t : Int) : Bool := match chf cs id with
  | some c => !c.2.1
  | none => (rat rs id t).isSome
theorem se_some {rs : List Rw} {cs : List Ch} {id t : Int} {i : Nat} (h : i < cs.length) (hb : ∀ m (h : m < cs.length), m < i → cs[m].1 ≠ id) (hi : cs[i].1 = id) : (cs[i].2.1 = true → seK rs cs id t = 0 ∧ seP rs cs id t = [] ∧ seB rs cs id t = false) ∧ (cs[i].2.1 = false → seK rs cs id t = cs[i].2.2.1 ∧ seP rs cs id t = cs[i].2.2.2 ∧ seB rs cs id t = true) := by
  unfold seK seP seB
  rw [chf_some h hb hi]
  exact ⟨fun e => by simp [e], fun e => by simp [e]⟩
theorem se_none {rs : List Rw} {cs : List Ch} {id t : Int} (hb : ∀ m (h : m < cs.length), cs[m].1 ≠ id) : seK rs cs id t = raK (rat rs id t) ∧ seP rs cs id t = raP (rat rs id t) ∧ seB rs cs id t = (rat rs id t).isSome := by
  unfold seK seP seB
  rw [chf_none hb]
  exact ⟨rfl, rfl, rfl⟩
set_option maxRecDepth 100000 in
set_option maxHeartbeats 2000000 in
theorem spec_open {N1 N2 : Nat → Prop} (now : Int) (a ta : Option Addr) (cap tcap : Nat) (rs : List Rw) (ts : List Tx) (n : Int) (w : World) (hm : rs.length ≤ 1099511627776) (htm : ts.length ≤ 1099511627776) (hr : Rws N1 w a rs) (ht : Txs N2 1099511627776 w ta ts) : Calls Tryz.prog 21 #[.agg #[.int .i64 now, .slice a rs.length cap, .slice ta ts.length tcap], .int .i64 n] w fun e w' => e = .returned (.bool (opn now rs ts n)) ∧ Below w.heap.size w w' := by
  have HOK := hid (fun (W : World) (hb : Below w.heap.size w W) => spec_StoreOk now a ta cap tcap rs ts W hm htm (hr.below hb) (ht.below hb))
  have HTX := hid ht
  have HOP := hid (show opn now rs ts n = (storeb now rs ts && ((decide (0 ≤ n) && decide (n ≤ (ts.length : Int) - 1)) && (txn ts n).2.1)) from rfl)
  clear hr ht
  generalize opn now rs ts n = q at *
  generalize storeb now rs ts = ob at *
  obtain ⟨tn, hn⟩ : ∃ tn, tn = ts.length := ⟨_, rfl⟩
  have HN := hid hn.symm
  rw [← hn] at htm HOK HOP ⊢
  clear hn
  generalize rs.length = rn at *
  have hB0 : Below w.heap.size w (w.alloc (.cells #[.int .i64 now, .slice a rn cap, .slice ta tn tcap] 39)) := balloc (Below.refl _ _) _
  have g0 := new_alloc w w.heap.size (.cells #[.int .i64 now, .slice a rn cap, .slice ta tn tcap] 39) rfl
  go_enter Tryz.func21, Tryz.ntmps21
  go_upto_region 1 with fail
  generalize w.alloc (.cells #[.int .i64 now, .slice a rn cap, .slice ta tn tcap] 39) = W0 at *
  obtain ⟨⟨d0, d1, d2⟩, _⟩ := cellk3 g0
  go_wp2_with fail
  refine (HOK.out _ hB0).mono ?_
  rintro e z ⟨rfl, hz⟩
  replace g0 := keepheapA hz g0
  have HB := hid (btrans hB0 hz)
  clear hB0 hz HOK d0 d1 d2
  obtain ⟨⟨d0, d1, d2⟩, _⟩ := cellk3 g0
  clear g0
  cases ob
  · go_wp2_with fail
    go_ret
    exact ⟨by rw [HOP.out]; rfl, HB.out⟩
  · have HI := hid (fun W => in_r n 0 ((tn : Int) - 1) W)
    by_cases hin : 0 ≤ n ∧ n ≤ (tn : Int) - 1
    · have hq : (decide (0 ≤ n) && decide (n ≤ (tn : Int) - 1)) = true := by simp [hin.1, hin.2]
      have HQ := hid (show q = (txn ts n).2.1 by rw [HOP.out, hq]; simp)
      rw [hq] at HI
      obtain ⟨m, rfl⟩ : ∃ m : Nat, n = (m : Int) := ⟨n.toNat, by omega⟩
      have hmn : m < tn := by omega
      have hmr : m < ts.length := by rw [HN.out]; exact hmn
      obtain ⟨b, o, rfl, hbs, a', cap', k0, k1, k2, _, _, _, _⟩ := (HTX.out.below HB.out).at m hmr
      have HQ2 := hid (show ts[m].2.1 = q by rw [HQ.out, txn_at hmr])
      generalize ts[m].2.1 = q2 at *
      clear HQ hq hin HOP
      go_wp2_with fail
      refine (HI.out _).mono ?_
      rintro e z2 ⟨rfl, hz2⟩
      replace hz2 := hz2.symm
      subst hz2
      go_wp2_with fail
      go_ret
      exact ⟨by rw [HQ2.out]; rfl, HB.out⟩
    · have hq : (decide (0 ≤ n) && decide (n ≤ (tn : Int) - 1)) = false := by
        by_cases h1 : 0 ≤ n
        · have : ¬ n ≤ (tn : Int) - 1 := fun h => hin ⟨h1, h⟩
          simp [this]
        · simp [h1]
      have HQ := hid (show q = false by rw [HOP.out, hq]; simp)
      rw [hq] at HI
      go_wp2_with fail
      refine (HI.out _).mono ?_
      rintro e z2 ⟨rfl, hz2⟩
      replace hz2 := hz2.symm
      subst hz2
      go_wp2_with fail
      go_ret
      exact ⟨by rw [HQ.out]; rfl, HB.out⟩
set_option maxRecDepth 100000 in
set_option maxHeartbeats 4000000 in
theorem spec_sees {N1 N2 : Nat → Prop} (now : Int) (a ta : Option Addr) (cap tcap : Nat) (rs : List Rw) (ts : List Tx) (m : Nat) (id : Int) (w : World) (hm : rs.length ≤ 1099511627776) (htm : ts.length ≤ 1099511627776) (hr : Rws N1 w a rs) (ht : Txs N2 1099511627776 w ta ts) (hmr : m < ts.length) (hrb : rowsb now rs = true) (hpos : ∀ i (h : i < ts[m].2.2.length), ts[m].2.2[i].2.1 = false → 0 < ts[m].2.2[i].2.2.2.length) : Calls Tryz.prog 22 #[.agg #[.int .i64 now, .slice a rs.length cap, .slice ta ts.length tcap], .int .i64 m, .int .i64 id] w fun e w' => RA w (seK rs ts[m].2.2 id ts[m].1) (seP rs ts[m].2.2 id ts[m].1) (seB rs ts[m].2.2 id ts[m].1) e w' := by
  have HSR : Hid (∀ (W : World) (hb : Below w.heap.size w W), Calls Tryz.prog 44 #[.agg #[.int .i64 now, .slice a rs.length cap], .int .i64 id, .int .i64 ts[m].1] W fun e w' => RA W (raK (rat rs id ts[m].1)) (raP (rat rs id ts[m].1)) (rat rs id ts[m].1).isSome e w') := hid (fun W hb => by
    have hrr : ratb now rs id ts[m].1 = rat rs id ts[m].1 := by unfold ratb; rw [if_pos hrb]
    have := spec_RowAt now a cap rs id ts[m].1 W hm (hr.below hb)
    rw [hrr] at this
    exact this)
  obtain ⟨b, o, rfl, hbs, ca, ccap, k0, k1, k2, _, hcm, hcs, _⟩ := ht.at m hmr
  have HCS := hid hcs
  have HPOS := hid hpos
  clear hr ht hcs hpos
  generalize ts[m].1 = st at *
  generalize ts[m].2.1 = op at *
  generalize ts[m].2.2 = cs at *
  have HY := hid (fun i h hb hi => se_some (rs := rs) (cs := cs) (id := id) (t := st) (i := i) h hb hi)
  have HNO := hid (fun hb => se_none (rs := rs) (cs := cs) (id := id) (t := st) hb)
  generalize seK rs cs id st = sk at *
  generalize seP rs cs id st = sp at *
  generalize seB rs cs id st = sb at *
  generalize raK (rat rs id st) = rk at *
  generalize raP (rat rs id st) = rp at *
  generalize (rat rs id st).isSome = rb at *
  have c0 : (m : Int) < (ts.length : Int) := by omega
  generalize ts.length = tn at *
  generalize rs.length = rn at *
  obtain ⟨n, hn⟩ : ∃ n, n = cs.length := ⟨_, rfl⟩
  have HN := hid hn.symm
  rw [← hn] at hcm k2
  clear hn
  go_enter Tryz.func22, Tryz.ntmps22
  go_upto_region 1 with fail
  have hBx : Below w.heap.size w ((w.alloc (.cells #[.int .i64 now, .slice a rn cap, .slice (some ⟨b, o, none⟩) tn tcap] 39)).alloc (.cells #[.int .i64 0, .slice none 0 0] 31)) := balloc (balloc (Below.refl _ _) _) _
  have g0 := old_alloc (o' := .cells #[.int .i64 0, .slice none 0 0] 31) (new_alloc w w.heap.size (.cells #[.int .i64 now, .slice a rn cap, .slice (some ⟨b, o, none⟩) tn tcap] 39) rfl)
  have g1 := new_alloc (w.alloc (.cells #[.int .i64 now, .slice a rn cap, .slice (some ⟨b, o, none⟩) tn tcap] 39)) (w.heap.size + 1) (.cells #[.int .i64 0, .slice none 0 0] 31) (by simp)
  have hs0 : ((w.alloc (.cells #[.int .i64 now, .slice a rn cap, .slice (some ⟨b, o, none⟩) tn tcap] 39)).alloc (.cells #[.int .i64 0, .slice none 0 0] 31)).heap.size = w.heap.size + 1 + 1 := by simp
  generalize (w.alloc (.cells #[.int .i64 now, .slice a rn cap, .slice (some ⟨b, o, none⟩) tn tcap] 39)).alloc (.cells #[.int .i64 0, .slice none 0 0] 31) = W0 at *
  obtain ⟨⟨d0, d1, d2⟩, _⟩ := cellk3 g0
  replace k0 := keepcell hBx k0
  replace k1 := keepcell hBx k1
  replace k2 := keepcell hBx k2
  go_upto_region 2 with fail
  have hBy : Below w.heap.size w (W0.alloc (.cells #[.int .i64 st, .bool op, .slice ca n ccap] 74)) := balloc hBx _
  have g2 := new_alloc W0 (w.heap.size + 1 + 1) (.cells #[.int .i64 st, .bool op, .slice ca n ccap] 74) (by omega)
  replace g0 := old_alloc (o' := (.cells #[.int .i64 st, .bool op, .slice ca n ccap] 74)) g0
  replace g1 := old_alloc (o' := (.cells #[.int .i64 st, .bool op, .slice ca n ccap] 74)) g1
  clear k0 k1 k2 d0 d1 d2 hBx
  generalize W0.alloc (.cells #[.int .i64 st, .bool op, .slice ca n ccap] 74) = W1 at *
  go_wp2_with fail
  go_loopw [9] (fun ti wr => ∃ i : Nat, ti = .int .i64 i ∧ i ≤ n ∧ Hid (∀ m (h : m < cs.length), m < i → cs[m].1 ≠ id) ∧ Hid (wr.heap[w.heap.size]? = some (.cells #[.int .i64 now, .slice a rn cap, .slice (some ⟨b, o, none⟩) tn tcap] 39 (0, 0))) ∧ Hid (wr.heap[w.heap.size + 1]? = some (.cells #[.int .i64 0, .slice none 0 0] 31 (0, 0))) ∧ Hid (wr.heap[w.heap.size + 1 + 1]? = some (.cells #[.int .i64 st, .bool op, .slice ca n ccap] 74 (0, 0))) ∧ Hid (Below w.heap.size w wr)) (fun ti _ => n - (intOf ti).toNat)
  case atStart => exact ⟨0, rfl, Nat.zero_le _, hid (fun m h hh => absurd hh (by omega)), hid g0, hid g1, hid g2, hid hBy⟩
  case round =>
    clear g0 g1 g2 hBy
    obtain ⟨i, rfl, hi, HA, G0, G1, G2, HBW⟩ := hrel
    obtain ⟨⟨d0, d1, d2⟩, _⟩ := cellk3 G0.out
    obtain ⟨v0, v1, w0, w1⟩ := cell2r G1.out
    obtain ⟨⟨t0, t1, t2⟩, _⟩ := cellk3 G2.out
    by_cases hlt : i < n
    · have c1 : (i : Int) < (n : Int) := by omega
      have hir : i < cs.length := by rw [HN.out]; exact hlt
      obtain ⟨b', o', rfl, hbs', a', cap', x0, x1, x2, x3, x4, x5, x6, _⟩ := (HCS.out.below HBW.out).at i hir
      have SC := hid (fun (hg : cs[i].2.1 = false) (w' : World) (hw : Pts w' a' cs[i].2.2.2) => spec_copy cs[i].2.2.1 a' cap' cs[i].2.2.2 w' (HPOS.out i hir hg) x5 hw)
      have HYES := hid (HY.out i hir HA.out)
      have HNEXT : Hid (cs[i].1 ≠ id → ∀ m (h : m < cs.length), m < i + 1 → cs[m].1 ≠ id) := hid (fun e1 m h hm => by
        by_cases e : m = i
        · subst e; exact e1
        · exact HA.out m h (by omega))
      have K7 := hid x6
      clear x4 x5 x6
      generalize cs[i].1 = id2 at *
      generalize cs[i].2.1 = gn at *
      generalize cs[i].2.2.1 = kd at *
      generalize cs[i].2.2.2 = ps at *
      cases qi : (id2 == id)
      · have hq : id2 ≠ id := by simpa using qi
        have HF := hid (HNEXT.out hq)
        clear hq
        go_wp2_with fail
        go_roundw
        case rel => exact ⟨i + 1, by go_num, by omega, HF, G0, G1, G2, HBW⟩
        case measure => simp [intOf]; omega
      have he : id2 = id := by simpa using qi
      cases gn
      · have HF := hid ((HYES.out he).2 rfl)
        have SC2 := hid (SC.out rfl wr K7.out)
        clear he HYES HNEXT SC
        go_wp2_with fail
        refine SC2.out.mono ?_
        rintro e y ⟨g, cp, rfl, hcp, hgs, ho, hy⟩
        have g1 := keepheapA hy G1.out
        have HBy := hid (btrans HBW.out hy)
        have hgw : w.heap.size + 1 < g := Nat.lt_of_lt_of_le (lt_of_block G1.out) hgs
        clear d0 d1 d2 v0 v1 w0 w1 t0 t1 t2 x0 x1 x2 x3
        obtain ⟨v0, v1, w0, w1⟩ := cell2r g1
        have HO := hid ho
        clear ho hy SC2
        go_wp2_with fail
        have gF := set2r g1 (.int .i64 kd) (.slice (some ⟨g, 0, none⟩) ps.length cp)
        have bF := bset (bset HBy.out (q := w.heap.size + 1) (k := 0) (by omega) (.int .i64 kd)) (q := w.heap.size + 1) (k := 1) (by omega) (.slice (some ⟨g, 0, none⟩) ps.length cp)
        have oF : PtsOwn ((y.setCell ⟨w.heap.size + 1, 0, none⟩ (.int .i64 kd)).setCell ⟨w.heap.size + 1, 1, none⟩ (.slice (some ⟨g, 0, none⟩) ps.length cp)) g ps := by
          refine own_blk HO.out ?_ (by simp; exact HO.out.1)
          rw [Below.heap_setCell _ _ _ _ (by dsimp only; omega), Below.heap_setCell _ _ _ _ (by dsimp only; omega)]
        generalize (y.setCell ⟨w.heap.size + 1, 0, none⟩ (.int .i64 kd)).setCell ⟨w.heap.size + 1, 1, none⟩ (.slice (some ⟨g, 0, none⟩) ps.length cp) = wf at *
        obtain ⟨z0, z1, _, _⟩ := cell2r gF
        exact bodyPost_ret (v := .tuple #[.agg #[.int .i64 kd, .slice (some ⟨g, 0, none⟩) ps.length cp], .bool true]) (by simp [results, Tryz.results22, go_sem, z0, z1]) rfl (ra_yes HF.out.1 HF.out.2.1 HF.out.2.2 hcp (by omega) oF bF)
      · have HF := hid ((HYES.out he).1 rfl)
        clear he HYES HNEXT SC
        go_wp2_with fail
        have gF := set2r G1.out (.int .i64 0) (.slice none 0 0)
        have bF := bset (bset HBW.out (q := w.heap.size + 1) (k := 0) (by omega) (.int .i64 0)) (q := w.heap.size + 1) (k := 1) (by omega) (.slice none 0 0)
        generalize (wr.setCell ⟨w.heap.size + 1, 0, none⟩ (.int .i64 0)).setCell ⟨w.heap.size + 1, 1, none⟩ (.slice none 0 0) = wf at *
        obtain ⟨z0, z1, _, _⟩ := cell2r gF
        exact bodyPost_ret (v := .tuple #[.agg #[.int .i64 0, .slice none 0 0], .bool false]) (by simp [results, Tryz.results22, go_sem, z0, z1]) rfl (ra_no HF.out.1 HF.out.2.1 HF.out.2.2 bF)
    · have HF := hid (HNO.out (fun m hm1 => HA.out m hm1 (by rw [HN.out] at hm1; omega)))
      have c1 : (n : Int) ≤ (i : Int) := by omega
      have SR := hid (HSR.out wr HBW.out)
      go_wp2_with fail
      refine SR.out.mono ?_
      rintro e y ⟨a', cap', rfl, hc, ho, hnew, hy⟩
      have g1 := keepheapA hy G1.out
      have HBy := hid (btrans HBW.out hy)
      have HO := hid ho
      have hzs := lt_of_block G1.out
      clear ho hy d0 d1 d2 v0 v1 w0 w1 t0 t1 t2
      obtain ⟨v0, v1, w0, w1⟩ := cell2r g1
      obtain ⟨f1, f2, f3⟩ := HF.out
      subst f1; subst f2; subst f3
      go_wp2_with fail
      have gF := set2r g1 (.int .i64 sk) (.slice a' sp.length cap')
      have bF := bset (bset HBy.out (q := w.heap.size + 1) (k := 0) (by omega) (.int .i64 sk)) (q := w.heap.size + 1) (k := 1) (by omega) (.slice a' sp.length cap')
      have oF : (a' = none ∧ sp = []) ∨ ∃ b, a' = some ⟨b, 0, none⟩ ∧ PtsOwn ((y.setCell ⟨w.heap.size + 1, 0, none⟩ (.int .i64 sk)).setCell ⟨w.heap.size + 1, 1, none⟩ (.slice a' sp.length cap')) b sp := by
        rcases HO.out with h | ⟨b, e, h⟩
        · exact .inl h
        · have hb := hnew b 0 e
          refine .inr ⟨b, e, own_blk h ?_ (by simp; exact h.1)⟩
          rw [Below.heap_setCell _ _ _ _ (by dsimp only; omega), Below.heap_setCell _ _ _ _ (by dsimp only; omega)]
      have hlw := HBW.out.size
      generalize (y.setCell ⟨w.heap.size + 1, 0, none⟩ (.int .i64 sk)).setCell ⟨w.heap.size + 1, 1, none⟩ (.slice a' sp.length cap') = wf at *
      obtain ⟨z0, z1, _, _⟩ := cell2r gF
      exact bodyPost_ret (v := .tuple #[.agg #[.int .i64 sk, .slice a' sp.length cap'], .bool sb]) (by simp [results, Tryz.results22, go_sem, z0, z1]) rfl ⟨a', cap', rfl, hc, oF, fun b off e => by have := hnew b off e; omega, bF⟩
def gtK (now : Int) (rs : List Rw) (ts : List Tx) (n id : Int) : Int := if opn now rs ts n = true then seK rs (txn ts n).2.2 id (txn ts n).1 else 0
def gtP (now : Int) (rs : List Rw) (ts : List Tx) (n id : Int) : List (Int × Int) := if opn now rs ts n = true then seP rs (txn ts n).2.2 id (txn ts n).1 else []
def gtB (now : Int) (rs : List Rw) (ts : List Tx) (n id : Int) : Bool := if opn now rs ts n = true then seB rs (txn ts n).2.2 id (txn ts n).1 else false
/-- What an open transaction has. -/
theorem opn_yes {now : Int} {rs : List Rw} {ts : List Tx} {n : Int} (h : opn now rs ts n = true) : ∃ m : Nat, n = (m : Int) ∧ ∃ hm : m < ts.length, rowsb now rs = true ∧ txn ts n = ts[m] ∧ edb ts[m].2.2 = true ∧ ts[m].2.1 = true := by
  unfold opn storeb at h
  simp only [Bool.and_eq_true, decide_eq_true_eq, List.all_eq_true] at h
  obtain ⟨⟨h1, _, h2⟩, ⟨h3, h4⟩, h5⟩ := h
  obtain ⟨m, rfl⟩ : ∃ m : Nat, n = (m : Int) := ⟨n.toNat, by omega⟩
  have hm : m < ts.length := by omega
  have hx := h2 ts[m] (List.getElem_mem hm)
  unfold txb at hx
  simp only [Bool.and_eq_true] at hx
  refine ⟨m, rfl, hm, h1, txn_at hm, hx.2, ?_⟩
  rw [txn_at hm] at h5; exact h5
theorem edb_pos {cs : List Ch} (h : edb cs = true) : ∀ i (h : i < cs.length), cs[i].2.1 = false → 0 < cs[i].2.2.2.length := by
  intro i hi hg
  unfold edb at h
  rw [List.all_eq_true] at h
  have := h i (List.mem_range.2 hi)
  unfold edi chb at this
  rw [getD_ch hi, hg] at this
  simp at this
  exact shok_pos this.1.2
set_option maxRecDepth 100000 in
set_option maxHeartbeats 2000000 in
theorem spec_TxnGet {N1 N2 : Nat → Prop} (now : Int) (a ta : Option Addr) (cap tcap : Nat) (rs : List Rw) (ts : List Tx) (n id : Int) (w : World) (hm : rs.length ≤ 1099511627776) (htm : ts.length ≤ 1099511627776) (hr : Rws N1 w a rs) (ht : Txs N2 1099511627776 w ta ts) : Calls Tryz.prog 6 #[.agg #[.int .i64 now, .slice a rs.length cap, .slice ta ts.length tcap], .int .i64 n, .int .i64 id] w fun e w' => RA w (gtK now rs ts n id) (gtP now rs ts n id) (gtB now rs ts n id) e w' := by
  have HOK := hid (fun (W : World) (hb : Below w.heap.size w W) => spec_open now a ta cap tcap rs ts n W hm htm (hr.below hb) (ht.below hb))
  have HSR : Hid (opn now rs ts n = true → ∀ (W : World) (hb : Below w.heap.size w W), Calls Tryz.prog 22 #[.agg #[.int .i64 now, .slice a rs.length cap, .slice ta ts.length tcap], .int .i64 n, .int .i64 id] W fun e w' => RA W (gtK now rs ts n id) (gtP now rs ts n id) (gtB now rs ts n id) e w') := hid (fun e W hb => by
    unfold gtK gtP gtB
    rw [if_pos e, if_pos e, if_pos e]
    obtain ⟨m, rfl, hmr, h1, h2, h3, _⟩ := opn_yes e
    rw [h2]
    exact spec_sees now a ta cap tcap rs ts m id W hm htm (hr.below hb) (ht.below hb) hmr h1 (edb_pos h3))
  have HNO : Hid (opn now rs ts n = false → gtK now rs ts n id = 0 ∧ gtP now rs ts n id = [] ∧ gtB now rs ts n id = false) := hid (fun e => by
    unfold gtK gtP gtB
    rw [e]; exact ⟨rfl, rfl, rfl⟩)
  clear hr ht
  generalize gtK now rs ts n id = rk at *
  generalize gtP now rs ts n id = rp at *
  generalize gtB now rs ts n id = rb at *
  generalize opn now rs ts n = ob at *
  generalize rs.length = rn at *
  generalize ts.length = tn at *
  go_enter Tryz.func6, Tryz.ntmps6
  go_upto_region 1 with fail
  have hBx : Below w.heap.size w ((w.alloc (.cells #[.int .i64 now, .slice a rn cap, .slice ta tn tcap] 39)).alloc (.cells #[.int .i64 0, .slice none 0 0] 31)) := balloc (balloc (Below.refl _ _) _) _
  have g0 := old_alloc (o' := .cells #[.int .i64 0, .slice none 0 0] 31) (new_alloc w w.heap.size (.cells #[.int .i64 now, .slice a rn cap, .slice ta tn tcap] 39) rfl)
  have g1 := new_alloc (w.alloc (.cells #[.int .i64 now, .slice a rn cap, .slice ta tn tcap] 39)) (w.heap.size + 1) (.cells #[.int .i64 0, .slice none 0 0] 31) (by simp)
  generalize (w.alloc (.cells #[.int .i64 now, .slice a rn cap, .slice ta tn tcap] 39)).alloc (.cells #[.int .i64 0, .slice none 0 0] 31) = W0 at *
  obtain ⟨⟨d0, d1, d2⟩, _⟩ := cellk3 g0
  go_wp2_with fail
  refine (HOK.out _ hBx).mono ?_
  rintro e z ⟨rfl, hz⟩
  replace g0 := keepheapA hz g0
  replace g1 := keepheapA hz g1
  have HB := hid (btrans hBx hz)
  clear hBx hz HOK d0 d1 d2
  obtain ⟨⟨d0, d1, d2⟩, _⟩ := cellk3 g0
  obtain ⟨v0, v1, w0, w1⟩ := cell2r g1
  cases ob
  · obtain ⟨e1, e2, e3⟩ := HNO.out rfl
    go_wp2_with fail
    have gF := set2r g1 (.int .i64 0) (.slice none 0 0)
    have bF := bset (bset HB.out (q := w.heap.size + 1) (k := 0) (by omega) (.int .i64 0)) (q := w.heap.size + 1) (k := 1) (by omega) (.slice none 0 0)
    generalize (z.setCell ⟨w.heap.size + 1, 0, none⟩ (.int .i64 0)).setCell ⟨w.heap.size + 1, 1, none⟩ (.slice none 0 0) = wf at *
    obtain ⟨z0, z1, _, _⟩ := cell2r gF
    exact bodyPost_ret (v := .tuple #[.agg #[.int .i64 0, .slice none 0 0], .bool false]) (by simp [results, Tryz.results6, go_sem, z0, z1]) rfl (ra_no e1 e2 e3 bF)
  · have SR := hid (HSR.out rfl z HB.out)
    have HG1 := hid g1
    clear HSR HNO g0 g1 v0 v1 w0 w1
    go_wp2_with fail
    refine SR.out.mono ?_
    rintro e y ⟨a', cap', rfl, hc, ho, hnew, hy⟩
    have g1 := keepheapA hy HG1.out
    have HBy := hid (btrans HB.out hy)
    have HO := hid ho
    have hzs := lt_of_block HG1.out
    clear ho hy d0 d1 d2
    obtain ⟨v0, v1, w0, w1⟩ := cell2r g1
    go_wp2_with fail
    have gF := set2r g1 (.int .i64 rk) (.slice a' rp.length cap')
    have bF := bset (bset HBy.out (q := w.heap.size + 1) (k := 0) (by omega) (.int .i64 rk)) (q := w.heap.size + 1) (k := 1) (by omega) (.slice a' rp.length cap')
    have oF : (a' = none ∧ rp = []) ∨ ∃ b, a' = some ⟨b, 0, none⟩ ∧ PtsOwn ((y.setCell ⟨w.heap.size + 1, 0, none⟩ (.int .i64 rk)).setCell ⟨w.heap.size + 1, 1, none⟩ (.slice a' rp.length cap')) b rp := by
      rcases HO.out with h | ⟨b, e, h⟩
      · exact .inl h
      · have hb := hnew b 0 e
        refine .inr ⟨b, e, own_blk h ?_ (by simp; exact h.1)⟩
        rw [Below.heap_setCell _ _ _ _ (by dsimp only; omega), Below.heap_setCell _ _ _ _ (by dsimp only; omega)]
    generalize (y.setCell ⟨w.heap.size + 1, 0, none⟩ (.int .i64 rk)).setCell ⟨w.heap.size + 1, 1, none⟩ (.slice a' rp.length cap') = wf at *
    obtain ⟨z0, z1, _, _⟩ := cell2r gF
    exact bodyPost_ret (v := .tuple #[.agg #[.int .i64 rk, .slice a' rp.length cap'], .bool rb]) (by simp [results, Tryz.results6, go_sem, z0, z1]) rfl ⟨a', cap', rfl, hc, oF, fun b off e => by have := hnew b off e; omega, bF⟩
end Go.Proofs.YtafjjchebmldeaaGreatDoor
