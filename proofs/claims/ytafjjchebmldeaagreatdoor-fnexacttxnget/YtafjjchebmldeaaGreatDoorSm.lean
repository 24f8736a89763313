/- What a transaction sees: txnRun.seen, TxnGet of the landed side. -/
import Derived.Test.YtafjjchebmldeaaGreatDoorSl
namespace Go.Proofs.YtafjjchebmldeaaGreatDoor
open Go.RowKit
set_option linter.unusedSimpArgs false
set_option linter.unusedVariables false
set_option maxRecDepth 100000 in
set_option maxHeartbeats 4000000 in
theorem impl_seen {N1 N3 : Nat → Prop} (now : Int) (a ca : Option Addr) (cap ccap : Nat) (rs : List Rw) (cs : List Ch) (st : Int) (op : Bool) (id : Int) (w : World) (hm : rs.length ≤ 1099511627776) (hcm : cs.length ≤ 1099511627776) (hr : Rws N1 w a rs) (hc : Chs N3 1099511627776 w ca cs) (hrb : rowsb now rs = true) (hed : edb cs = true) : Calls Tryz.prog 26 #[.agg #[.slice ca cs.length ccap, .int .i64 st, .bool op, .int .i64 now, .slice a rs.length cap], .int .i64 id] w fun e w' => SA w (seK rs cs id st) (seP rs cs id st) (seB rs cs id st) e w' := by
  have HP := hid (fun (W : World) (hb : Below w.heap.size w W) => place_c ca ccap cs id W hcm (hc.below hb) (edb_asc hed))
  have HS := hid (fun (W : World) (hb : Below w.heap.size w W) => impl_shapeAt now a cap rs id st W hm (hr.below hb) (rowsb_pos hrb))
  have HCS := hid hc
  have HPOS := hid (edb_pos hed)
  have HAS := hid (edb_asc hed)
  clear hr hc hrb hed
  have HY := hid (fun i h hb hi => se_some (rs := rs) (cs := cs) (id := id) (t := st) (i := i) h hb hi)
  have HNO := hid (fun hb => se_none (rs := rs) (cs := cs) (id := id) (t := st) hb)
  generalize seK rs cs id st = sk at *
  generalize seP rs cs id st = sp at *
  generalize seB rs cs id st = sb at *
  generalize raK (rat rs id st) = rk at *
  generalize raP (rat rs id st) = rp at *
  generalize (rat rs id st).isSome = rb at *
  generalize rs.length = rn at *
  obtain ⟨n, hn⟩ : ∃ n, n = cs.length := ⟨_, rfl⟩
  have HN := hid hn.symm
  rw [← hn] at hcm HP ⊢
  clear hn
  have hB0 : Below w.heap.size w ((w.alloc (.cells #[.slice ca n ccap, .int .i64 st, .bool op, .int .i64 now, .slice a rn cap] 59)).alloc (.cells #[.int .i64 0, .slice none 0 0] 31)) := balloc (balloc (Below.refl _ _) _) _
  have g0 := old_alloc (o' := (.cells #[.int .i64 0, .slice none 0 0] 31)) (new_alloc w w.heap.size (.cells #[.slice ca n ccap, .int .i64 st, .bool op, .int .i64 now, .slice a rn cap] 59) rfl)
  have g1 := new_alloc (w.alloc (.cells #[.slice ca n ccap, .int .i64 st, .bool op, .int .i64 now, .slice a rn cap] 59)) (w.heap.size + 1) (.cells #[.int .i64 0, .slice none 0 0] 31) (by simp)
  go_enter Tryz.func26, Tryz.ntmps26
  go_upto_region 1 with fail
  generalize (w.alloc (.cells #[.slice ca n ccap, .int .i64 st, .bool op, .int .i64 now, .slice a rn cap] 59)).alloc (.cells #[.int .i64 0, .slice none 0 0] 31) = W0 at *
  obtain ⟨⟨d0, d1, d2, d3, d4⟩, _⟩ := cell5g g0
  go_wp2_with fail
  refine (HP.out _ hB0).mono ?_
  rintro e z ⟨i, rfl, hin, hlo, hhi, hz⟩
  replace g0 := keepheapA hz g0
  have HG1 := hid (keepheapA hz g1)
  have HB := hid (btrans hB0 hz)
  have HLO := hid hlo
  have HHI := hid hhi
  clear hB0 hz HP d0 d1 d2 d3 d4 g1 hlo hhi
  obtain ⟨⟨d0, d1, d2, d3, d4⟩, _⟩ := cell5g g0
  obtain ⟨v0, v1, w0, w1⟩ := cell2r HG1.out
  by_cases hf : i < n ∧ idc cs i = id
  · have hq : (decide (i < n) && decide (idc cs i = id)) = true := by simp [hf.1, hf.2]
    rw [hq]
    have hlt := hf.1
    have hir : i < cs.length := by rw [HN.out]; exact hlt
    have hid2 := hf.2
    rw [idc_at hir] at hid2
    have HYES := hid (HY.out i hir (fun m h h' => by have := HLO.out m h'; rw [idc_at h] at this; omega) hid2)
    clear hq hf hid2
    obtain ⟨b', o', rfl, hbs', a', cap', x0, x1, x2, x3, x4, x5, x6, _⟩ := (HCS.out.below HB.out).at i hir
    have HPS := hid (HPOS.out i hir)
    have K7 := hid x6
    have c1 : (i : Int) < (n : Int) := by omega
    clear x4 x6 HY HNO
    generalize cs[i].1 = id2 at *
    generalize cs[i].2.1 = gn at *
    generalize cs[i].2.2.1 = kd at *
    generalize cs[i].2.2.2 = ps at *
    cases gn
    · obtain ⟨e1, e2, e3⟩ := HYES.out.2 rfl
      subst e1; subst e2; subst e3
      have hps := HPS.out rfl
      go_wp2_with fail
      have gF := set2r HG1.out (.int .i64 sk) (.slice a' sp.length cap')
      have bF := bset (bset HB.out (q := w.heap.size + 1) (k := 0) (by omega) (.int .i64 sk)) (q := w.heap.size + 1) (k := 1) (by omega) (.slice a' sp.length cap')
      have oF := pts_off K7.out hps (by intro i h; cases h) HG1.out (.int .i64 sk) (.slice a' sp.length cap')
      generalize (z.setCell ⟨w.heap.size + 1, 0, none⟩ (.int .i64 sk)).setCell ⟨w.heap.size + 1, 1, none⟩ (.slice a' sp.length cap') = wf at *
      obtain ⟨z0, z1, _, _⟩ := cell2r gF
      exact bodyPost_ret (v := .tuple #[.agg #[.int .i64 sk, .slice a' sp.length cap'], .bool true]) (by simp [results, Tryz.results26, go_sem, z0, z1]) rfl ⟨a', cap', rfl, .inr ⟨rfl, hps, x5, oF⟩, bF⟩
    · obtain ⟨e1, e2, e3⟩ := HYES.out.1 rfl
      subst e1; subst e2; subst e3
      go_wp2_with fail
      have gF := set2r HG1.out (.int .i64 0) (.slice none 0 0)
      have bF := bset (bset HB.out (q := w.heap.size + 1) (k := 0) (by omega) (.int .i64 0)) (q := w.heap.size + 1) (k := 1) (by omega) (.slice none 0 0)
      generalize (z.setCell ⟨w.heap.size + 1, 0, none⟩ (.int .i64 0)).setCell ⟨w.heap.size + 1, 1, none⟩ (.slice none 0 0) = wf at *
      obtain ⟨z0, z1, _, _⟩ := cell2r gF
      exact bodyPost_ret (v := .tuple #[.agg #[.int .i64 0, .slice none 0 0], .bool false]) (by simp [results, Tryz.results26, go_sem, z0, z1]) rfl ⟨none, 0, rfl, .inl ⟨rfl, rfl, rfl, rfl⟩, bF⟩
  · have hq : (decide (i < n) && decide (idc cs i = id)) = false := by
      by_cases h1 : i < n
      · have : ¬ idc cs i = id := fun h => hf ⟨h1, h⟩
        simp [this]
      · simp [h1]
    rw [hq]
    obtain ⟨e1, e2, e3⟩ := HNO.out (fun m h e => by
      have hmn : m < n := by rw [← HN.out]; exact h
      have hm1 := idc_at h
      by_cases h1 : m < i
      · have := HLO.out m h1; omega
      · by_cases h2 : m = i
        · subst h2; exact hf ⟨hmn, by omega⟩
        · have h3 := HAS.out i m (by omega) h
          have h4 := HHI.out i (Nat.le_refl _) (by omega)
          omega)
    subst e1; subst e2; subst e3
    have SR := hid (HS.out z HB.out)
    clear hq hf HY HNO
    go_wp2_with fail
    refine SR.out.mono ?_
    rintro e y ⟨a', cap', rfl, hh, hy⟩
    have g1 := keepheapA hy HG1.out
    have HBy := hid (btrans HB.out hy)
    have HH := hid hh
    clear hh hy d0 d1 d2 d3 d4 v0 v1 w0 w1 SR HS
    obtain ⟨v0, v1, w0, w1⟩ := cell2r g1
    go_wp2_with fail
    have gF := set2r g1 (.int .i64 sk) (.slice a' sp.length cap')
    have bF := bset (bset HBy.out (q := w.heap.size + 1) (k := 0) (by omega) (.int .i64 sk)) (q := w.heap.size + 1) (k := 1) (by omega) (.slice a' sp.length cap')
    have oF : (sb = false ∧ a' = none ∧ cap' = 0 ∧ sp = []) ∨ (sb = true ∧ 0 < sp.length ∧ sp.length ≤ 1099511627776 ∧ Pts ((y.setCell ⟨w.heap.size + 1, 0, none⟩ (.int .i64 sk)).setCell ⟨w.heap.size + 1, 1, none⟩ (.slice a' sp.length cap')) a' sp) := by
      rcases HH.out with h | ⟨h1, h2, h3, h4⟩
      · exact .inl h
      · exact .inr ⟨h1, h2, h3, pts_off h4 h2 (by intro i h; cases h) g1 _ _⟩
    generalize (y.setCell ⟨w.heap.size + 1, 0, none⟩ (.int .i64 sk)).setCell ⟨w.heap.size + 1, 1, none⟩ (.slice a' sp.length cap') = wf at *
    obtain ⟨z0, z1, _, _⟩ := cell2r gF
    exact bodyPost_ret (v := .tuple #[.agg #[.int .i64 sk, .slice a' sp.length cap'], .bool sb]) (by simp [results, Tryz.results26, go_sem, z0, z1]) rfl ⟨a', cap', rfl, oF, bF⟩
theorem opn_st {now : Int} {rs : List Rw} {ts : List Tx} {n : Int} (h : opn now rs ts n = true) : storeb now rs ts = true := by
  unfold opn at h
  simp only [Bool.and_eq_true] at h
  exact h.1
set_option maxRecDepth 100000 in
set_option maxHeartbeats 4000000 in
theorem impl_TxnGet {N1 N2 : Nat → Prop} (now : Int) (a ta : Option Addr) (cap tcap : Nat) (rs : List Rw) (ts : List Tx) (n id : Int) (w : World) (hm : rs.length ≤ 1099511627776) (htm : ts.length ≤ 1099511627776) (hr : Rws N1 w a rs) (ht : Txs N2 1099511627776 w ta ts) (et : TypeId) (ev : Value) (hg : w.cell? ⟨0, 0, none⟩ = some (.iface et ev)) : Calls Tryz.prog 8 #[.agg #[.int .i64 now, .slice a rs.length cap, .slice ta ts.length tcap], .int .i64 n, .int .i64 id] w fun e w' => RA w (gtK now rs ts n id) (gtP now rs ts n id) (gtB now rs ts n id) e w' := by
  cases hob : opn now rs ts n
  · have HRN := hid (fun (W : World) (hb : Below w.heap.size w W) => run_no now a ta cap tcap rs ts n W hm htm (hr.below hb) (ht.below hb) et ev (keepcell hb hg) hob)
    obtain ⟨e1, e2, e3⟩ : gtK now rs ts n id = 0 ∧ gtP now rs ts n id = [] ∧ gtB now rs ts n id = false := by
      unfold gtK gtP gtB
      rw [hob]; exact ⟨rfl, rfl, rfl⟩
    clear hr ht hg hob
    unfold zrun at HRN
    generalize gtK now rs ts n id = rk at *
    generalize gtP now rs ts n id = rp at *
    generalize gtB now rs ts n id = rb at *
    generalize rs.length = rn at *
    generalize ts.length = tn at *
    have hBx : Below w.heap.size w ((w.alloc (.cells #[.int .i64 now, .slice a rn cap, .slice ta tn tcap] 39)).alloc (.cells #[.int .i64 0, .slice none 0 0] 31)) := balloc (balloc (Below.refl _ _) _) _
    have g0 := old_alloc (o' := (.cells #[.int .i64 0, .slice none 0 0] 31)) (new_alloc w w.heap.size (.cells #[.int .i64 now, .slice a rn cap, .slice ta tn tcap] 39) rfl)
    have g1 := new_alloc (w.alloc (.cells #[.int .i64 now, .slice a rn cap, .slice ta tn tcap] 39)) (w.heap.size + 1) (.cells #[.int .i64 0, .slice none 0 0] 31) (by simp)
    go_enter Tryz.func8, Tryz.ntmps8
    go_upto_region 1 with fail
    generalize (w.alloc (.cells #[.int .i64 now, .slice a rn cap, .slice ta tn tcap] 39)).alloc (.cells #[.int .i64 0, .slice none 0 0] 31) = W0 at *
    obtain ⟨⟨d0, d1, d2⟩, _⟩ := cellk3 g0
    go_wp2_with fail
    refine (HRN.out _ hBx).mono ?_
    rintro e z ⟨rfl, hz⟩
    have HG1 := hid (keepheapA hz g1)
    have HB := hid (btrans hBx hz)
    clear hBx hz HRN d0 d1 d2 g0 g1
    go_upto_region 2 with fail
    have hBy : Below z.heap.size z (z.alloc (.cells #[.slice none 0 0, .int .i64 0, .bool false, .int .i64 0, .slice none 0 0] 59)) := balloc (Below.refl _ _) _
    have HG2 := hid (keepheapA hBy HG1.out)
    have HB2 := hid (btrans HB.out hBy)
    clear hBy HG1 HB
    generalize z.alloc (.cells #[.slice none 0 0, .int .i64 0, .bool false, .int .i64 0, .slice none 0 0] 59) = Y at *
    generalize z.heap.size = Z at *
    obtain ⟨v0, v1, w0, w1⟩ := cell2r HG2.out
    go_wp2_with fail
    have gF := set2r HG2.out (.int .i64 0) (.slice none 0 0)
    have bF := bset (bset HB2.out (q := w.heap.size + 1) (k := 0) (by omega) (.int .i64 0)) (q := w.heap.size + 1) (k := 1) (by omega) (.slice none 0 0)
    generalize (Y.setCell ⟨w.heap.size + 1, 0, none⟩ (.int .i64 0)).setCell ⟨w.heap.size + 1, 1, none⟩ (.slice none 0 0) = wf at *
    obtain ⟨z0, z1, _, _⟩ := cell2r gF
    exact bodyPost_ret (v := .tuple #[.agg #[.int .i64 0, .slice none 0 0], .bool false]) (by simp [results, Tryz.results8, go_sem, z0, z1]) rfl (ra_no e1 e2 e3 bF)
  · obtain ⟨m, rfl, hmr, h1, h2, h3, h4⟩ := opn_yes hob
    have hst := opn_st hob
    have HRY := hid (fun (W : World) (hb : Below w.heap.size w W) => run_yes now a ta cap tcap rs ts m W hm htm (hr.below hb) (ht.below hb) hmr hst h4)
    have HSN := hid (fun (W : World) (ca : Option Addr) (ccap : Nat) (hb : Below w.heap.size w W) (hl : ts[m].2.2.length ≤ 1099511627776) (hc : Chs N2 1099511627776 W ca ts[m].2.2) => impl_seen now a ca cap ccap rs ts[m].2.2 ts[m].1 true id W hm hl (hr.below hb) hc h1 h3)
    obtain ⟨e1, e2, e3⟩ : gtK now rs ts m id = seK rs ts[m].2.2 id ts[m].1 ∧ gtP now rs ts m id = seP rs ts[m].2.2 id ts[m].1 ∧ gtB now rs ts m id = seB rs ts[m].2.2 id ts[m].1 := by
      unfold gtK gtP gtB
      rw [hob, h2]; exact ⟨rfl, rfl, rfl⟩
    rw [e1, e2, e3]
    clear hr ht hg hob e1 e2 e3 h1 h2 h3 h4 hst
    generalize seK rs ts[m].2.2 id ts[m].1 = rk at *
    generalize seP rs ts[m].2.2 id ts[m].1 = rp at *
    generalize seB rs ts[m].2.2 id ts[m].1 = rb at *
    generalize ts[m].1 = st at *
    generalize ts[m].2.2 = cs at *
    generalize rs.length = rn at *
    generalize ts.length = tn at *
    have hBx : Below w.heap.size w ((w.alloc (.cells #[.int .i64 now, .slice a rn cap, .slice ta tn tcap] 39)).alloc (.cells #[.int .i64 0, .slice none 0 0] 31)) := balloc (balloc (Below.refl _ _) _) _
    have g0 := old_alloc (o' := (.cells #[.int .i64 0, .slice none 0 0] 31)) (new_alloc w w.heap.size (.cells #[.int .i64 now, .slice a rn cap, .slice ta tn tcap] 39) rfl)
    have g1 := new_alloc (w.alloc (.cells #[.int .i64 now, .slice a rn cap, .slice ta tn tcap] 39)) (w.heap.size + 1) (.cells #[.int .i64 0, .slice none 0 0] 31) (by simp)
    go_enter Tryz.func8, Tryz.ntmps8
    go_upto_region 1 with fail
    generalize (w.alloc (.cells #[.int .i64 now, .slice a rn cap, .slice ta tn tcap] 39)).alloc (.cells #[.int .i64 0, .slice none 0 0] 31) = W0 at *
    obtain ⟨⟨d0, d1, d2⟩, _⟩ := cellk3 g0
    go_wp2_with fail
    refine (HRY.out _ hBx).mono ?_
    rintro e z ⟨ca, ccap, rfl, hcl, hcs, hz⟩
    have HG1 := hid (keepheapA hz g1)
    have HB := hid (btrans hBx hz)
    have HCS := hid hcs
    clear hBx hz HRY d0 d1 d2 g0 g1 hcs
    obtain ⟨cn, hcn⟩ : ∃ cn, cn = cs.length := ⟨_, rfl⟩
    rw [← hcn] at hcl HSN ⊢
    clear hcn
    go_upto_region 2 with fail
    have hBy : Below z.heap.size z (z.alloc (.cells #[.slice ca cn ccap, .int .i64 st, .bool true, .int .i64 now, .slice a rn cap] 59)) := balloc (Below.refl _ _) _
    have g2 := new_alloc z z.heap.size (.cells #[.slice ca cn ccap, .int .i64 st, .bool true, .int .i64 now, .slice a rn cap] 59) rfl
    have HG2 := hid (keepheapA hBy HG1.out)
    have HB2 := hid (btrans HB.out hBy)
    have HSN2 := hid (HSN.out _ ca ccap HB2.out hcl (HCS.out.below hBy))
    have hzs := lt_of_block HG1.out
    clear hBy HG1 HB HSN HCS
    generalize z.alloc (.cells #[.slice ca cn ccap, .int .i64 st, .bool true, .int .i64 now, .slice a rn cap] 59) = Y at *
    generalize z.heap.size = Z at *
    obtain ⟨⟨d0, d1, d2, d3, d4⟩, _⟩ := cell5g g2
    go_wp2_with fail
    refine HSN2.out.mono ?_
    rintro e y ⟨a', cap', rfl, hh, hy⟩
    have HG3 := hid (keepheapA hy HG2.out)
    have HBy := hid (btrans HB2.out hy)
    have hys := lt_of_block HG3.out
    have HH := hid hh
    clear hh hy d0 d1 d2 d3 d4 HSN2 g2 HG2 HB2
    have HC : Hid (∀ (W : World), Below y.heap.size y W → Calls Tryz.prog 27 #[.agg #[.int .i64 rk, .slice a' rp.length cap']] W fun e w' => CP W rk rp e w') := hid (fun W hb => by
      rcases HH.out with ⟨_, rfl, rfl, rfl⟩ | ⟨_, h1, h2, h3⟩
      · exact impl_copy0 rk W
      · exact impl_copy rk a' cap' rp W h1 h2 (h3.below hb))
    clear HH
    go_upto_region 5 with fail
    have hBx : Below y.heap.size y (y.alloc (.cells #[.int .i64 rk, .slice a' rp.length cap'] 31)) := balloc (Below.refl _ _) _
    have g3 := new_alloc y y.heap.size (.cells #[.int .i64 rk, .slice a' rp.length cap'] 31) rfl
    have HG4 := hid (keepheapA hBx HG3.out)
    have HB4 := hid (btrans HBy.out hBx)
    have HC4 := hid (HC.out _ hBx)
    have hsz4 : y.heap.size ≤ (y.alloc (.cells #[.int .i64 rk, .slice a' rp.length cap'] 31)).heap.size := hBx.size
    clear hBx HC
    generalize y.alloc (.cells #[.int .i64 rk, .slice a' rp.length cap'] 31) = Y2 at *
    obtain ⟨x0, x1, _, _⟩ := cell2r g3
    go_wp2_with fail
    refine HC4.out.mono ?_
    rintro e u ⟨g, cp, rfl, hcp, hgs, ho, hu⟩
    have g1 := keepheapA hu HG4.out
    have HBu := hid (btrans HB4.out hu)
    have HO := hid ho
    clear ho hu x0 x1 g3
    obtain ⟨v0, v1, w0, w1⟩ := cell2r g1
    go_wp2_with fail
    have gF := set2r g1 (.int .i64 rk) (.slice (some ⟨g, 0, none⟩) rp.length cp)
    have bF := bset (bset HBu.out (q := w.heap.size + 1) (k := 0) (by omega) (.int .i64 rk)) (q := w.heap.size + 1) (k := 1) (by omega) (.slice (some ⟨g, 0, none⟩) rp.length cp)
    have oF : PtsOwn ((u.setCell ⟨w.heap.size + 1, 0, none⟩ (.int .i64 rk)).setCell ⟨w.heap.size + 1, 1, none⟩ (.slice (some ⟨g, 0, none⟩) rp.length cp)) g rp := by
      refine own_blk HO.out ?_ (by simp; exact HO.out.1)
      rw [Below.heap_setCell _ _ _ _ (by dsimp only; omega), Below.heap_setCell _ _ _ _ (by dsimp only; omega)]
    generalize (u.setCell ⟨w.heap.size + 1, 0, none⟩ (.int .i64 rk)).setCell ⟨w.heap.size + 1, 1, none⟩ (.slice (some ⟨g, 0, none⟩) rp.length cp) = wf at *
    obtain ⟨z0, z1, _, _⟩ := cell2r gF
    exact bodyPost_ret (v := .tuple #[.agg #[.int .i64 rk, .slice (some ⟨g, 0, none⟩) rp.length cp], .bool rb]) (by simp [results, Tryz.results8, go_sem, z0, z1]) rfl ⟨some ⟨g, 0, none⟩, cp, rfl, hcp, .inr ⟨g, rfl, oF⟩, fun b off e => by cases e; omega, bF⟩
end Go.Proofs.YtafjjchebmldeaaGreatDoor
