/- What a transaction sees: Store.run, txnRun.seen, TxnGet of the landed side. -/
import Derived.Test.YtafjjchebmldeaaGreatDoorSk
import Derived.Test.YtafjjchebmldeaaGreatDoorSj
import Derived.RegionTactic
import Derived.ChangeAlike
namespace Go.Proofs.YtafjjchebmldeaaGreatDoor
open Go.RowKit
set_option linter.unusedSimpArgs false
set_option linter.unusedVariables false
def zrun : Value := .agg #[.slice none 0 0, .int .i64 0, .bool false, .int .i64 0, .slice none 0 0]
set_option maxRecDepth 100000 in
set_option maxHeartbeats 4000000 in
theorem run_no {N1 N2 : Nat → Prop} (now : Int) (a ta : Option Addr) (cap tcap : Nat) (rs : List Rw) (ts : List Tx) (n : Int) (w : World) (hm : rs.length ≤ 1099511627776) (htm : ts.length ≤ 1099511627776) (hr : Rws N1 w a rs) (ht : Txs N2 1099511627776 w ta ts) (et : TypeId) (ev : Value) (hg : w.cell? ⟨0, 0, none⟩ = some (.iface et ev)) (h : opn now rs ts n = false) : Calls Tryz.prog 25 #[.agg #[.int .i64 now, .slice a rs.length cap, .slice ta ts.length tcap], .int .i64 n] w fun e w' => e = .returned (.tuple #[zrun, .iface 92 (.agg #[.int .i64 1, .iface et ev])]) ∧ Below w.heap.size w w' := by
  have HOK := hid (fun (W : World) (hb : Below w.heap.size w W) => impl_StoreOk now a ta cap tcap rs ts W hm htm (hr.below hb) (ht.below hb))
  have HTX := hid ht
  have HOP := hid (show opn now rs ts n = (storeb now rs ts && ((decide (0 ≤ n) && decide (n ≤ (ts.length : Int) - 1)) && (txn ts n).2.1)) from rfl)
  rw [h] at HOP
  clear hr ht h
  generalize storeb now rs ts = ob at *
  obtain ⟨tn, hn⟩ : ∃ tn, tn = ts.length := ⟨_, rfl⟩
  have HN := hid hn.symm
  rw [← hn] at htm HOK HOP ⊢
  clear hn
  generalize rs.length = rn at *
  have hB0 : Below w.heap.size w ((w.alloc (.cells #[.int .i64 now, .slice a rn cap, .slice ta tn tcap] 39)).alloc (.cells #[.slice none 0 0, .int .i64 0, .bool false, .int .i64 0, .slice none 0 0] 59)) := balloc (balloc (Below.refl _ _) _) _
  have g0 := old_alloc (o' := (.cells #[.slice none 0 0, .int .i64 0, .bool false, .int .i64 0, .slice none 0 0] 59)) (new_alloc w w.heap.size (.cells #[.int .i64 now, .slice a rn cap, .slice ta tn tcap] 39) rfl)
  have g1 := new_alloc (w.alloc (.cells #[.int .i64 now, .slice a rn cap, .slice ta tn tcap] 39)) (w.heap.size + 1) (.cells #[.slice none 0 0, .int .i64 0, .bool false, .int .i64 0, .slice none 0 0] 59) (by simp)
  go_enter Tryz.func25, Tryz.ntmps25
  go_upto_region 1 with fail
  generalize (w.alloc (.cells #[.int .i64 now, .slice a rn cap, .slice ta tn tcap] 39)).alloc (.cells #[.slice none 0 0, .int .i64 0, .bool false, .int .i64 0, .slice none 0 0] 59) = W0 at *
  obtain ⟨⟨d0, d1, d2⟩, _⟩ := cellk3 g0
  go_wp2_with fail
  refine (HOK.out _ hB0).mono ?_
  rintro e z ⟨rfl, hz⟩
  replace g0 := keepheapA hz g0
  replace g1 := keepheapA hz g1
  have HB := hid (btrans hB0 hz)
  have hgz := keepcell HB.out hg
  have hgl := World.block_lt_of_cell? w ⟨0, 0, none⟩ hg
  simp only at hgl
  clear hg
  clear hB0 hz HOK d0 d1 d2
  obtain ⟨⟨d0, d1, d2⟩, _⟩ := cellk3 g0
  obtain ⟨⟨f0, f1, f2, f3, f4⟩, p0, p1, p2, p3, p4⟩ := cell5g g1
  clear g0
  cases ob
  · go_wp2_with fail
    go_region
    go_wp2_with fail
    have gF := set5 g1 (.slice none 0 0) (.int .i64 0) (.bool false) (.int .i64 0) (.slice none 0 0)
    have bF := bset (bset (bset (bset (bset HB.out (q := w.heap.size + 1) (k := 0) (by omega) (.slice none 0 0)) (q := w.heap.size + 1) (k := 1) (by omega) (.int .i64 0)) (q := w.heap.size + 1) (k := 2) (by omega) (.bool false)) (q := w.heap.size + 1) (k := 3) (by omega) (.int .i64 0)) (q := w.heap.size + 1) (k := 4) (by omega) (.slice none 0 0)
    generalize (((((z.setCell ⟨w.heap.size + 1, 0, none⟩ (.slice none 0 0)).setCell ⟨w.heap.size + 1, 1, none⟩ (.int .i64 0)).setCell ⟨w.heap.size + 1, 2, none⟩ (.bool false)).setCell ⟨w.heap.size + 1, 3, none⟩ (.int .i64 0)).setCell ⟨w.heap.size + 1, 4, none⟩ (.slice none 0 0)) = wf at *
    obtain ⟨⟨z0, z1, z2, z3, z4⟩, _⟩ := cell5g gF
    replace z0 : wf.drew.cell? ⟨w.heap.size + 1, 0, none⟩ = some (.slice none 0 0) := z0
    replace z1 : wf.drew.cell? ⟨w.heap.size + 1, 1, none⟩ = some (.int .i64 0) := z1
    replace z2 : wf.drew.cell? ⟨w.heap.size + 1, 2, none⟩ = some (.bool false) := z2
    replace z3 : wf.drew.cell? ⟨w.heap.size + 1, 3, none⟩ = some (.int .i64 0) := z3
    replace z4 : wf.drew.cell? ⟨w.heap.size + 1, 4, none⟩ = some (.slice none 0 0) := z4
    exact bodyPost_ret (v := .tuple #[zrun, .iface 92 (.agg #[.int .i64 1, .iface et ev])]) (by simp [results, Tryz.results25, go_sem, z0, z1, z2, z3, z4, zrun]) rfl ⟨rfl, bdrew bF⟩
  · by_cases h1 : n < 0
    · go_wp2_with fail
      go_region
      go_wp2_with fail
      have gF := set5 g1 (.slice none 0 0) (.int .i64 0) (.bool false) (.int .i64 0) (.slice none 0 0)
      have bF := bset (bset (bset (bset (bset HB.out (q := w.heap.size + 1) (k := 0) (by omega) (.slice none 0 0)) (q := w.heap.size + 1) (k := 1) (by omega) (.int .i64 0)) (q := w.heap.size + 1) (k := 2) (by omega) (.bool false)) (q := w.heap.size + 1) (k := 3) (by omega) (.int .i64 0)) (q := w.heap.size + 1) (k := 4) (by omega) (.slice none 0 0)
      generalize (((((z.setCell ⟨w.heap.size + 1, 0, none⟩ (.slice none 0 0)).setCell ⟨w.heap.size + 1, 1, none⟩ (.int .i64 0)).setCell ⟨w.heap.size + 1, 2, none⟩ (.bool false)).setCell ⟨w.heap.size + 1, 3, none⟩ (.int .i64 0)).setCell ⟨w.heap.size + 1, 4, none⟩ (.slice none 0 0)) = wf at *
      obtain ⟨⟨z0, z1, z2, z3, z4⟩, _⟩ := cell5g gF
      replace z0 : wf.drew.cell? ⟨w.heap.size + 1, 0, none⟩ = some (.slice none 0 0) := z0
      replace z1 : wf.drew.cell? ⟨w.heap.size + 1, 1, none⟩ = some (.int .i64 0) := z1
      replace z2 : wf.drew.cell? ⟨w.heap.size + 1, 2, none⟩ = some (.bool false) := z2
      replace z3 : wf.drew.cell? ⟨w.heap.size + 1, 3, none⟩ = some (.int .i64 0) := z3
      replace z4 : wf.drew.cell? ⟨w.heap.size + 1, 4, none⟩ = some (.slice none 0 0) := z4
      exact bodyPost_ret (v := .tuple #[zrun, .iface 92 (.agg #[.int .i64 1, .iface et ev])]) (by simp [results, Tryz.results25, go_sem, z0, z1, z2, z3, z4, zrun]) rfl ⟨rfl, bdrew bF⟩
    · have h1' : 0 ≤ n := by omega
      by_cases h2 : (tn : Int) ≤ n
      · go_wp2_with fail
        go_region
        go_wp2_with fail
        have gF := set5 g1 (.slice none 0 0) (.int .i64 0) (.bool false) (.int .i64 0) (.slice none 0 0)
        have bF := bset (bset (bset (bset (bset HB.out (q := w.heap.size + 1) (k := 0) (by omega) (.slice none 0 0)) (q := w.heap.size + 1) (k := 1) (by omega) (.int .i64 0)) (q := w.heap.size + 1) (k := 2) (by omega) (.bool false)) (q := w.heap.size + 1) (k := 3) (by omega) (.int .i64 0)) (q := w.heap.size + 1) (k := 4) (by omega) (.slice none 0 0)
        generalize (((((z.setCell ⟨w.heap.size + 1, 0, none⟩ (.slice none 0 0)).setCell ⟨w.heap.size + 1, 1, none⟩ (.int .i64 0)).setCell ⟨w.heap.size + 1, 2, none⟩ (.bool false)).setCell ⟨w.heap.size + 1, 3, none⟩ (.int .i64 0)).setCell ⟨w.heap.size + 1, 4, none⟩ (.slice none 0 0)) = wf at *
        obtain ⟨⟨z0, z1, z2, z3, z4⟩, _⟩ := cell5g gF
        replace z0 : wf.drew.cell? ⟨w.heap.size + 1, 0, none⟩ = some (.slice none 0 0) := z0
        replace z1 : wf.drew.cell? ⟨w.heap.size + 1, 1, none⟩ = some (.int .i64 0) := z1
        replace z2 : wf.drew.cell? ⟨w.heap.size + 1, 2, none⟩ = some (.bool false) := z2
        replace z3 : wf.drew.cell? ⟨w.heap.size + 1, 3, none⟩ = some (.int .i64 0) := z3
        replace z4 : wf.drew.cell? ⟨w.heap.size + 1, 4, none⟩ = some (.slice none 0 0) := z4
        exact bodyPost_ret (v := .tuple #[zrun, .iface 92 (.agg #[.int .i64 1, .iface et ev])]) (by simp [results, Tryz.results25, go_sem, z0, z1, z2, z3, z4, zrun]) rfl ⟨rfl, bdrew bF⟩
      · have h2' : n < (tn : Int) := by omega
        have HQ := hid (show (txn ts n).2.1 = false by
          have := HOP.out
          simp [show 0 ≤ n from h1', show n ≤ (tn : Int) - 1 by omega] at this
          exact this)
        obtain ⟨m, rfl⟩ : ∃ m : Nat, n = (m : Int) := ⟨n.toNat, by omega⟩
        have hmr : m < ts.length := by rw [HN.out]; omega
        obtain ⟨b, o, rfl, hbs, a', cap', k0, k1, k2, _, _, _, _⟩ := (HTX.out.below HB.out).at m hmr
        have hq : ts[m].2.1 = false := by rw [← txn_at hmr]; exact HQ.out
        rw [hq] at k1
        clear hq
        go_wp2_with fail
        go_region
        go_wp2_with fail
        have gF := set5 g1 (.slice none 0 0) (.int .i64 0) (.bool false) (.int .i64 0) (.slice none 0 0)
        have bF := bset (bset (bset (bset (bset HB.out (q := w.heap.size + 1) (k := 0) (by omega) (.slice none 0 0)) (q := w.heap.size + 1) (k := 1) (by omega) (.int .i64 0)) (q := w.heap.size + 1) (k := 2) (by omega) (.bool false)) (q := w.heap.size + 1) (k := 3) (by omega) (.int .i64 0)) (q := w.heap.size + 1) (k := 4) (by omega) (.slice none 0 0)
        generalize (((((z.setCell ⟨w.heap.size + 1, 0, none⟩ (.slice none 0 0)).setCell ⟨w.heap.size + 1, 1, none⟩ (.int .i64 0)).setCell ⟨w.heap.size + 1, 2, none⟩ (.bool false)).setCell ⟨w.heap.size + 1, 3, none⟩ (.int .i64 0)).setCell ⟨w.heap.size + 1, 4, none⟩ (.slice none 0 0)) = wf at *
        obtain ⟨⟨z0, z1, z2, z3, z4⟩, _⟩ := cell5g gF
        replace z0 : wf.drew.cell? ⟨w.heap.size + 1, 0, none⟩ = some (.slice none 0 0) := z0
        replace z1 : wf.drew.cell? ⟨w.heap.size + 1, 1, none⟩ = some (.int .i64 0) := z1
        replace z2 : wf.drew.cell? ⟨w.heap.size + 1, 2, none⟩ = some (.bool false) := z2
        replace z3 : wf.drew.cell? ⟨w.heap.size + 1, 3, none⟩ = some (.int .i64 0) := z3
        replace z4 : wf.drew.cell? ⟨w.heap.size + 1, 4, none⟩ = some (.slice none 0 0) := z4
        exact bodyPost_ret (v := .tuple #[zrun, .iface 92 (.agg #[.int .i64 1, .iface et ev])]) (by simp [results, Tryz.results25, go_sem, z0, z1, z2, z3, z4, zrun]) rfl ⟨rfl, bdrew bF⟩
set_option maxRecDepth 100000 in
set_option maxHeartbeats 4000000 in
theorem run_yes {N1 N2 : Nat → Prop} (now : Int) (a ta : Option Addr) (cap tcap : Nat) (rs : List Rw) (ts : List Tx) (m : Nat) (w : World) (hm : rs.length ≤ 1099511627776) (htm : ts.length ≤ 1099511627776) (hr : Rws N1 w a rs) (ht : Txs N2 1099511627776 w ta ts) (hmr : m < ts.length) (hst : storeb now rs ts = true) (hop : ts[m].2.1 = true) : Calls Tryz.prog 25 #[.agg #[.int .i64 now, .slice a rs.length cap, .slice ta ts.length tcap], .int .i64 m] w fun e w' => ∃ ca ccap, e = .returned (.tuple #[.agg #[.slice ca ts[m].2.2.length ccap, .int .i64 ts[m].1, .bool true, .int .i64 now, .slice a rs.length cap], .nilIface]) ∧ ts[m].2.2.length ≤ 1099511627776 ∧ Chs N2 1099511627776 w' ca ts[m].2.2 ∧ Below w.heap.size w w' := by
  have HOK := hid (fun (W : World) (hb : Below w.heap.size w W) => impl_StoreOk now a ta cap tcap rs ts W hm htm (hr.below hb) (ht.below hb))
  rw [hst] at HOK
  obtain ⟨b, o, rfl, hbs, ca, ccap, k0, k1, k2, _, hcm, hcs, _⟩ := ht.at m hmr
  rw [hop] at k1
  have HCS := hid hcs
  clear hr ht hcs hst hop
  generalize ts[m].1 = st at *
  generalize ts[m].2.2 = cs at *
  have c0 : (m : Int) < (ts.length : Int) := by omega
  have c0' : ¬ ((ts.length : Int) ≤ (m : Int)) := by omega
  have c0'' : ¬ ((m : Int) < 0) := by omega
  generalize ts.length = tn at *
  generalize rs.length = rn at *
  obtain ⟨n, hn⟩ : ∃ n, n = cs.length := ⟨_, rfl⟩
  rw [← hn] at hcm k2 ⊢
  clear hn
  have hB0 : Below w.heap.size w ((w.alloc (.cells #[.int .i64 now, .slice a rn cap, .slice (some ⟨b, o, none⟩) tn tcap] 39)).alloc (.cells #[.slice none 0 0, .int .i64 0, .bool false, .int .i64 0, .slice none 0 0] 59)) := balloc (balloc (Below.refl _ _) _) _
  have g0 := old_alloc (o' := (.cells #[.slice none 0 0, .int .i64 0, .bool false, .int .i64 0, .slice none 0 0] 59)) (new_alloc w w.heap.size (.cells #[.int .i64 now, .slice a rn cap, .slice (some ⟨b, o, none⟩) tn tcap] 39) rfl)
  have g1 := new_alloc (w.alloc (.cells #[.int .i64 now, .slice a rn cap, .slice (some ⟨b, o, none⟩) tn tcap] 39)) (w.heap.size + 1) (.cells #[.slice none 0 0, .int .i64 0, .bool false, .int .i64 0, .slice none 0 0] 59) (by simp)
  go_enter Tryz.func25, Tryz.ntmps25
  go_upto_region 1 with fail
  generalize (w.alloc (.cells #[.int .i64 now, .slice a rn cap, .slice (some ⟨b, o, none⟩) tn tcap] 39)).alloc (.cells #[.slice none 0 0, .int .i64 0, .bool false, .int .i64 0, .slice none 0 0] 59) = W0 at *
  obtain ⟨⟨d0, d1, d2⟩, _⟩ := cellk3 g0
  go_wp2_with fail
  refine (HOK.out _ hB0).mono ?_
  rintro e z ⟨rfl, hz⟩
  replace g0 := keepheapA hz g0
  replace g1 := keepheapA hz g1
  have HB := hid (btrans hB0 hz)
  replace k0 := keepcell HB.out k0
  replace k1 := keepcell HB.out k1
  replace k2 := keepcell HB.out k2
  clear hB0 hz HOK d0 d1 d2
  obtain ⟨⟨d0, d1, d2⟩, _⟩ := cellk3 g0
  go_upto_region 4 with fail
  have hBt : Below z.heap.size z (z.alloc (.cells #[.int .i64 st, .bool true, .slice ca n ccap] 74)) := balloc (Below.refl _ _) _
  have g2 := new_alloc z z.heap.size (.cells #[.int .i64 st, .bool true, .slice ca n ccap] 74) rfl
  replace g0 := keepheapA hBt g0
  replace g1 := keepheapA hBt g1
  have HB2 := hid (btrans HB.out hBt)
  clear hBt d0 d1 d2 k0 k1 k2 HB
  generalize z.alloc (.cells #[.int .i64 st, .bool true, .slice ca n ccap] 74) = Y at *
  generalize z.heap.size = Z at *
  obtain ⟨⟨d0, d1, d2⟩, _⟩ := cellk3 g0
  obtain ⟨⟨t0, t1, t2⟩, _⟩ := cellk3 g2
  obtain ⟨⟨f0, f1, f2, f3, f4⟩, p0, p1, p2, p3, p4⟩ := cell5g g1
  go_wp2_with fail
  have gF := set5 g1 (.slice ca n ccap) (.int .i64 st) (.bool true) (.int .i64 now) (.slice a rn cap)
  have bF := bset (bset (bset (bset (bset HB2.out (q := w.heap.size + 1) (k := 0) (by omega) (.slice ca n ccap)) (q := w.heap.size + 1) (k := 1) (by omega) (.int .i64 st)) (q := w.heap.size + 1) (k := 2) (by omega) (.bool true)) (q := w.heap.size + 1) (k := 3) (by omega) (.int .i64 now)) (q := w.heap.size + 1) (k := 4) (by omega) (.slice a rn cap)
  generalize (((((Y.setCell ⟨w.heap.size + 1, 0, none⟩ (.slice ca n ccap)).setCell ⟨w.heap.size + 1, 1, none⟩ (.int .i64 st)).setCell ⟨w.heap.size + 1, 2, none⟩ (.bool true)).setCell ⟨w.heap.size + 1, 3, none⟩ (.int .i64 now)).setCell ⟨w.heap.size + 1, 4, none⟩ (.slice a rn cap)) = wf at *
  obtain ⟨⟨z0, z1, z2, z3, z4⟩, _⟩ := cell5g gF
  exact bodyPost_ret (v := .tuple #[.agg #[.slice ca n ccap, .int .i64 st, .bool true, .int .i64 now, .slice a rn cap], .nilIface]) (by simp [results, Tryz.results25, go_sem, z0, z1, z2, z3, z4]) rfl ⟨ca, ccap, rfl, hcm, HCS.out.below bF, bF⟩
theorem edb_asc {cs : List Ch} (h : edb cs = true) : ∀ i j, i < j → j < cs.length → idc cs i < idc cs j := by
  have h1 : ∀ j, 0 < j → j < cs.length → idc cs (j - 1) < idc cs j := by
    intro j h0 hj
    unfold edb at h
    rw [List.all_eq_true] at h
    have := h j (List.mem_range.2 hj)
    unfold edi asc at this
    simp only [Bool.and_eq_true, Bool.or_eq_true, decide_eq_true_eq] at this
    rcases this.2 with h2 | h2
    · omega
    · exact h2
  intro i j hij
  induction j with
  | zero => omega
  | succ j ih =>
    intro hj
    have h2 := h1 (j + 1) (by omega) hj
    rw [show j + 1 - 1 = j by omega] at h2
    by_cases e : i = j
    · subst e; exact h2
    · have := ih (by omega) (by omega); omega
/-- A list of points does not lie in a block that holds a shape. -/
theorem pts_off {y : World} {a' : Option Addr} {rp : List (Int × Int)} {p : Nat} {k : Int} {q : Value} {t : TypeId} (h : Pts y a' rp) (h0 : 0 < rp.length) (hq : ∀ i : Int, q ≠ .int .i64 i) (g : y.heap[p]? = some (.cells #[.int .i64 k, q] t (0, 0))) (u v : Value) : Pts ((y.setCell ⟨p, 0, none⟩ u).setCell ⟨p, 1, none⟩ v) a' rp := by
  rcases h with h | ⟨b, off, e, hb, hp⟩
  · subst h; simp at h0
  · have hne : b ≠ p := by
      intro e2
      subst e2
      obtain ⟨h1, h2⟩ := hp 0 h0
      simp [World.cell?, g] at h1 h2
      rcases off with _ | _ | off
      · simp at h2
        exact hq _ h2
      · simp at h1
        exact hq _ h1
      · simp at h1
    refine .inr ⟨b, off, e, by simp; exact hb, fun j hj => ?_⟩
    rw [World.cell?_setCell_other _ _ _ _ (by intro e; injection e; omega), World.cell?_setCell_other _ _ _ _ (by intro e; injection e; omega), World.cell?_setCell_other _ _ _ _ (by intro e; injection e; omega), World.cell?_setCell_other _ _ _ _ (by intro e; injection e; omega)]
    exact hp j hj
end Go.Proofs.YtafjjchebmldeaaGreatDoor
