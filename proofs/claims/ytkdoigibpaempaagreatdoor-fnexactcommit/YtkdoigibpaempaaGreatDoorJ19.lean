/- Texts of stores, joined: Sl, Pa, Pb, Ua, Th0. -/
import Derived.Test.YtkdoigibpaempaaGreatDoorJ18
import Derived.Test.YtkdoigibpaempaaGreatDoorSb
import Derived.Test.YtkdoigibpaempaaGreatDoorJ7
import Derived.RegionTactic
import Derived.ChangeAlike
import Derived.Test.YtkdoigibpaempaaGreatDoorJ17
import Derived.Test.YtkdoigibpaempaaGreatDoorJ16
set_option linter.unusedSimpArgs false
set_option linter.unusedVariables false
namespace Go.Proofs.YtkdoigibpaempaaGreatDoor
open Go.RowKit
def zrun : Value := .agg #[.slice none 0 0, .int .i64 0, .bool false, .int .i64 0, .slice none 0 0]
set_option maxRecDepth 100000 in
set_option maxHeartbeats 4000000 in
theorem run_no {N1 N2 : Nat → Prop} (now : Int) (a ta : Option Addr) (cap tcap : Nat) (rs : List Rw) (ts : List Tx) (n : Int) (w : World) (hm : rs.length ≤ 1099511627776) (htm : ts.length ≤ 1099511627776) (hr : Rws N1 w a rs) (ht : Txs N2 1099511627776 w ta ts) (et : TypeId) (ev : Value) (hg : w.cell? ⟨0, 0, none⟩ = some (.iface et ev)) (h : opn now rs ts n = false) : Calls Tryz.prog 39 #[.agg #[.int .i64 now, .slice a rs.length cap, .slice ta ts.length tcap], .int .i64 n] w fun e w' => e = .returned (.tuple #[zrun, .iface 115 (.agg #[.int .i64 1, .iface et ev])]) ∧ Below w.heap.size w w' := by
  have HOK := hid (fun (W : World) (hb : Below w.heap.size w W) => impl_StoreOk now a ta cap tcap rs ts W hm htm (hr.below hb) (ht.below hb))
  have HGO := hid (fun (W : World) (hb : Below w.heap.size w W) => goes_c now a ta rs.length cap tcap ts n W htm (ht.below hb))
  rw [gob_opn] at h
  clear hr ht
  generalize storeb now rs ts = ob at *
  generalize gob ts n = gb at *
  generalize ts.length = tn at *
  generalize rs.length = rn at *
  have hB0 : Below w.heap.size w ((w.alloc (.cells #[.int .i64 now, .slice a rn cap, .slice ta tn tcap] 34)).alloc (.cells #[.slice none 0 0, .int .i64 0, .bool false, .int .i64 0, .slice none 0 0] 85)) := balloc (balloc (Below.refl _ _) _) _
  have g0 := old_alloc (o' := (.cells #[.slice none 0 0, .int .i64 0, .bool false, .int .i64 0, .slice none 0 0] 85)) (new_alloc w w.heap.size (.cells #[.int .i64 now, .slice a rn cap, .slice ta tn tcap] 34) rfl)
  have g1 := new_alloc (w.alloc (.cells #[.int .i64 now, .slice a rn cap, .slice ta tn tcap] 34)) (w.heap.size + 1) (.cells #[.slice none 0 0, .int .i64 0, .bool false, .int .i64 0, .slice none 0 0] 85) (by simp)
  go_enter Tryz.func39, Tryz.ntmps39
  go_upto_region 1 with fail
  generalize (w.alloc (.cells #[.int .i64 now, .slice a rn cap, .slice ta tn tcap] 34)).alloc (.cells #[.slice none 0 0, .int .i64 0, .bool false, .int .i64 0, .slice none 0 0] 85) = W0 at *
  obtain ⟨⟨d0, d1, d2⟩, _⟩ := cellk3 g0
  go_wp2_with fail
  refine (HGO.out _ hB0).mono ?_
  rintro e z0 ⟨rfl, hz⟩
  replace g0 := keepheapA hz g0
  replace g1 := keepheapA hz g1
  have hB1 := btrans hB0 hz
  clear hB0 hz HGO d0 d1 d2
  cases gb
  · obtain ⟨z, hz⟩ : ∃ z, z = z0 := ⟨_, rfl⟩
    rw [← hz] at g0 g1 hB1 ⊢
    clear hz
    have HB := hid hB1
    clear hB1
    have hgz := keepcell HB.out hg
    have hgl := World.block_lt_of_cell? w ⟨0, 0, none⟩ hg
    simp only at hgl
    clear hg
    obtain ⟨⟨d0, d1, d2⟩, _⟩ := cellk3 g0
    obtain ⟨⟨f0, f1, f2, f3, f4⟩, p0, p1, p2, p3, p4⟩ := cell5g g1
    clear g0
    go_wp2_with fail
    go_region
    go_wp2_with fail
    have gF := set5 g1 (.slice none 0 0) (.int .i64 0) (.bool false) (.int .i64 0) (.slice none 0 0)
    have bF := bset (bset (bset (bset (bset HB.out (q := w.heap.size + 1) (k := 0) (by omega) (.slice none 0 0)) (q := w.heap.size + 1) (k := 1) (by omega) (.int .i64 0)) (q := w.heap.size + 1) (k := 2) (by omega) (.bool false)) (q := w.heap.size + 1) (k := 3) (by omega) (.int .i64 0)) (q := w.heap.size + 1) (k := 4) (by omega) (.slice none 0 0)
    generalize (((((z.setCell ⟨w.heap.size + 1, 0, none⟩ (.slice none 0 0)).setCell ⟨w.heap.size + 1, 1, none⟩ (.int .i64 0)).setCell ⟨w.heap.size + 1, 2, none⟩ (.bool false)).setCell ⟨w.heap.size + 1, 3, none⟩ (.int .i64 0)).setCell ⟨w.heap.size + 1, 4, none⟩ (.slice none 0 0)) = wf at *
    obtain ⟨⟨z0, z1, z2, z3, z4⟩, _⟩ := cell5g gF
    replace z0 : wf.drew.cell? ⟨w.heap.size + 1, 0, none⟩ = some (.slice none 0 0) := z0
    replace z1 : wf.drew.cell? ⟨w.heap.size + 1, 1, none⟩ = some (.int .i64 0) := z1
    replace z2 : wf.drew.cell? ⟨w.heap.size + 1, 2, none⟩ = some (.bool false) := z2
    replace z3 : wf.drew.cell? ⟨w.heap.size + 1, 3, none⟩ = some (.int .i64 0) := z3
    replace z4 : wf.drew.cell? ⟨w.heap.size + 1, 4, none⟩ = some (.slice none 0 0) := z4
    exact bodyPost_ret (v := .tuple #[zrun, .iface 115 (.agg #[.int .i64 1, .iface et ev])]) (by simp [results, Tryz.results39, go_sem, z0, z1, z2, z3, z4, zrun]) rfl ⟨rfl, bdrew bF⟩
  · have hob : ob = false := by simpa using h
    subst hob
    obtain ⟨⟨d0, d1, d2⟩, _⟩ := cellk3 g0
    go_wp2_with fail
    refine (HOK.out _ hB1).mono ?_
    rintro e z ⟨rfl, hz⟩
    replace g0 := keepheapA hz g0
    replace g1 := keepheapA hz g1
    have HB := hid (btrans hB1 hz)
    have hgz := keepcell HB.out hg
    have hgl := World.block_lt_of_cell? w ⟨0, 0, none⟩ hg
    simp only at hgl
    clear hg hB1 hz HOK d0 d1 d2
    obtain ⟨⟨d0, d1, d2⟩, _⟩ := cellk3 g0
    obtain ⟨⟨f0, f1, f2, f3, f4⟩, p0, p1, p2, p3, p4⟩ := cell5g g1
    clear g0
    go_wp2_with fail
    go_region
    go_wp2_with fail
    have gF := set5 g1 (.slice none 0 0) (.int .i64 0) (.bool false) (.int .i64 0) (.slice none 0 0)
    have bF := bset (bset (bset (bset (bset HB.out (q := w.heap.size + 1) (k := 0) (by omega) (.slice none 0 0)) (q := w.heap.size + 1) (k := 1) (by omega) (.int .i64 0)) (q := w.heap.size + 1) (k := 2) (by omega) (.bool false)) (q := w.heap.size + 1) (k := 3) (by omega) (.int .i64 0)) (q := w.heap.size + 1) (k := 4) (by omega) (.slice none 0 0)
    generalize (((((z.setCell ⟨w.heap.size + 1, 0, none⟩ (.slice none 0 0)).setCell ⟨w.heap.size + 1, 1, none⟩ (.int .i64 0)).setCell ⟨w.heap.size + 1, 2, none⟩ (.bool false)).setCell ⟨w.heap.size + 1, 3, none⟩ (.int .i64 0)).setCell ⟨w.heap.size + 1, 4, none⟩ (.slice none 0 0)) = wf at *
    obtain ⟨⟨z0, z1, z2, z3, z4⟩, _⟩ := cell5g gF
    replace z0 : wf.drew.cell? ⟨w.heap.size + 1, 0, none⟩ = some (.slice none 0 0) := z0
    replace z1 : wf.drew.cell? ⟨w.heap.size + 1, 1, none⟩ = some (.int .i64 0) := z1
    replace z2 : wf.drew.cell? ⟨w.heap.size + 1, 2, none⟩ = some (.bool false) := z2
    replace z3 : wf.drew.cell? ⟨w.heap.size + 1, 3, none⟩ = some (.int .i64 0) := z3
    replace z4 : wf.drew.cell? ⟨w.heap.size + 1, 4, none⟩ = some (.slice none 0 0) := z4
    exact bodyPost_ret (v := .tuple #[zrun, .iface 115 (.agg #[.int .i64 1, .iface et ev])]) (by simp [results, Tryz.results39, go_sem, z0, z1, z2, z3, z4, zrun]) rfl ⟨rfl, bdrew bF⟩
set_option maxRecDepth 100000 in
set_option maxHeartbeats 4000000 in
theorem run_yes {N1 N2 : Nat → Prop} (now : Int) (a ta : Option Addr) (cap tcap : Nat) (rs : List Rw) (ts : List Tx) (m : Nat) (w : World) (hm : rs.length ≤ 1099511627776) (htm : ts.length ≤ 1099511627776) (hr : Rws N1 w a rs) (ht : Txs N2 1099511627776 w ta ts) (hmr : m < ts.length) (hst : storeb now rs ts = true) (hop : ts[m].2.1 = true) : Calls Tryz.prog 39 #[.agg #[.int .i64 now, .slice a rs.length cap, .slice ta ts.length tcap], .int .i64 m] w fun e w' => ∃ ca ccap, e = .returned (.tuple #[.agg #[.slice ca ts[m].2.2.length ccap, .int .i64 ts[m].1, .bool true, .int .i64 now, .slice a rs.length cap], .nilIface]) ∧ ts[m].2.2.length ≤ 1099511627776 ∧ Chs N2 1099511627776 w' ca ts[m].2.2 ∧ Below w.heap.size w w' := by
  have HOK := hid (fun (W : World) (hb : Below w.heap.size w W) => impl_StoreOk now a ta cap tcap rs ts W hm htm (hr.below hb) (ht.below hb))
  rw [hst] at HOK
  have HGO := hid (fun (W : World) (hb : Below w.heap.size w W) => goes_c now a ta rs.length cap tcap ts (m : Int) W htm (ht.below hb))
  have hgb : gob ts (m : Int) = true := by unfold gob; rw [txn_at hmr, hop]; simp; omega
  rw [hgb] at HGO
  obtain ⟨b, o, rfl, hbs, ca, ccap, k0, k1, k2, _, hcm, hcs, _⟩ := ht.at m hmr
  rw [hop] at k1
  have HCS := hid hcs
  clear hr ht hcs hst hop hgb
  generalize ts[m].1 = st at *
  generalize ts[m].2.2 = cs at *
  generalize ts.length = tn at *
  generalize rs.length = rn at *
  obtain ⟨n, hn⟩ : ∃ n, n = cs.length := ⟨_, rfl⟩
  rw [← hn] at hcm k2 ⊢
  clear hn
  have HAW := hid (fun (W : World) (hb : Below w.heap.size w W) => atwork_c now a ca rn cap b o tn tcap m n ccap st true W hmr htm (keepcell hb k0) (keepcell hb k1) (keepcell hb k2))
  clear k0 k1 k2
  have hB0 : Below w.heap.size w ((w.alloc (.cells #[.int .i64 now, .slice a rn cap, .slice (some ⟨b, o, none⟩) tn tcap] 34)).alloc (.cells #[.slice none 0 0, .int .i64 0, .bool false, .int .i64 0, .slice none 0 0] 85)) := balloc (balloc (Below.refl _ _) _) _
  have g0 := old_alloc (o' := (.cells #[.slice none 0 0, .int .i64 0, .bool false, .int .i64 0, .slice none 0 0] 85)) (new_alloc w w.heap.size (.cells #[.int .i64 now, .slice a rn cap, .slice (some ⟨b, o, none⟩) tn tcap] 34) rfl)
  have g1 := new_alloc (w.alloc (.cells #[.int .i64 now, .slice a rn cap, .slice (some ⟨b, o, none⟩) tn tcap] 34)) (w.heap.size + 1) (.cells #[.slice none 0 0, .int .i64 0, .bool false, .int .i64 0, .slice none 0 0] 85) (by simp)
  go_enter Tryz.func39, Tryz.ntmps39
  go_upto_region 1 with fail
  generalize (w.alloc (.cells #[.int .i64 now, .slice a rn cap, .slice (some ⟨b, o, none⟩) tn tcap] 34)).alloc (.cells #[.slice none 0 0, .int .i64 0, .bool false, .int .i64 0, .slice none 0 0] 85) = W0 at *
  obtain ⟨⟨d0, d1, d2⟩, _⟩ := cellk3 g0
  go_wp2_with fail
  refine (HGO.out _ hB0).mono ?_
  rintro e z0 ⟨rfl, hz⟩
  replace g0 := keepheapA hz g0
  replace g1 := keepheapA hz g1
  replace hB0 := btrans hB0 hz
  clear hz d0 d1 d2
  obtain ⟨⟨d0, d1, d2⟩, _⟩ := cellk3 g0
  go_wp2_with fail
  refine (HOK.out _ hB0).mono ?_
  rintro e z1 ⟨rfl, hz⟩
  replace g0 := keepheapA hz g0
  replace g1 := keepheapA hz g1
  replace hB0 := btrans hB0 hz
  clear hz d0 d1 d2
  obtain ⟨⟨d0, d1, d2⟩, _⟩ := cellk3 g0
  go_wp2_with fail
  refine (HAW.out _ hB0).mono ?_
  rintro e Y ⟨rfl, hz⟩
  replace g1 := keepheapA hz g1
  have HB2 := hid (btrans hB0 hz)
  clear hz d0 d1 d2 hB0 HOK HGO HAW g0
  obtain ⟨⟨f0, f1, f2, f3, f4⟩, p0, p1, p2, p3, p4⟩ := cell5g g1
  go_wp2_with fail
  have gF := set5 g1 (.slice ca n ccap) (.int .i64 st) (.bool true) (.int .i64 now) (.slice a rn cap)
  have bF := bset (bset (bset (bset (bset HB2.out (q := w.heap.size + 1) (k := 0) (by omega) (.slice ca n ccap)) (q := w.heap.size + 1) (k := 1) (by omega) (.int .i64 st)) (q := w.heap.size + 1) (k := 2) (by omega) (.bool true)) (q := w.heap.size + 1) (k := 3) (by omega) (.int .i64 now)) (q := w.heap.size + 1) (k := 4) (by omega) (.slice a rn cap)
  generalize (((((Y.setCell ⟨w.heap.size + 1, 0, none⟩ (.slice ca n ccap)).setCell ⟨w.heap.size + 1, 1, none⟩ (.int .i64 st)).setCell ⟨w.heap.size + 1, 2, none⟩ (.bool true)).setCell ⟨w.heap.size + 1, 3, none⟩ (.int .i64 now)).setCell ⟨w.heap.size + 1, 4, none⟩ (.slice a rn cap)) = wf at *
  obtain ⟨⟨z0', z1', z2, z3, z4⟩, _⟩ := cell5g gF
  exact bodyPost_ret (v := .tuple #[.agg #[.slice ca n ccap, .int .i64 st, .bool true, .int .i64 now, .slice a rn cap], .nilIface]) (by simp [results, Tryz.results39, go_sem, z0', z1', z2, z3, z4]) rfl ⟨ca, ccap, rfl, hcm, HCS.out.below bF, bF⟩
end Go.Proofs.YtkdoigibpaempaaGreatDoor
namespace Go.Proofs.YtkdoigibpaempaaGreatDoor
open Go.RowKit Go.Extern.Stop Go.Stop Go.Extern
theorem is_typeOf (v : Value) (w : World) : (Extern.ReflectliteType.typeOf #[.iface 258 v]).run Tryz.prog w = .ok (.iface 148 (.agg #[.pointer (some ⟨4, 258, none⟩)])) w := by kernel_rfl
theorem is_comparable (w : World) : ((Extern.ReflectliteType.method fun t => do Go.Extern.Rtype.noPackHeld "Comparable" t; pure (.bool (← typeInfo t).comparable)) #[.agg #[.pointer (some ⟨4, 258, none⟩)]]).run Tryz.prog w = .ok (.bool true) w := by kernel_rfl
theorem is_callComparable (w : World) : (callFunc 206 #[.agg #[.pointer (some ⟨4, 258, none⟩)]]).run Tryz.prog w = .ok (.value (.bool true)) w := by
  rw [@run_callFunc_extern Tryz.prog 206 _ (Extern.ReflectliteType.method fun t => do Go.Extern.Rtype.noPackHeld "Comparable" t; pure (.bool (← typeInfo t).comparable)) Tryz.func206 (by kernel_rfl) (by kernel_rfl) (by kernel_rfl) (by kernel_rfl), is_comparable]
  rfl
theorem is_methodComparable (n : Nat) (v : Value) (w : World) : (Go.method (n + 4) 148 v "Comparable").run Tryz.prog w = .ok (206, v) w := by kernel_rfl
theorem is_comp : (Tryz.prog.info? 258).map (·.comparable) = some true := by kernel_rfl
theorem is_size : (Tryz.prog.info? 297).map (·.size) = some 1 := by kernel_rfl
theorem is_noIsR (v : Value) (xT : TypeId) (w : World) : (Instr.typeAssert (.iface 115 v) xT 150 true).run Tryz.prog w = .ok (.tuple #[.nilIface, .bool false]) w := run_typeAssert_lacksB Tryz.underlying150 (by kernel_rfl) (by kernel_rfl) v xT w
theorem is_hasUnR (v : Value) (xT : TypeId) (w : World) : (Instr.typeAssert (.iface 115 v) xT 153 true).run Tryz.prog w = .ok (.tuple #[.iface 115 v, .bool true]) w := run_typeAssert_hasB Tryz.underlying153 (by kernel_rfl) v xT w
theorem is_methodUn (n : Nat) (v : Value) (w : World) : (Go.method (n + 4) 115 v "Unwrap").run Tryz.prog w = .ok (201, v) w := by kernel_rfl
set_option maxHeartbeats 4000000 in
theorem is_hit (c : Int) (b : Addr) (w : World) : Calls Tryz.prog 40 #[.iface 115 (.agg #[.int .i64 c, .iface 258 (.pointer (some b))]), .iface 258 (.pointer (some b))] w fun e w' => e = .returned (.bool true) ∧ Below w.heap.size w w' := by
  obtain ⟨i, hi, hcmp⟩ := Option.map_eq_some_iff.1 is_comp
  obtain ⟨j, hj, hjs⟩ := Option.map_eq_some_iff.1 is_size
  have x1 := @run_callFunc_extern Tryz.prog 66 _ ReflectliteType.typeOf Tryz.func66 (by kernel_rfl) (by kernel_rfl) (by kernel_rfl) (by kernel_rfl)
  have x2 := is_callComparable
  have tT := is_typeOf
  have mR := is_methodComparable
  have nR := is_noIsR
  have uR := is_hasUnR
  have mU := is_methodUn
  have heq := run_eql_iface_ptr_same (P := Tryz.prog) (w.alloc (.cells #[.int .i64 c, .iface 258 (.pointer (some b))] 115)) b Tryz.underlying87 Tryz.underlying258 hi hcmp hj
  have hty := run_eql_iface_types (P := Tryz.prog) 115 258 (.agg #[.int .i64 c, .iface 258 (.pointer (some b))]) (.pointer (some b)) Tryz.underlying87 (by decide) w
  go_enter Tryz.func40, Tryz.ntmps40
  go_wp2
  refine wp_loop_rounds 2 ?_
  rw [rounds_succ]
  go_wp2
  rw [rounds_succ]
  go_wp2
  go_ret
  exact ⟨rfl, balloc (Below.refl _ _) _⟩
theorem is_none (b : Addr) (w : World) : Calls Tryz.prog 40 #[.nilIface, .iface 258 (.pointer (some b))] w fun e w' => e = .returned (.bool false) ∧ w' = w := by
  have hn := run_eql_iface_nil_left (P := Tryz.prog) w 258 (.pointer (some b)) Tryz.underlying87
  go_enter Tryz.func40, Tryz.ntmps40
  go_wp2
  go_ret
  exact ⟨rfl, rfl⟩
end Go.Proofs.YtkdoigibpaempaaGreatDoor
namespace Go.Proofs.YtkdoigibpaempaaGreatDoor
open Go.RowKit
set_option maxHeartbeats 2000000 in
theorem code_ref (c : Int) (u : Value) (w : World) (hu : u.oneCell' = true) (hg : w.cell? ⟨3, 0, none⟩ = some (.iface 148 (.agg #[.pointer (some ⟨4, 87, none⟩)]))) : Calls Tryz.prog 41 #[.iface 115 (.agg #[.int .i64 c, u])] w fun e w' => e = .returned (.int .i64 c) ∧ Below w.heap.size w w' := by
  have g0 := new_alloc w w.heap.size (.cells #[.int .i64 0, .nilIface] 115) rfl
  have hB : Below w.heap.size w (w.alloc (.cells #[.int .i64 0, .nilIface] 115)) := balloc (Below.refl _ _) _
  have hg' := keepcell hB hg
  have hl : w.heap.size < (w.alloc (.cells #[.int .i64 0, .nilIface] 115)).heap.size := by simp
  go_enter Tryz.func41, Tryz.ntmps41
  go_upto_region 2 with fail
  generalize w.alloc (.cells #[.int .i64 0, .nilIface] 115) = W at *
  have q0 : W.cell? ⟨w.heap.size, 0, none⟩ = some (.int .i64 0) := by simp only [World.cell?, g0]; rfl
  have q1 : W.cell? ⟨w.heap.size, 1, none⟩ = some .nilIface := by simp only [World.cell?, g0]; rfl
  have q2 : W.frozen? ⟨w.heap.size, 0, none⟩ = false := by simp only [World.frozen?, g0]; rfl
  have q3 : W.frozen? ⟨w.heap.size, 1, none⟩ = false := by simp only [World.frozen?, g0]; rfl
  have HA := hid (ar_hit c u w.heap.size _ _ W hu hg' q0 q2 q1 q3)
  go_wp2_with fail
  refine HA.out.mono ?_
  rintro e z ⟨rfl, hz⟩
  have hb : Below w.heap.size w z := by
    subst hz
    exact bset (bset (balloc (balloc (balloc (balloc hB _) _) _) _) (q := w.heap.size) (k := 0) (Nat.le_refl _) _) (q := w.heap.size) (k := 1) (Nat.le_refl _) _
  have hc : z.cell? ⟨w.heap.size, 0, none⟩ = some (.int .i64 c) := by
    subst hz
    rw [World.cell?_setCell_other _ _ _ _ (by intro q; injection q; omega)]
    refine World.cell?_setCell_same (u := .int .i64 0) _ _ _ ?_
    exact keepalloc (keepalloc (keepalloc (keepalloc q0 _) _) _) _
  clear hz q0 q1 q2 q3 HA hg' g0
  go_wp2_with fail
  go_ret
  exact ⟨rfl, hb⟩
set_option maxHeartbeats 1000000 in
theorem code_nil (w : World) : Calls Tryz.prog 41 #[.nilIface] w fun e w' => e = .returned (.int .i64 0) ∧ Below w.heap.size w w' := by
  go_enter Tryz.func41, Tryz.ntmps41
  go_wp2_with fail
  refine (ar_nil _ _).mono ?_
  rintro e z ⟨rfl, hz⟩
  replace hz := hz.symm
  subst hz
  go_wp2_with fail
  go_ret
  exact ⟨rfl, balloc (Below.refl _ _) _⟩
set_option maxHeartbeats 2000000 in
theorem end_c (R : Nat) (x0 x1 x2 x3 x4 : Value) (w : World) (g : w.heap[R]? = some (.cells #[x0, x1, x2, x3, x4] 85 (0, 0))) : Calls Tryz.prog 44 #[.pointer (some ⟨R, 0, none⟩)] w fun e w' => e = .returned (.tuple #[]) ∧ w' = (w.setCell ⟨R, 2, none⟩ (.bool false)).setCell ⟨R, 0, none⟩ (.slice none 0 0) := by
  obtain ⟨⟨f0, f1, f2, f3, f4⟩, p0, p1, p2, p3, p4⟩ := cell5g g
  go_enter Tryz.func44, Tryz.ntmps44
  go_wp2_with fail
  go_end0
  exact ⟨rfl, rfl⟩
theorem end_at {w : World} {R : Nat} {x0 x1 x2 x3 x4 : Value} {t : TypeId} (g : w.heap[R]? = some (.cells #[x0, x1, x2, x3, x4] t (0, 0))) : ((w.setCell ⟨R, 2, none⟩ (.bool false)).setCell ⟨R, 0, none⟩ (.slice none 0 0)).heap[R]? = some (.cells #[.slice none 0 0, x1, .bool false, x3, x4] t (0, 0)) := set_at (k := 0) (u := .slice none 0 0) (set_at (k := 2) (u := .bool false) g)
end Go.Proofs.YtkdoigibpaempaaGreatDoor
namespace Go.Proofs.YtkdoigibpaempaaGreatDoor
open Go.RowKit
def tchc (rs : List Rw) (st : Int) (c : Ch) : Bool := rs.any (touch1 c.1 st)
set_option maxHeartbeats 2000000 in
theorem tch_1 {N : Nat → Prop} (x : Ch) (a' : Option Addr) (cap' : Nat) (now st : Int) (x0 x2 : Value) (ra : Option Addr) (rc : Nat) (rs : List Rw) (q R : Nat) (w : World) (hm : rs.length ≤ 1099511627776) (h : Rws N w ra rs) (cq : w.cell? ⟨q, 0, none⟩ = some (.pointer (some ⟨R, 0, none⟩))) (gR : w.heap[R]? = some (.cells #[x0, .int .i64 st, x2, .int .i64 now, .slice ra rs.length rc] 85 (0, 0))) :
    Calls Tryz.prog 70 #[chv x a' cap', .pointer (some ⟨q, 0, none⟩)] w fun e w' => e = .returned (.bool (tchc rs st x)) ∧ Below w.heap.size w w' := by
  obtain ⟨id, go, kd, ps⟩ := x
  unfold chv tchc
  simp only
  have HT := hid (fun (W : World) (hb : Below w.heap.size w W) => rows_touched now ra rc rs id st W hm (h.below hb))
  generalize rs.any (touch1 id st) = tb at *
  generalize rs.length = n at *
  generalize ps.length = np at *
  have hB : Below w.heap.size w (w.alloc (.cells #[.int .i64 id, .bool go, .int .i64 kd, .slice a' np cap'] 54)) := balloc (Below.refl _ _) _
  have gX := new_alloc w w.heap.size (.cells #[.int .i64 id, .bool go, .int .i64 kd, .slice a' np cap'] 54) rfl
  replace gR := keepheap2 hB gR
  replace cq := keepcell hB cq
  go_enter Tryz.func70, Tryz.ntmps70
  go_upto_region 1 with fail
  have HB := hid hB
  clear hB h
  generalize w.alloc (.cells #[.int .i64 id, .bool go, .int .i64 kd, .slice a' np cap'] 54) = W at *
  obtain ⟨X, hX⟩ : ∃ X, X = w.heap.size := ⟨_, rfl⟩
  rw [← hX] at gX ⊢
  clear hX
  obtain ⟨⟨y0, y1, y2, y3⟩, _⟩ := cellk4 gX
  obtain ⟨⟨r0, r1, r2, r3, r4⟩, _⟩ := cell5g gR
  go_region_held3 (fun w' => w'.cell? ⟨q, 0, none⟩ = some (.pointer (some ⟨R, 0, none⟩)) ∧ w'.cell? ⟨R, 1, none⟩ = some (.int .i64 st) ∧ w'.cell? ⟨R, 3, none⟩ = some (.int .i64 now) ∧ w'.cell? ⟨R, 4, none⟩ = some (.slice ra n rc) ∧ w'.cell? ⟨X, 0, none⟩ = some (.int .i64 id)) ((go_split_ands; (repeat' apply And.intro) <;> (with_reducible repeat (first | assumption | refine keepcell (by assumption) ?_ | refine keepdrew ?_ | refine keepalloc ?_ _))))
    (first
      | (go_at_call 71; refine (HT.out _ (bdrew HB.out)).mono ?_; rintro e w1 ⟨rfl, hb1⟩))
  go_wp2_with fail
  go_ret
  exact ⟨rfl, by have hBB := HB.out; (with_reducible repeat (first | exact Below.refl _ _ | assumption | (refine btrans ?_ (by assumption)) | refine bdrew ?_ | refine balloc ?_ _))⟩
set_option maxHeartbeats 2000000 in
theorem index_tch {N : Nat → Prop} (a : Option Addr) (cap : Nat) (cs : List Ch) (Q : Ch → Bool) (q : Nat) (w : World) (hm : cs.length ≤ 1099511627776) (h : Chs N 1099511627776 w a cs) (hcl : ∀ (x : Ch) (a' : Option Addr) (cap' : Nat) (W : World), Below w.heap.size w W → Calls Tryz.prog 70 #[chv x a' cap', .pointer (some ⟨q, 0, none⟩)] W fun e w' => e = .returned (.bool (Q x)) ∧ Below W.heap.size W w') :
    Calls Tryz.prog 96 #[.slice a cs.length cap, .func (.func 70) #[] #[.pointer (some ⟨q, 0, none⟩)]] w fun e w' => (∃ v : Int, e = .returned (.int .i64 v) ∧ (0 ≤ v ↔ cs.any Q = true)) ∧ Below w.heap.size w w' := by
  have HR := hid h
  have HCL := hid hcl
  clear h hcl
  obtain ⟨n, hn⟩ : ∃ n, n = cs.length := ⟨_, rfl⟩
  have HN := hid hn.symm
  rw [← hn] at hm ⊢
  clear hn
  have HY : Hid (∀ i (h : i < cs.length), Q cs[i] = true → cs.any Q = true) := hid (fun i h e => by rw [List.any_eq_true]; exact ⟨cs[i], List.getElem_mem h, e⟩)
  have HNO : Hid ((∀ m (h : m < cs.length), Q cs[m] = false) → cs.any Q = false) := hid (fun hh => by
    rw [List.any_eq_false]
    intro x hx
    obtain ⟨m, hm1, rfl⟩ := List.mem_iff_getElem.1 hx
    rw [hh m hm1]; simp)
  generalize cs.any Q = ab at *
  go_enter Tryz.func96, Tryz.ntmps96
  go_wp2_with fail
  go_loopw [8] (fun ti wr => ∃ i : Nat, ti = .int .i64 i ∧ i ≤ n ∧ Hid (∀ m (h : m < cs.length), m < i → Q cs[m] = false) ∧ Hid (Below w.heap.size w wr)) (fun ti _ => n - (intOf ti).toNat)
  case atStart => exact ⟨0, rfl, Nat.zero_le _, hid (fun m h hh => absurd hh (by omega)), hid (Below.refl _ _)⟩
  case round =>
    obtain ⟨i, rfl, hi, HA, HBW⟩ := hrel
    by_cases hlt : i < n
    · have d1 : (i : Int) < (n : Int) := by omega
      have hir : i < cs.length := by rw [HN.out]; exact hlt
      obtain ⟨b, o, rfl, hbs, a', cap', k0, k1, k2, k3, k5, k6, k7, _⟩ := (HR.out.below HBW.out).at i hir
      have HT := hid (HCL.out cs[i] a' cap' wr HBW.out)
      have HYES := hid (HY.out i hir)
      have HNEXT : Hid (Q cs[i] = false → ∀ m (h : m < cs.length), m < i + 1 → Q cs[m] = false) := hid (fun e1 m h hm => by
        by_cases e : m = i
        · subst e; exact e1
        · exact HA.out m h (by omega))
      clear k5 k6 k7
      generalize Q cs[i] = qb at HT HYES HNEXT
      unfold chv at HT
      generalize cs[i].1 = id2 at *
      generalize cs[i].2.1 = go at *
      generalize cs[i].2.2.1 = kd at *
      generalize cs[i].2.2.2.length = np at *
      go_wp2_with fail
      refine HT.out.mono ?_
      rintro e z ⟨rfl, hz⟩
      have HZ := hid (btrans HBW.out hz)
      clear hz
      cases qb
      · have HF := hid (HNEXT.out rfl)
        go_wp2_with fail
        go_roundw
        case rel => exact ⟨i + 1, by go_num, by omega, HF, HZ⟩
        case measure => simp [intOf]; omega
      · have HF := hid (HYES.out rfl)
        go_wp2_with fail
        go_ret
        exact ⟨⟨_, rfl, by constructor <;> intro _ <;> first | exact HF.out | omega⟩, HZ.out⟩
    · have HF := hid (HNO.out (fun m hm1 => HA.out m hm1 (by rw [HN.out] at hm1; omega)))
      have d1 : (n : Int) ≤ (i : Int) := by omega
      go_wp2_with fail
      go_ret
      exact ⟨⟨_, rfl, by rw [HF.out]; simp⟩, HBW.out⟩
set_option maxHeartbeats 1000000 in
theorem contains_tch {N : Nat → Prop} (a : Option Addr) (cap : Nat) (cs : List Ch) (Q : Ch → Bool) (q : Nat) (w : World) (hm : cs.length ≤ 1099511627776) (h : Chs N 1099511627776 w a cs) (hcl : ∀ (x : Ch) (a' : Option Addr) (cap' : Nat) (W : World), Below w.heap.size w W → Calls Tryz.prog 70 #[chv x a' cap', .pointer (some ⟨q, 0, none⟩)] W fun e w' => e = .returned (.bool (Q x)) ∧ Below W.heap.size W w') :
    Calls Tryz.prog 69 #[.slice a cs.length cap, .func (.func 70) #[] #[.pointer (some ⟨q, 0, none⟩)]] w fun e w' => e = .returned (.bool (cs.any Q)) ∧ Below w.heap.size w w' := by
  have HI := hid (index_tch a cap cs Q q w hm h hcl)
  clear h hcl
  generalize cs.any Q = ab at *
  generalize cs.length = n at *
  go_enter Tryz.func69, Tryz.ntmps69
  go_wp2_with fail
  refine HI.out.mono ?_
  rintro e z ⟨⟨v, rfl, hv⟩, hz⟩
  have HZ := hid hz
  clear hz
  by_cases h0 : 0 ≤ v
  · have hab := hv.1 h0
    subst hab
    clear hv
    go_wp2_with fail
    go_ret
    exact ⟨by first | rfl | simp [h0], HZ.out⟩
  · have hab : ab = false := by
      cases ab
      · rfl
      · exact absurd (hv.2 rfl) h0
    subst hab
    have h0' : v < 0 := by omega
    clear hv
    go_wp2_with fail
    go_ret
    exact ⟨by first | rfl | simp [h0], HZ.out⟩
end Go.Proofs.YtkdoigibpaempaaGreatDoor
namespace Go.Proofs.YtkdoigibpaempaaGreatDoor
open Go.RowKit
def APS (w : World) (now : Int) (rs : List Rw) (cs : List Ch) (e : Ending) (w' : World) : Prop :=
  ∃ a c xs, e = .returned (.tuple #[.agg #[.int .i64 (apnow now rs cs), .slice a (aprs now rs cs).length c], .bool (apb now rs cs)]) ∧ RowsX w.heap.size w'.heap.size w' (.slice a (aprs now rs cs).length c) (aprs now rs cs) xs ∧ Below w.heap.size w w'
theorem APR.form {w : World} {now : Int} {rs : List Rw} {cs : List Ch} {e : Ending} {w' : World} (h : APR w now rs cs e w') : APS w now rs cs e w' := by
  obtain ⟨v, xs, h1, h2, h3⟩ := h
  obtain ⟨a, c, rfl⟩ := kept_form h2
  exact ⟨a, c, xs, h1, h2, h3⟩
end Go.Proofs.YtkdoigibpaempaaGreatDoor
