/- Texts of stores, joined: Tb, Cc, Tc, Va. -/
import Derived.Test.YtenlhgnobfadgaaGreatDoorJ12
import Derived.Maps.Own
import Derived.Maps.OwnOps
import Derived.Maps.OwnSet
import Derived.Maps.Views
import Derived.DeepKeys4
import Derived.BigQuiet
import Derived.Maps.AppendAt
set_option maxRecDepth 100000
set_option maxHeartbeats 4000000
set_option linter.unusedSimpArgs false
set_option linter.unusedVariables false
namespace Go.Proofs.YtenlhgnobfadgaaGreatDoor
open Go.RowKit Go.Maps
theorem Tryz.laidK : laidOutB Tryz.prog = true := by kernel_rfl
theorem Tryz.keyTyK : Tryz.prog.keyType 123 = true := by kernel_rfl
theorem Tryz.cellsK : Tryz.prog.cellsOf 123 = 2 := by kernel_rfl
theorem Tryz.cells3K : Tryz.prog.cellsOf 3 = 1 := by kernel_rfl
theorem Tryz.undK : Tryz.prog.underlying 123 = some (.array 2 3) := by kernel_rfl
theorem Tryz.wideK : (match Tryz.prog.underlying 123 with | some (.array _ _) | some (.struct _) => true | _ => false) = true := by rw [Tryz.undK]
theorem Tryz.rowK : (123 : TypeId) < Tryz.prog.types.size := of_decide_eq_true (by kernel_rfl)
theorem Tryz.deepK : Tryz.prog.keyTypeAt 4 123 = true := by kernel_rfl
theorem Tryz.lawK : Keyed Tryz.prog 123 := Keyed.of_law (deep_law_laid (P := Tryz.prog) Tryz.laidK (m := 4) (Nat.le_of_ble_eq_true rfl) Tryz.rowK Tryz.deepK Tryz.wideK)
theorem Tryz.zeroK (w : World) : (zeroValue 3).run Tryz.prog w = .ok (.int .i64 0) w := by kernel_rfl
theorem pos_size {n k : Nat} (h : k < n) : ∃ d, n = d + 1 := ⟨n - 1, by omega⟩
def i64w (k : Int) : Prop := -9223372036854775808 ≤ k ∧ k ≤ 9223372036854775807
theorem key_is (a b : Int) (ha : i64w a) (hb : i64w b) : ∃ kl, keyOf Tryz.prog 123 (.agg #[.int .i64 a, .int .i64 b]) = some kl := by
 have hf : (Value.agg #[.int .i64 a, .int .i64 b]).formed Tryz.prog 123 = true := by simp [Value.formed, Tryz.undK, Tryz.cellsK]
 have wa : (Lit.int .i64 a).wf = true := WalkArith.wf_i64 ha
 have wb : (Lit.int .i64 b).wf = true := WalkArith.wf_i64 hb
 obtain ⟨d, hd⟩ := pos_size Tryz.rowK
 unfold keyOf
 rw [Tryz.undK]
 simp only []
 rw [Tryz.keyTyK, hf, hd]
 simp [Program.keyLits, Tryz.undK, Tryz.underlying3, Tryz.cellsK, Tryz.cells3K, Value.cells, List.range, List.range.loop, wa, wb]
noncomputable def kyL (a b : Int) : Lit := (keyOf Tryz.prog 123 (.agg #[.int .i64 a, .int .i64 b])).getD (.bool false)
theorem kyL_is {a b : Int} (ha : i64w a) (hb : i64w b) : keyOf Tryz.prog 123 (.agg #[.int .i64 a, .int .i64 b]) = some (kyL a b) := by
 obtain ⟨kl, h⟩ := key_is a b ha hb
 unfold kyL
 rw [h]; rfl
theorem kyL_ne {a b c d : Int} (ha : i64w a) (hb : i64w b) (hc : i64w c) (hd : i64w d) (h : ¬ (a = c ∧ b = d)) : kyL a b ≠ kyL c d := by
 intro e
 have h1 := kyL_is ha hb
 have h2 := kyL_is hc hd
 rw [← e] at h2
 have := Keyed.inj Tryz.lawK h1 h2
 simp at this
 exact h this
theorem kyL_key {a b : Int} (ha : i64w a) (hb : i64w b) : WideAt.IsKeyLit (kyL a b) := Keyed.key Tryz.lawK (kyL_is ha hb)
def MP (rs : List Rw) (i : Nat) (D : DataW Unit) : Prop :=
 IsMap D ∧ ∀ id, i64w id → (has D (kyL id 0) = true → ∃ (m : Nat) (hm : m < rs.length), rs[m].1 = id ∧ rs[m].2.2.1 = 0 ∧ D.atKey (kyL id 0) (.lit (.int .i64 0)) = .lit (.int .i64 m)) ∧ (has D (kyL id 0) = false → ∀ (m : Nat) (hm : m < rs.length), m < i → rs[m].1 = id → rs[m].2.2.1 ≠ 0)
theorem MP.start (rs : List Rw) : MP rs 0 (.map []) := ⟨isMap_empty, fun id _ => ⟨fun h => by simp [has] at h, fun _ m hm hh => by omega⟩⟩
theorem MP.next {rs : List Rw} {i : Nat} {D : DataW Unit} (h : MP rs i D) (hi : i < rs.length) (hw : i64w rs[i].1) (ht : i64w rs[i].2.2.1) : MP rs (i + 1) (D.put (kyL rs[i].1 rs[i].2.2.1) (.lit (.int .i64 i))) := by
 obtain ⟨h1, h2⟩ := h
 refine ⟨h1.put _ _, fun id hid => ?_⟩
 have z0 : i64w 0 := ⟨by omega, by omega⟩
 by_cases e : rs[i].1 = id ∧ rs[i].2.2.1 = 0
 ·have ek : kyL rs[i].1 rs[i].2.2.1 = kyL id 0 := by rw [e.1, e.2]
  rw [ek]
  have hkk := kyL_key hid z0
  refine ⟨fun _ => ⟨i, hi, e.1, e.2, atKey_put_same h1 hkk _ _⟩, fun hf => ?_⟩
  rw [has_put_same h1 hkk] at hf
  cases hf
 ·have hne : kyL id 0 ≠ kyL rs[i].1 rs[i].2.2.1 := kyL_ne hid z0 hw ht (fun q => e ⟨q.1.symm, q.2.symm⟩)
  rw [has_put_other hne, atKey_put_other hne]
  obtain ⟨a1, a2⟩ := h2 id hid
  refine ⟨a1, fun hf m hm hlt hq hz => ?_⟩
  by_cases em : m = i
  ·subst em; exact e ⟨hq, hz⟩
  ·exact a2 hf m hm (by omega) hq hz
theorem make_mapK (n : Nat) (w : World) : (Instr.makeMap 120 (some (.int .i64 n))).run Tryz.prog w = .ok (.map (some w.heap.size)) (w.alloc (.map #[] 0)) := by
 have hu := Tryz.underlying120
 simp [Instr.makeMap, hu, go_sem]
end Go.Proofs.YtenlhgnobfadgaaGreatDoor
namespace Go.Proofs.YtenlhgnobfadgaaGreatDoor
open Go.RowKit
theorem nodup_ids {xs : List Ch} : (xs.map (fun x => x.1)).Nodup ↔ ∀ i k (hi : i < xs.length) (hk : k < i), xs[k].1 ≠ xs[i].1 := by
 rw [List.Nodup, List.pairwise_iff_getElem]
 constructor
 ·intro h i k hi hk
  have := h k i (by simpa using (by omega : k < xs.length)) (by simpa using hi) hk
  simpa using this
 ·intro h i j hi hj hij
  have := h j i (by simpa using hj) hij
  simpa using this
theorem cgs_no {xs : List Ch} {i : Nat} (hi : i < xs.length) (h : cgb xs[i] = false) : cgs xs = false := by
 unfold cgs
 have : xs.all cgb = false := by
  rw [List.all_eq_false]
  exact ⟨xs[i], List.getElem_mem hi, by simp [h]⟩
 rw [this]; rfl
theorem cgs_two {xs : List Ch} {i k : Nat} (hi : i < xs.length) (hk : k < i) (h : xs[k].1 = xs[i].1) : cgs xs = false := by
 unfold cgs
 have : ¬ (xs.map (fun x => x.1)).Nodup := fun q => nodup_ids.1 q i k hi hk h
 simp [this]
theorem cgs_yes {xs : List Ch} (h1 : ∀ i (hi : i < xs.length), cgb xs[i] = true) (h2 : ∀ i k (hi : i < xs.length) (hk : k < i), xs[k].1 ≠ xs[i].1) : cgs xs = true := by
 unfold cgs
 have a1 : xs.all cgb = true := by
  rw [List.all_eq_true]
  intro x hx
  obtain ⟨k, hk, rfl⟩ := List.getElem_of_mem hx
  exact h1 k hk
 have a2 : (xs.map (fun x => x.1)).Nodup := nodup_ids.2 h2
 simp [a1, a2]
theorem spec_cgs {N : Nat → Prop} (a : Option Addr) (cap : Nat) (cs : List Ch) (w : World) (hm : cs.length ≤ 1099511627776) (h : Chs N 1099511627776 w a cs) : Calls Tryz.prog 109 #[.slice a cs.length cap] w fun e w' => e = .returned (.bool (cgs cs)) ∧ Below w.heap.size w w' := by
 have HR := hid h
 have HNO := hid (fun i (hi : i < cs.length) h => @cgs_no cs i hi h)
 have HTW := hid (fun i k (hi : i < cs.length) (hk : k < i) h => @cgs_two cs i k hi hk h)
 have HY := hid (@cgs_yes cs)
 clear h
 generalize cgs cs = sk at *
 go_enter Tryz.func109, Tryz.ntmps109
 go_wp2_with fail
 go_loopw [3] (fun ti wr => ∃ i : Nat, ti = .int .i64 i ∧ i ≤ cs.length ∧ Hid (∀ k (hk : k < cs.length), k < i → cgb cs[k] = true) ∧ Hid (∀ j k (hj : j < cs.length) (hk : k < j), j < i → cs[k].1 ≠ cs[j].1) ∧ Hid (Below w.heap.size w wr)) (fun ti _ => cs.length - (intOf ti).toNat)
 case atStart => exact ⟨0, rfl, Nat.zero_le _, hid (fun k hk q => absurd q (by omega)), hid (fun j k hj hk q => absurd q (by omega)), hid (Below.refl _ _)⟩
 case round =>
  obtain ⟨i, rfl, hi, HA, HD, HB⟩ := hrel
  by_cases hlt : i < cs.length
  ·have c1 : (i : Int) < (cs.length : Int) := by omega
   obtain ⟨bb, o, rfl, hbs, a', cap', k0, k1, k2, k3, k4, k5, k6, _⟩ := HR.out.at i hlt
   have HK0 := hid (fun (W : World) (hb : Below w.heap.size w W) => keepcell hb k0)
   replace k0 := keepcell HB.out k0
   replace k1 := keepcell HB.out k1
   replace k2 := keepcell HB.out k2
   replace k3 := keepcell HB.out k3
   have HE := hid (show cgb cs[i] = (idb cs[i].1 && (if cs[i].2.1 = true then zsh cs[i].2.2.1 cs[i].2.2.2.length else shok cs[i].2.2.1 cs[i].2.2.2)) from rfl)
   have HS := hid (fun (W : World) (hb : Below w.heap.size w W) => spec_ShapeOk cs[i].2.2.1 a' cap' cs[i].2.2.2 W k5 k4 (k6.below hb))
   have HNi := hid (HNO.out i hlt)
   have HAi : Hid (cgb cs[i] = true → ∀ k (hk : k < cs.length), k < i + 1 → cgb cs[k] = true) := hid (fun q k hk hki => by
    by_cases e : k = i
    ·subst e; exact q
    ·exact HA.out k hk (by omega))
   unfold shv at HS
   clear k4 k5 k6
   obtain ⟨x, hx⟩ : ∃ x, x = cs[i].1 := ⟨_, rfl⟩
   rw [← hx] at HE k0 HK0
   have HX := hid hx
   clear hx
   generalize cgb cs[i] = cb at *
   generalize cs[i].2.1 = gn at *
   generalize cs[i].2.2.1 = kd at *
   generalize cs[i].2.2.2 = ps at *
   generalize shok kd ps = so at *
   generalize ps.length = np at *
   go_upto_region 4 with fail
   go_cut [60] (fun t60 wx => t60 = .bool (!cb) ∧ Below w.heap.size w wx)
   case first =>
    clear HNi HAi
    cases hib : idb x
    ·have hq : cb = false := by rw [HE.out, hib]; rfl
     subst hq
     have HI := hid (fun W => spec_id x W)
     rw [hib] at HI
     clear hib
     go_wp2_with fail
     refine (HI.out _).mono ?_
     rintro e z ⟨rfl, hz⟩
     replace hz := hz.symm
     subst hz
     go_wp2_with fail
     go_meet
     exact ⟨rfl, HB.out⟩
    ·have HI := hid (fun W => spec_id x W)
     rw [hib] at HI
     have hE2 : cb = (if gn = true then zsh kd np else so) := by rw [HE.out, hib]; rfl
     clear HE hib
     cases gn
     ·have hq : cb = so := by rw [hE2]; rfl
      clear hE2
      subst hq
      go_wp2_with fail
      refine (HI.out _).mono ?_
      rintro e z ⟨rfl, hz⟩
      replace hz := hz.symm
      subst hz
      go_wp2_with fail
      refine (HS.out _ HB.out).mono ?_
      rintro e z ⟨rfl, hz⟩
      have hB2 := btrans HB.out hz
      replace k0 := keepcell hz k0
      replace k1 := keepcell hz k1
      replace k2 := keepcell hz k2
      replace k3 := keepcell hz k3
      clear hz
      cases cb
      ·go_wp2_with fail
       go_meet
       exact ⟨rfl, hB2⟩
      ·go_wp2_with fail
       go_meet
       exact ⟨rfl, hB2⟩
     ·have hq : cb = zsh kd np := by rw [hE2]; rfl
      clear hE2 HS
      by_cases h0 : kd = 0
      ·subst h0
       by_cases h1 : np = 0
       ·subst h1
        have hq2 : cb = true := by rw [hq]; rfl
        clear hq
        subst hq2
        go_wp2_with fail
        refine (HI.out _).mono ?_
        rintro e z ⟨rfl, hz⟩
        replace hz := hz.symm
        subst hz
        go_wp2_with fail
        go_meet
        exact ⟨rfl, HB.out⟩
       ·have h2 : (0 : Int) < (np : Int) := by omega
        have hq2 : cb = false := by rw [hq]; unfold zsh; simp [h1]
        clear hq
        subst hq2
        go_wp2_with fail
        refine (HI.out _).mono ?_
        rintro e z ⟨rfl, hz⟩
        replace hz := hz.symm
        subst hz
        go_wp2_with fail
        go_meet
        exact ⟨by simp; omega, HB.out⟩
      ·have hq2 : cb = false := by rw [hq]; unfold zsh; simp [h0]
       clear hq
       subst hq2
       go_wp2_with fail
       refine (HI.out _).mono ?_
       rintro e z ⟨rfl, hz⟩
       replace hz := hz.symm
       subst hz
       go_wp2_with fail
       go_meet
       exact ⟨rfl, HB.out⟩
   case rest =>
    obtain ⟨rfl, hBc⟩ := hcut
    clear k0 k1 k2 k3 HE HS
    cases cb
    ·have hq := HNi.out rfl
     subst hq
     go_wp2_with fail
     go_ret
     exact ⟨rfl, hBc⟩
    ·have HA2 := hid (HAi.out rfl)
     have HB2 := hid hBc
     clear hBc HNi HAi HA HB
     go_wp2_with fail
     go_loopw [4] (fun tk wr => ∃ k : Nat, tk = .int .i64 k ∧ k ≤ i ∧ Hid (∀ j (hj : j < cs.length), j < k → cs[j].1 ≠ x) ∧ Hid (Below w.heap.size w wr)) (fun tk _ => i - (intOf tk).toNat)
     case atStart => exact ⟨0, rfl, Nat.zero_le _, hid (fun j hj q => absurd q (by omega)), HB2⟩
     case round =>
      clear HB2
      obtain ⟨k, rfl, hk, HN2, HB2⟩ := hrel
      by_cases hki : k < i
      ·have c2 : (k : Int) < (i : Int) := by omega
       obtain ⟨bb', o', e', _, _, _, q0, _⟩ := HR.out.at k (by omega)
       cases e'
       replace q0 := keepcell HB2.out q0
       have k0 := HK0.out _ HB2.out
       have HT := hid (fun (e : cs[k].1 = x) => HTW.out i k hlt hki (by rw [← HX.out]; exact e))
       have HN3 : Hid (¬ cs[k].1 = x → ∀ j (hj : j < cs.length), j < k + 1 → cs[j].1 ≠ x) := hid (fun q j hj hjk => by
        by_cases e : j = k
        ·subst e; exact q
        ·exact HN2.out j hj (by omega))
       have c3 : (k : Int) < (cs.length : Int) := by omega
       generalize cs[k].1 = y at *
       have HBd := hid (fun q => Go.RowKit.Below.trans HB2.out (show Below w.heap.size wr (wr.drewN q) from ⟨rfl, rfl, rfl, Nat.le_refl _, fun _ _ => rfl⟩))
       by_cases he : y = x
       ·have hq := HT.out he
        subst hq
        subst he
        go_wp2_with fail
        go_quiet (fail)
        go_wp2_with fail
        go_ret
        exact ⟨rfl, HBd.out _⟩
       ·have HN4 := hid (HN3.out he)
        go_wp2_with fail
        go_quiet (fail)
        go_wp2_with fail
        go_roundw
        case rel => exact ⟨k + 1, by go_num, by omega, HN4, hid (HBd.out _)⟩
        case measure => simp [intOf]; omega
      ·have c2 : (i : Int) ≤ (k : Int) := by omega
       have HD2 : Hid (∀ j k (hj : j < cs.length) (hk : k < j), j < i + 1 → cs[k].1 ≠ cs[j].1) := hid (fun j k' hj hk' q => by
        by_cases e : j = i
        ·subst e
         rw [← HX.out]
         exact HN2.out k' (by omega) (by omega)
        ·exact HD.out j k' hj hk' (by omega))
       go_wp2_with fail
       go_roundw
       case rel => exact ⟨i + 1, by go_num, by omega, HA2, HD2, HB2⟩
       case measure => simp [intOf]; omega
  ·have c1 : (cs.length : Int) ≤ (i : Int) := by omega
   have hq := HY.out (fun k hk => HA.out k hk (by omega)) (fun j k hj hk => HD.out j k hj hk (by omega))
   subst hq
   go_wp2_with fail
   go_ret
   exact ⟨rfl, HB.out⟩
end Go.Proofs.YtenlhgnobfadgaaGreatDoor
namespace Go.Proofs.YtenlhgnobfadgaaGreatDoor
open Go.RowKit Go.Maps
theorem bdrewN2 {w a : World} (h : Below w.heap.size w a) {n : Nat} : Below w.heap.size w (a.drewN n) := ⟨h.1, h.2, h.3, h.4, h.5⟩
def IdW (rs : List Rw) : Prop := ∀ m (h : m < rs.length), i64w rs[m].1 ∧ i64w rs[m].2.2.1
def PB (w : World) (rs : List Rw) (e : Ending) (w' : World) : Prop :=
 ∃ (B n : Nat) (D : DataW Unit), e = .returned (.map (some B)) ∧ w.heap.size ≤ B ∧ w'.ownsMap Tryz.prog 123 (plainElem Tryz.prog 3) B n D ∧ MP rs rs.length D ∧ Below w.heap.size w w'
theorem places_c {N : Nat → Prop} (a : Option Addr) (cap : Nat) (rs : List Rw) (w : World) (hm : rs.length ≤ 1099511627776) (hk : IdW rs) (h : Rws N w a rs) : Calls Tryz.prog 90 #[.slice a rs.length cap] w fun e w' => PB w rs e w' := by
 have HR := hid h
 have HK := hid hk
 have HEND : Hid (∀ (W : World) (D : DataW Unit), W.ownsMap Tryz.prog 123 (plainElem Tryz.prog 3) w.heap.size rs.length D → MP rs rs.length D → Below w.heap.size w W → PB w rs (.returned (.map (some w.heap.size))) W) := hid (fun W D h1 h2 h3 => ⟨_, _, D, rfl, Nat.le_refl _, h1, h2, h3⟩)
 obtain ⟨n, hn⟩ : ∃ n, n = rs.length := ⟨_, rfl⟩
 have HN := hid hn.symm
 rw [← hn] at hm HEND ⊢
 clear hn h hk
 have hmm := make_mapK n
 go_enter Tryz.func90, Tryz.ntmps90
 go_wp2_with fail
 clear hmm
 go_loopw [11] (fun ti wr => ∃ i : Nat, ti = .int .i64 i ∧ i ≤ n ∧ Hid (Below w.heap.size w wr) ∧ Hid (∃ D : DataW Unit, wr.ownsMap Tryz.prog 123 (plainElem Tryz.prog 3) w.heap.size i D ∧ MP rs i D)) (fun ti _ => n - (intOf ti).toNat)
 case atStart => exact ⟨0, rfl, Nat.zero_le _, hid ((Below.refl _ _).alloc (Nat.le_refl _) _), hid ⟨_, World.ownsMap_made _ _ _ _, MP.start rs⟩⟩
 case round =>
  obtain ⟨i, rfl, hi, HBW, HO⟩ := hrel
  by_cases hlt : i < n
  ·have d1 : (i : Int) < (n : Int) := by omega
   have d0 : (0 : Int) ≤ (i : Int) := by omega
   have hir : i < rs.length := by rw [HN.out]; exact hlt
   obtain ⟨D, hown, hmp⟩ := HO.out
   obtain ⟨w1, w2⟩ := HK.out i hir
   have hkey := kyL_is w1 w2
   have HMP := hid (hmp.next hir w1 w2)
   obtain ⟨b, o, rfl, hbs, a', cap', k0, k1, k2, k3, k4, _⟩ := (HR.out.at i hir)
   replace k0 := keepcell HBW.out k0
   replace k1 := keepcell HBW.out k1
   replace k2 := keepcell HBW.out k2
   replace k3 := keepcell HBW.out k3
   replace k4 := keepcell HBW.out k4
   clear HO hmp w1 w2
   generalize rs[i].2.2.2.2.length = v4 at *
   generalize rs[i].2.2.2.1 = v3 at *
   generalize rs[i].2.2.1 = v2 at *
   generalize rs[i].2.1 = v1 at *
   generalize rs[i].1 = v0 at *
   have HOW := hid hown
   have HKEY := hid hkey
   clear hown hkey
   have hBx : Below wr.heap.size wr (wr.alloc (.cells #[.int .i64 v0, .int .i64 v1, .int .i64 v2, .int .i64 v3, .slice a' v4 cap'] 65)) := balloc (Below.refl _ _) _
   have gx := new_alloc wr wr.heap.size (.cells #[.int .i64 v0, .int .i64 v1, .int .i64 v2, .int .i64 v3, .slice a' v4 cap'] 65) rfl
   go_upto_region 5 with fail
   have HB1 := hid (btrans HBW.out hBx)
   have HO1 := hid (HOW.out.alloc (.cells #[.int .i64 v0, .int .i64 v1, .int .i64 v2, .int .i64 v3, .slice a' v4 cap'] 65))
   clear k0 k1 k2 k3 k4 hBx HOW
   generalize wr.alloc (.cells #[.int .i64 v0, .int .i64 v1, .int .i64 v2, .int .i64 v3, .slice a' v4 cap'] 65) = W1 at *
   obtain ⟨X, hX⟩ : ∃ X, X = wr.heap.size := ⟨_, rfl⟩
   rw [← hX] at gx ⊢
   clear hX
   obtain ⟨⟨x0, x1, x2, x3, x4⟩, _⟩ := cell5g gx
   go_wp2_with (first
    | (at_mapUpdate; refine wpList_mapUpdate_own _ rfl _ _ _ 120 rfl 123 3 Tryz.lawK Tryz.underlying120 (plainElem Tryz.prog 3) w.heap.size i D rfl HO1.out (by unfold maxLen; omega) _ _ _ rfl rfl HKEY.out (.lit (.int .i64 i)) [] (plainElem_int Tryz.underlying3 (WalkArith.wf_i64 (by omega))) ?_)
    | go_in)
   intro y hown1 hgrow1
   have R2 := hid (HB1.out.grown hgrow1 HB1.out.size (fun j hj => by cases hj; exact Nat.le_refl _))
   have R1 : Hid (∃ D : DataW Unit, y.ownsMap Tryz.prog 123 (plainElem Tryz.prog 3) w.heap.size (i + 1) D ∧ MP rs (i + 1) D) := hid ⟨_, hown1, HMP.out⟩
   clear hown1 hgrow1 HO1
   go_wp2_with fail
   go_roundw
   case rel => exact ⟨i + 1, by go_num, by omega, R2, R1⟩
   case measure => simp [intOf]; omega
  ·have hin : i = n := by omega
   have HF : Hid (PB w rs (.returned (.map (some w.heap.size))) wr) := hid (by
    obtain ⟨D, h1, h2⟩ := HO.out
    subst hin
    exact HEND.out _ D h1 h2 HBW.out)
   clear hin HO
   go_wp2_with fail
   go_ret
   exact HF.out
theorem begun_c {N : Nat → Prop} (a : Option Addr) (cap : Nat) (cs : List Ch) (w : World) (hm : cs.length ≤ 1099511627776) (h : Chs N 1099511627776 w a cs) : Calls Tryz.prog 85 #[.slice a cs.length cap] w fun e w' => e = .returned (.int .i64 (bgn cs)) ∧ Below w.heap.size w w' := by
 have HR := hid h
 have HBG : Hid (∀ i (h : i < cs.length), bgn (cs.take (i + 1)) = bgn (cs.take i) + (if cs[i].2.1 = true then 0 else 1)) := hid (fun i h => bgn_next cs h)
 have HALL : Hid (bgn (cs.take cs.length) = bgn cs) := hid (by rw [List.take_length])
 have HLE : Hid (∀ i, bgn (cs.take i) ≤ cs.length) := hid (fun i => Nat.le_trans (bgn_le _) (by simp; omega))
 generalize bgn cs = bz at *
 obtain ⟨n, hn⟩ : ∃ n, n = cs.length := ⟨_, rfl⟩
 have HN := hid hn.symm
 rw [← hn] at hm HALL HLE ⊢
 clear hn h
 go_enter Tryz.func85, Tryz.ntmps85
 go_wp2_with fail
 go_loopw [3, 8] (fun tn ti wr => ∃ i k : Nat, ti = .int .i64 i ∧ tn = .int .i64 k ∧ i ≤ n ∧ k ≤ n ∧ Hid (k = bgn (cs.take i)) ∧ Hid (Below w.heap.size w wr)) (fun _ ti _ => n - (intOf ti).toNat)
 case atStart => exact ⟨0, 0, rfl, rfl, Nat.zero_le _, Nat.zero_le _, hid rfl, hid (Below.refl _ _)⟩
 case round =>
  obtain ⟨i, k, rfl, rfl, hi, hk, HKB, HBW⟩ := hrel
  by_cases hlt : i < n
  ·have d1 : (i : Int) < (n : Int) := by omega
   have d0 : (0 : Int) ≤ (i : Int) := by omega
   have hir : i < cs.length := by rw [HN.out]; exact hlt
   obtain ⟨b, o, rfl, hbs, a', cap', k0, k1, k2, k3, _⟩ := (HR.out.at i hir)
   replace k0 := keepcell HBW.out k0
   replace k1 := keepcell HBW.out k1
   replace k2 := keepcell HBW.out k2
   replace k3 := keepcell HBW.out k3
   have HNX := hid (HBG.out i hir)
   have HL1 := hid (HLE.out (i + 1))
   generalize cs[i].2.2.2.length = v3 at *
   generalize cs[i].2.2.1 = v2 at *
   generalize cs[i].2.1 = v1 at *
   generalize cs[i].1 = v0 at *
   cases v1
   ·have hk1 : k + 1 ≤ n := by have h1 := HNX.out; have h2 := HL1.out; have h3 := HKB.out; simp at h1; omega
    have HK1 : Hid (k + 1 = bgn (cs.take (i + 1))) := hid (by rw [HNX.out, ← HKB.out]; rfl)
    go_wp2_with fail
    go_roundw
    case rel => exact ⟨i + 1, k + 1, by go_num, by go_num, by omega, hk1, HK1, hid (balloc HBW.out _)⟩
    case measure => simp [intOf]; omega
   ·have HK1 : Hid (k = bgn (cs.take (i + 1))) := hid (by rw [HNX.out, ← HKB.out]; rfl)
    go_wp2_with fail
    go_roundw
    case rel => exact ⟨i + 1, k, by go_num, rfl, by omega, hk, HK1, hid (balloc HBW.out _)⟩
    case measure => simp [intOf]; omega
  ·have hin : i = n := by omega
   have HF : Hid (k = bz) := hid (by rw [HKB.out, hin, HALL.out])
   clear hin
   go_wp2_with fail
   go_ret
   exact ⟨by rw [HF.out]; rfl, HBW.out⟩
theorem takes_c {N : Nat → Prop} (now : Int) (ra : Option Addr) (rn rcap : Nat) (a : Option Addr) (cap : Nat) (cs : List Ch) (w : World) (hrn : rn ≤ 1099511627776) (hm : cs.length ≤ 1099511627776) (h : Chs N 1099511627776 w a cs) : Calls Tryz.prog 51 #[.agg #[.int .i64 now, .slice ra rn rcap], .slice a cs.length cap] w fun e w' => e = .returned (.bool (decide (now ≤ 1000000000) && decide (rn + bgn cs ≤ 300))) ∧ Below w.heap.size w w' := by
 have hB : Below w.heap.size w (w.alloc (.cells #[.int .i64 now, .slice ra rn rcap] 32)) := balloc (Below.refl _ _) _
 have g0 := new_alloc w w.heap.size (.cells #[.int .i64 now, .slice ra rn rcap] 32) rfl
 have HBG := hid (fun (W : World) (hb : Below w.heap.size w W) => begun_c a cap cs W hm (h.below hb))
 have hle : bgn cs ≤ 1099511627776 := Nat.le_trans (bgn_le cs) hm
 generalize bgn cs = bz at *
 obtain ⟨n, hn⟩ : ∃ n, n = cs.length := ⟨_, rfl⟩
 rw [← hn] at HBG ⊢
 clear hn h hm
 go_enter Tryz.func51, Tryz.ntmps51
 go_upto_region 1 with fail
 have HB := hid hB
 clear hB
 generalize w.alloc (.cells #[.int .i64 now, .slice ra rn rcap] 32) = W at *
 obtain ⟨X, hX⟩ : ∃ X, X = w.heap.size := ⟨_, rfl⟩
 rw [← hX] at g0 ⊢
 clear hX
 obtain ⟨x0, x1⟩ := cell2 g0
 clear g0
 have hw1 : IntKind.i64.wrap ((rn : Int) + (bz : Int)) = (rn : Int) + (bz : Int) := by rw [IntKind.wrap_i64]; omega
 by_cases hnow : now ≤ 1000000000
 ·have hd : decide (now ≤ 1000000000) = true := by simpa using hnow
  go_region_held3 (fun w' => w'.cell? ⟨X, 0, none⟩ = some (.int .i64 now) ∧ w'.cell? ⟨X, 1, none⟩ = some (.slice ra rn rcap)) ((go_split_ands; (repeat' apply And.intro) <;> (with_reducible repeat (first | assumption | refine keepcell (by assumption) ?_ | refine keepdrew ?_ | refine keepalloc ?_ _))))
   (first
    | (go_at_call 85; refine (HBG.out _ (bdrew HB.out)).mono ?_; rintro e w1 ⟨rfl, hb1⟩))
  go_wp2_with fail
  go_ret
  exact ⟨by congr 2; by_cases hq : rn + bz ≤ 300 <;> simp [hq, hnow] <;> omega, by have hBB := HB.out; (with_reducible repeat (first | exact Below.refl _ _ | assumption | (refine btrans ?_ (by assumption)) | refine bdrew ?_ | refine balloc ?_ _))⟩
 ·have hd : decide (now ≤ 1000000000) = false := by simpa using hnow
  go_quiet (fail)
  go_wp2_with fail
  go_ret
  exact ⟨by simp [hnow], by have hBB := HB.out; (with_reducible repeat (first | exact Below.refl _ _ | assumption | (refine btrans ?_ (by assumption)) | refine bdrew ?_ | refine bdrewN2 ?_ | refine balloc ?_ _))⟩
end Go.Proofs.YtenlhgnobfadgaaGreatDoor
namespace Go.Proofs.YtenlhgnobfadgaaGreatDoor
open Go.RowKit
theorem wpList_append_any {P : Program} {w : World} {ops : Array Oper} {rest : List Oper} {o : Oper} {a : Act} {Q : Exit → Act → World → Prop} (hgd : o.guard = none) (s x : Operand) (t : TypeId)
  (ho : o.op = .call { callee := .builtin .append, args := #[s, x], argTypes := #[t, t] })
  (base : Nat) (e : TypeId) (i : TypeInfo) (z : Value) (size bytes : Nat) (ht : P.underlying t = some (.slice e)) (hi : P.info? e = some i) (hz : i.zero = some z)
  (hsize : i.size = size) (hby : i.bytes = bytes) (hzs : z.cells.size = size) (hsz : 0 < size)
  (g0 n0 cap0 : Nat) (n : Nat) (xs : List Value) (hs : a.eval s = .slice (some ⟨g0, 0, none⟩) n0 cap0) (hown : w.ownsRow base e size (.slice (some ⟨g0, 0, none⟩) n0 cap0) n xs)
  (ad : Addr) (m c : Nat) (news : List Value) (hx : a.eval x = .slice (some ad) m c) (hl : news.length = m * size) (hnews : ∀ j u, news[j]? = some u → w.cell? (ad.add j) = some u) (h1 : ∀ u ∈ news, u.oneCell' = true)
  (h63 : n + m ≤ maxLen) (hbytes : (n + m) * bytes ≤ 140737488355328) (hbase : base ≤ w.heap.size)
  (h : ∀ g cap w', w'.ownsRow base e size (.slice (some ⟨g, 0, none⟩) (n + m) cap) (n + m) (xs ++ news) → w.grownBy w' (some g0) → (g = g0 ∨ g = w.heap.size) → wpList P ops Q rest (a.put o.dst (.slice (some ⟨g, 0, none⟩) (n + m) cap)) w') : wpList P ops Q (o :: rest) a w := by
 refine wpList_plain hgd fun K hK => ?_
 obtain ⟨v', w', hr, h2, h3, h4, h5⟩ := run_append_own_at (P := P) w base t o.type e i z size bytes ht hi hz hsize hby hzs hsz _ n xs hown ad m c news hl hnews h1 h63 hbytes hbase
 have hne : v' ≠ .slice none 0 0 := fun e => by have := (h4.1 e).1; cases this
 obtain ⟨g, cap, cur, rfl, _⟩ : ∃ g cap cur, v' = .slice (some ⟨g, 0, none⟩) (n + m) cap ∧ cur = () := by
  rcases h2.2 with ⟨q, _⟩ | ⟨g, cap, cur, e, _⟩
  ·exact absurd q hne
  ·exact ⟨g, cap, (), e, rfl⟩
 unfold Oper.wp execOp
 simp only [ho, resolve, invoke, builtin, Sem.run_bind, Sem.run_pure, Result.andThen_ok, List.map_toArray, List.map_cons, List.map_nil, hs, hx, hr]
 refine hK _ _ (h g cap w' h2 h3 ?_)
 rcases h5 with h5 | h5
 ·left; simpa [Value.ownBlock] using h5
 ·right; simpa [Value.ownBlock] using h5
theorem spec_copyG (kd : Int) (b off : Nat) (cap : Nat) (ps : List (Int × Int)) (w : World) (hm : ps.length ≤ 1099511627776) (h : Pts w (some ⟨b, off, none⟩) ps) (hbs : b < w.heap.size) : Calls Tryz.prog 77 #[.agg #[.int .i64 kd, .slice (some ⟨b, off, none⟩) ps.length cap]] w fun e w' => CP w kd ps e w' := by
 obtain ⟨i0, hi0, hz0, hz1, hz2⟩ := info_parts Tryz.infoPC
 have hp : PtsAt w b off ps := by
  rcases h with h | ⟨b', o', e, _, h⟩
  ·subst h; intro k hk; simp at hk
  ·cases e; exact h
 have hN := fl2_len ps
 have HP := hid hp
 clear hp h
 have hB3 : Below w.heap.size w (((w.alloc (.cells #[.int .i64 kd, .slice (some ⟨b, off, none⟩) ps.length cap] 48)).alloc (.cells #[.int .i64 0, .slice none 0 0] 48)).alloc (.cells #[] 91)) := balloc (balloc (balloc (Below.refl _ _) _) _) _
 have hown := own_new (w := (w.alloc (.cells #[.int .i64 kd, .slice (some ⟨b, off, none⟩) ps.length cap] 48)).alloc (.cells #[.int .i64 0, .slice none 0 0] 48)) (B := w.heap.size + 2) (by simp)
 have gA := old_alloc (o' := .cells #[] 91) (old_alloc (o' := .cells #[.int .i64 0, .slice none 0 0] 48) (new_alloc w w.heap.size (.cells #[.int .i64 kd, .slice (some ⟨b, off, none⟩) ps.length cap] 48) rfl))
 have gB := old_alloc (o' := .cells #[] 91) (new_alloc (w.alloc (.cells #[.int .i64 kd, .slice (some ⟨b, off, none⟩) ps.length cap] 48)) (w.heap.size + 1) (.cells #[.int .i64 0, .slice none 0 0] 48) (by simp))
 have hsz3 : (((w.alloc (.cells #[.int .i64 kd, .slice (some ⟨b, off, none⟩) ps.length cap] 48)).alloc (.cells #[.int .i64 0, .slice none 0 0] 48)).alloc (.cells #[] 91)).heap.size = w.heap.size + 3 := by simp
 have hsz2 : ((w.alloc (.cells #[.int .i64 kd, .slice (some ⟨b, off, none⟩) ps.length cap] 48)).alloc (.cells #[.int .i64 0, .slice none 0 0] 48)).heap.size = w.heap.size + 2 := by simp
 rw [hsz2] at hown
 have HNW := hid (fl2_news (HP.out.below hbs hB3))
 have HOW := hid hown
 have HGA := hid gA
 have HGB := hid gB
 have HB3 := hid hB3
 have HSZ := hid hsz3
 have HF1 := hid (fl2_one ps)
 clear hown gA gB hB3 hsz3 hsz2
 go_enter Tryz.func77, Tryz.ntmps77
 go_wp2_with (at_builtin; (refine wpList_append_any rfl (.tmp 3) (.tmp 5) 46 rfl (w.heap.size + 2) 91 i0 _ 2 16 Tryz.underlying46 hi0 hz0 hz1 hz2 rfl (by decide) (w.heap.size + 2) 0 0 0 [] (by rfl) HOW.out ⟨b, off, none⟩ ps.length cap (fl2 ps) (by rfl) hN HNW.out HF1.out (by unfold maxLen; omega) (by omega) (by rw [HSZ.out]; omega) ?_; intro gg cp w2 hown1 hgrow hat; have gA := grown_blk (p := w.heap.size + 2) hgrow HGA.out (by omega); have gB := grown_blk (p := w.heap.size + 2) hgrow HGB.out (by omega); obtain ⟨a0, a1, f0, f1⟩ := cell2r gA; obtain ⟨b0, b1, e0, e1⟩ := cell2r gB))
 have HO1 := hid (own_pts (ps := ps) (by simpa using hown1) (by omega))
 have HB4 := hid (bgrown (p := w.heap.size + 2) HB3.out hgrow (by omega))
 clear hown1 hgrow
 obtain ⟨h1, h2, h3⟩ := HO1.out
 have gF := set2r (set_far (q := w.heap.size) (k := 1) (u := .slice (some ⟨gg, 0, none⟩) ps.length cp) gB (by omega)) (.int .i64 kd) (.slice (some ⟨gg, 0, none⟩) ps.length cp)
 have bF := bset (bset (bset HB4.out (q := w.heap.size) (k := 1) (Nat.le_refl _) (.slice (some ⟨gg, 0, none⟩) ps.length cp)) (q := w.heap.size + 1) (k := 0) (by omega) (.int .i64 kd)) (q := w.heap.size + 1) (k := 1) (by omega) (.slice (some ⟨gg, 0, none⟩) ps.length cp)
 have oF : PtsOwn (((w2.setCell ⟨w.heap.size, 1, none⟩ (.slice (some ⟨gg, 0, none⟩) ps.length cp)).setCell ⟨w.heap.size + 1, 0, none⟩ (.int .i64 kd)).setCell ⟨w.heap.size + 1, 1, none⟩ (.slice (some ⟨gg, 0, none⟩) ps.length cp)) gg ps := by
  refine own_blk h3 ?_ (by simp; exact h3.1)
  rw [Below.heap_setCell _ _ _ _ (by dsimp only; omega), Below.heap_setCell _ _ _ _ (by dsimp only; omega), Below.heap_setCell _ _ _ _ (by dsimp only; omega)]
 generalize ((w2.setCell ⟨w.heap.size, 1, none⟩ (.slice (some ⟨gg, 0, none⟩) ps.length cp)).setCell ⟨w.heap.size + 1, 0, none⟩ (.int .i64 kd)).setCell ⟨w.heap.size + 1, 1, none⟩ (.slice (some ⟨gg, 0, none⟩) ps.length cp) = wf at *
 obtain ⟨z0, z1, _, _⟩ := cell2r gF
 exact bodyPost_ret (v := .agg #[.int .i64 kd, .slice (some ⟨gg, 0, none⟩) ps.length cp]) (by simp [results, Tryz.results77, go_sem, z0, z1]) rfl ⟨gg, cp, rfl, by omega, by omega, oF, bF⟩
theorem impl_copyG (kd : Int) (b off : Nat) (cap : Nat) (ps : List (Int × Int)) (w : World) (hm : ps.length ≤ 1099511627776) (h : Pts w (some ⟨b, off, none⟩) ps) (hbs : b < w.heap.size) : Calls Tryz.prog 91 #[.agg #[.int .i64 kd, .slice (some ⟨b, off, none⟩) ps.length cap]] w fun e w' => CP w kd ps e w' := by
 obtain ⟨i0, hi0, hz0, hz1, hz2⟩ := info_parts Tryz.infoPC
 have hp : PtsAt w b off ps := by
  rcases h with h | ⟨b', o', e, _, h⟩
  ·subst h; intro k hk; simp at hk
  ·cases e; exact h
 have hN := fl2_len ps
 have HP := hid hp
 have HF1 := hid (fl2_one ps)
 clear hp h
 go_enter Tryz.func91, Tryz.ntmps91
 go_upto_region 1 with fail
 have hB : Below w.heap.size w ((w.alloc (.cells #[.int .i64 kd, .slice (some ⟨b, off, none⟩) ps.length cap] 48)).alloc (.cells #[.int .i64 0, .slice none 0 0] 48)) := balloc (balloc (Below.refl _ _) _) _
 have gA := old_alloc (o' := .cells #[.int .i64 0, .slice none 0 0] 48) (new_alloc w w.heap.size (.cells #[.int .i64 kd, .slice (some ⟨b, off, none⟩) ps.length cap] 48) rfl)
 have gB := new_alloc (w.alloc (.cells #[.int .i64 kd, .slice (some ⟨b, off, none⟩) ps.length cap] 48)) (w.heap.size + 1) (.cells #[.int .i64 0, .slice none 0 0] 48) (by simp)
 have hsz : ((w.alloc (.cells #[.int .i64 kd, .slice (some ⟨b, off, none⟩) ps.length cap] 48)).alloc (.cells #[.int .i64 0, .slice none 0 0] 48)).heap.size = w.heap.size + 2 := by simp
 generalize ((w.alloc (.cells #[.int .i64 kd, .slice (some ⟨b, off, none⟩) ps.length cap] 48)).alloc (.cells #[.int .i64 0, .slice none 0 0] 48)) = W at *
 have HNW := hid (fl2_news (HP.out.below hbs (balloc hB (.cells #[] 91))))
 have HOW := hid (own_new (w := W) (B := w.heap.size + 2) (by omega))
 rw [hsz] at HOW
 have HGB := hid (old_alloc (o' := .cells #[] 91) gB)
 have hs3 : (W.alloc (.cells #[] 91)).heap.size = w.heap.size + 3 := by simp [hsz]
 have HB3 := hid (balloc hB (.cells #[] 91))
 obtain ⟨a0, a1, f0, f1⟩ := cell2r gA
 obtain ⟨b0, b1, e0, e1⟩ := cell2r gB
 clear gA gB hB
 go_region_held3 (fun w' => w'.cell? ⟨w.heap.size, 0, none⟩ = some (.int .i64 kd) ∧ w'.cell? ⟨w.heap.size, 1, none⟩ = some (.slice (some ⟨b, off, none⟩) ps.length cap)) ((go_split_ands; (repeat' apply And.intro) <;> (repeat (first | with_reducible assumption | with_reducible refine keepset3 ?_ (by dsimp only; omega) | with_reducible refine keepdrew ?_ | with_reducible refine keepalloc ?_ _ | (refine hgrow.cell ?_ (by simp; try omega))))))
  ((refine step_append_any (by rfl) _ _ _ (by rfl) (w.heap.size + 2) 91 i0 _ 2 16 Tryz.underlying46 hi0 hz0 hz1 hz2 rfl (by omega) (w.heap.size + 2) 0 0 0 [] (by rw [← hsz]; rfl) (HOW.out.drew) ⟨b, off, none⟩ ps.length cap (fl2 ps) (by rfl) hN HNW.out HF1.out (by unfold maxLen; omega) (by omega) (by show _ ≤ (W.alloc (.cells #[] 91)).heap.size; omega) ?_; intro gg cp w2 hown1 hgrow hat; have gB := grown_blk (p := w.heap.size + 2) hgrow HGB.out (by omega); obtain ⟨y0, y1, x0, x1⟩ := cell2r gB))
 have HO1 := hid (own_pts (ps := ps) (by simpa using hown1) (by omega))
 have HB4 := hid (bgrown (p := w.heap.size + 2) (bdrew HB3.out) hgrow (by omega))
 clear hown1 hgrow
 go_wp2_with fail
 obtain ⟨h1, h2, h3⟩ := HO1.out
 have gF := set2r gB (.int .i64 kd) (.slice (some ⟨gg, 0, none⟩) ps.length cp)
 have bF := bset (bset HB4.out (q := w.heap.size + 1) (k := 0) (by omega) (.int .i64 kd)) (q := w.heap.size + 1) (k := 1) (by omega) (.slice (some ⟨gg, 0, none⟩) ps.length cp)
 have oF : PtsOwn ((w2.setCell ⟨w.heap.size + 1, 0, none⟩ (.int .i64 kd)).setCell ⟨w.heap.size + 1, 1, none⟩ (.slice (some ⟨gg, 0, none⟩) ps.length cp)) gg ps := by
  refine own_blk h3 ?_ (by simp; exact h3.1)
  rw [Below.heap_setCell _ _ _ _ (by dsimp only; omega), Below.heap_setCell _ _ _ _ (by dsimp only; omega)]
 generalize (w2.setCell ⟨w.heap.size + 1, 0, none⟩ (.int .i64 kd)).setCell ⟨w.heap.size + 1, 1, none⟩ (.slice (some ⟨gg, 0, none⟩) ps.length cp) = wf at *
 obtain ⟨z0, z1, _, _⟩ := cell2r gF
 exact bodyPost_ret (v := .agg #[.int .i64 kd, .slice (some ⟨gg, 0, none⟩) ps.length cp]) (by simp [results, Tryz.results91, go_sem, z0, z1]) rfl ⟨gg, cp, rfl, by omega, by omega, oF, bF⟩
end Go.Proofs.YtenlhgnobfadgaaGreatDoor
