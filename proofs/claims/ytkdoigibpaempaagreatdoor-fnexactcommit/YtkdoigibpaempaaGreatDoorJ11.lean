/- Texts of stores, joined: Tb, Cc, Tc. -/
import Derived.Test.YtkdoigibpaempaaGreatDoorJ10
import Derived.Maps.Own
import Derived.Maps.OwnOps
import Derived.Maps.OwnSet
import Derived.Maps.Views
import Derived.DeepKeys4
import Derived.BigQuiet
set_option linter.unusedSimpArgs false
set_option linter.unusedVariables false
namespace Go.Proofs.YtkdoigibpaempaaGreatDoor
open Go.RowKit Go.Maps
theorem Tryz.laidK : laidOutB Tryz.prog = true := by kernel_rfl
theorem Tryz.keyTyK : Tryz.prog.keyType 200 = true := by kernel_rfl
theorem Tryz.cellsK : Tryz.prog.cellsOf 200 = 2 := by kernel_rfl
theorem Tryz.cells3K : Tryz.prog.cellsOf 3 = 1 := by kernel_rfl
theorem Tryz.undK : Tryz.prog.underlying 200 = some (.array 2 3) := by kernel_rfl
theorem Tryz.wideK : (match Tryz.prog.underlying 200 with | some (.array _ _) | some (.struct _) => true | _ => false) = true := by rw [Tryz.undK]
theorem Tryz.rowK : (200 : TypeId) < Tryz.prog.types.size := of_decide_eq_true (by kernel_rfl)
theorem Tryz.deepK : Tryz.prog.keyTypeAt 4 200 = true := by kernel_rfl
set_option maxRecDepth 100000 in
theorem Tryz.lawK : Keyed Tryz.prog 200 := Keyed.of_law (deep_law_laid (P := Tryz.prog) Tryz.laidK (m := 4) (Nat.le_of_ble_eq_true rfl) Tryz.rowK Tryz.deepK Tryz.wideK)
theorem Tryz.zeroK (w : World) : (zeroValue 3).run Tryz.prog w = .ok (.int .i64 0) w := by kernel_rfl
theorem pos_size {n k : Nat} (h : k < n) : ∃ d, n = d + 1 := ⟨n - 1, by omega⟩
def i64w (k : Int) : Prop := -9223372036854775808 ≤ k ∧ k ≤ 9223372036854775807
set_option maxRecDepth 100000 in
theorem key_is (a b : Int) (ha : i64w a) (hb : i64w b) : ∃ kl, keyOf Tryz.prog 200 (.agg #[.int .i64 a, .int .i64 b]) = some kl := by
  have hf : (Value.agg #[.int .i64 a, .int .i64 b]).formed Tryz.prog 200 = true := by simp [Value.formed, Tryz.undK, Tryz.cellsK]
  have wa : (Lit.int .i64 a).wf = true := WalkArith.wf_i64 ha
  have wb : (Lit.int .i64 b).wf = true := WalkArith.wf_i64 hb
  obtain ⟨d, hd⟩ := pos_size Tryz.rowK
  unfold keyOf
  rw [Tryz.undK]
  simp only []
  rw [Tryz.keyTyK, hf, hd]
  simp [Program.keyLits, Tryz.undK, Tryz.underlying3, Tryz.cellsK, Tryz.cells3K, Value.cells, List.range, List.range.loop, wa, wb]
noncomputable def kyL (a b : Int) : Lit := (keyOf Tryz.prog 200 (.agg #[.int .i64 a, .int .i64 b])).getD (.bool false)
theorem kyL_is {a b : Int} (ha : i64w a) (hb : i64w b) : keyOf Tryz.prog 200 (.agg #[.int .i64 a, .int .i64 b]) = some (kyL a b) := by
  obtain ⟨kl, h⟩ := key_is a b ha hb
  unfold kyL
  rw [h]; rfl
set_option maxRecDepth 100000 in
theorem kyL_ne {a b c d : Int} (ha : i64w a) (hb : i64w b) (hc : i64w c) (hd : i64w d) (h : ¬ (a = c ∧ b = d)) : kyL a b ≠ kyL c d := by
  intro e
  have h1 := kyL_is ha hb
  have h2 := kyL_is hc hd
  rw [← e] at h2
  have := Keyed.inj Tryz.lawK h1 h2
  simp at this
  exact h this
set_option maxRecDepth 100000 in
theorem kyL_key {a b : Int} (ha : i64w a) (hb : i64w b) : WideAt.IsKeyLit (kyL a b) := Keyed.key Tryz.lawK (kyL_is ha hb)
def MP (rs : List Rw) (i : Nat) (D : DataW Unit) : Prop :=
  IsMap D ∧ ∀ id, i64w id → (has D (kyL id 0) = true → ∃ (m : Nat) (hm : m < rs.length), rs[m].1 = id ∧ rs[m].2.2.1 = 0 ∧ D.atKey (kyL id 0) (.lit (.int .i64 0)) = .lit (.int .i64 m)) ∧ (has D (kyL id 0) = false → ∀ (m : Nat) (hm : m < rs.length), m < i → rs[m].1 = id → rs[m].2.2.1 ≠ 0)
theorem MP.start (rs : List Rw) : MP rs 0 (.map []) := ⟨isMap_empty, fun id _ => ⟨fun h => by simp [has] at h, fun _ m hm hh => by omega⟩⟩
set_option maxRecDepth 100000 in
theorem MP.next {rs : List Rw} {i : Nat} {D : DataW Unit} (h : MP rs i D) (hi : i < rs.length) (hw : i64w rs[i].1) (ht : i64w rs[i].2.2.1) : MP rs (i + 1) (D.put (kyL rs[i].1 rs[i].2.2.1) (.lit (.int .i64 i))) := by
  obtain ⟨h1, h2⟩ := h
  refine ⟨h1.put _ _, fun id hid => ?_⟩
  have z0 : i64w 0 := ⟨by omega, by omega⟩
  by_cases e : rs[i].1 = id ∧ rs[i].2.2.1 = 0
  · have ek : kyL rs[i].1 rs[i].2.2.1 = kyL id 0 := by rw [e.1, e.2]
    rw [ek]
    have hkk := kyL_key hid z0
    refine ⟨fun _ => ⟨i, hi, e.1, e.2, atKey_put_same h1 hkk _ _⟩, fun hf => ?_⟩
    rw [has_put_same h1 hkk] at hf
    cases hf
  · have hne : kyL id 0 ≠ kyL rs[i].1 rs[i].2.2.1 := kyL_ne hid z0 hw ht (fun q => e ⟨q.1.symm, q.2.symm⟩)
    rw [has_put_other hne, atKey_put_other hne]
    obtain ⟨a1, a2⟩ := h2 id hid
    refine ⟨a1, fun hf m hm hlt hq hz => ?_⟩
    by_cases em : m = i
    · subst em; exact e ⟨hq, hz⟩
    · exact a2 hf m hm (by omega) hq hz
theorem make_mapK (n : Nat) (w : World) : (Instr.makeMap 196 (some (.int .i64 n))).run Tryz.prog w = .ok (.map (some w.heap.size)) (w.alloc (.map #[] 0)) := by
  have hu := Tryz.underlying196
  simp [Instr.makeMap, hu, go_sem]
end Go.Proofs.YtkdoigibpaempaaGreatDoor
namespace Go.Proofs.YtkdoigibpaempaaGreatDoor
open Go.RowKit
theorem nodup_ids {xs : List Ch} : (xs.map (fun x => x.1)).Nodup ↔ ∀ i k (hi : i < xs.length) (hk : k < i), xs[k].1 ≠ xs[i].1 := by
  rw [List.Nodup, List.pairwise_iff_getElem]
  constructor
  · intro h i k hi hk
    have := h k i (by simpa using (by omega : k < xs.length)) (by simpa using hi) hk
    simpa using this
  · intro h i j hi hj hij
    have := h j i (by simpa using hj) hij
    simpa using this
theorem cgs_no {xs : List Ch} {i : Nat} (hi : i < xs.length) (h : cgb xs[i] = false) : cgs xs = false := by
  unfold cgs
  have : xs.all cgb = false := by
    rw [List.all_eq_false]
    exact ⟨xs[i], List.getElem_mem hi, by simp [h]⟩
  rw [this]; rfl
theorem cgs_two {xs : List Ch} {i k : Nat} (hi : i < xs.length) (hk : k < i) (h : xs[k].1 = xs[i].1) : cgs xs = false := by
  unfold cgs
  have : ¬ (xs.map (fun x => x.1)).Nodup := fun q => nodup_ids.1 q i k hi hk h
  simp [this]
theorem cgs_yes {xs : List Ch} (h1 : ∀ i (hi : i < xs.length), cgb xs[i] = true) (h2 : ∀ i k (hi : i < xs.length) (hk : k < i), xs[k].1 ≠ xs[i].1) : cgs xs = true := by
  unfold cgs
  have a1 : xs.all cgb = true := by
    rw [List.all_eq_true]
    intro x hx
    obtain ⟨k, hk, rfl⟩ := List.getElem_of_mem hx
    exact h1 k hk
  have a2 : (xs.map (fun x => x.1)).Nodup := nodup_ids.2 h2
  simp [a1, a2]
set_option maxRecDepth 100000 in
set_option maxHeartbeats 4000000 in
theorem spec_cgs {N : Nat → Prop} (a : Option Addr) (cap : Nat) (cs : List Ch) (w : World) (hm : cs.length ≤ 1099511627776) (h : Chs N 1099511627776 w a cs) : Calls Tryz.prog 35 #[.slice a cs.length cap] w fun e w' => e = .returned (.bool (cgs cs)) ∧ Below w.heap.size w w' := by
  have HR := hid h
  have HNO := hid (fun i (hi : i < cs.length) h => @cgs_no cs i hi h)
  have HTW := hid (fun i k (hi : i < cs.length) (hk : k < i) h => @cgs_two cs i k hi hk h)
  have HY := hid (@cgs_yes cs)
  clear h
  generalize cgs cs = sk at *
  go_enter Tryz.func35, Tryz.ntmps35
  go_wp2_with fail
  go_loopw [3] (fun ti wr => ∃ i : Nat, ti = .int .i64 i ∧ i ≤ cs.length ∧ Hid (∀ k (hk : k < cs.length), k < i → cgb cs[k] = true) ∧ Hid (∀ j k (hj : j < cs.length) (hk : k < j), j < i → cs[k].1 ≠ cs[j].1) ∧ Hid (Below w.heap.size w wr)) (fun ti _ => cs.length - (intOf ti).toNat)
  case atStart => exact ⟨0, rfl, Nat.zero_le _, hid (fun k hk q => absurd q (by omega)), hid (fun j k hj hk q => absurd q (by omega)), hid (Below.refl _ _)⟩
  case round =>
    obtain ⟨i, rfl, hi, HA, HD, HB⟩ := hrel
    by_cases hlt : i < cs.length
    · have c1 : (i : Int) < (cs.length : Int) := by omega
      obtain ⟨bb, o, rfl, hbs, a', cap', k0, k1, k2, k3, k4, k5, k6, _⟩ := HR.out.at i hlt
      have HK0 := hid (fun (W : World) (hb : Below w.heap.size w W) => keepcell hb k0)
      replace k0 := keepcell HB.out k0
      replace k1 := keepcell HB.out k1
      replace k2 := keepcell HB.out k2
      replace k3 := keepcell HB.out k3
      have HE := hid (show cgb cs[i] = (idb cs[i].1 && (if cs[i].2.1 = true then zsh cs[i].2.2.1 cs[i].2.2.2.length else shok cs[i].2.2.1 cs[i].2.2.2)) from rfl)
      have HS := hid (fun (W : World) (hb : Below w.heap.size w W) => spec_ShapeOk cs[i].2.2.1 a' cap' cs[i].2.2.2 W k5 k4 (k6.below hb))
      have HNi := hid (HNO.out i hlt)
      have HAi : Hid (cgb cs[i] = true → ∀ k (hk : k < cs.length), k < i + 1 → cgb cs[k] = true) := hid (fun q k hk hki => by
        by_cases e : k = i
        · subst e; exact q
        · exact HA.out k hk (by omega))
      unfold shv at HS
      clear k4 k5 k6
      obtain ⟨x, hx⟩ : ∃ x, x = cs[i].1 := ⟨_, rfl⟩
      rw [← hx] at HE k0 HK0
      have HX := hid hx
      clear hx
      generalize cgb cs[i] = cb at *
      generalize cs[i].2.1 = gn at *
      generalize cs[i].2.2.1 = kd at *
      generalize cs[i].2.2.2 = ps at *
      generalize shok kd ps = so at *
      generalize ps.length = np at *
      go_upto_region 4 with fail
      go_cut [60] (fun t60 wx => t60 = .bool (!cb) ∧ Below w.heap.size w wx)
      case first =>
        clear HNi HAi
        cases hib : idb x
        · have hq : cb = false := by rw [HE.out, hib]; rfl
          subst hq
          have HI := hid (fun W => spec_id x W)
          rw [hib] at HI
          clear hib
          go_wp2_with fail
          refine (HI.out _).mono ?_
          rintro e z ⟨rfl, hz⟩
          replace hz := hz.symm
          subst hz
          go_wp2_with fail
          go_meet
          exact ⟨rfl, HB.out⟩
        · have HI := hid (fun W => spec_id x W)
          rw [hib] at HI
          have hE2 : cb = (if gn = true then zsh kd np else so) := by rw [HE.out, hib]; rfl
          clear HE hib
          cases gn
          · have hq : cb = so := by rw [hE2]; rfl
            clear hE2
            subst hq
            go_wp2_with fail
            refine (HI.out _).mono ?_
            rintro e z ⟨rfl, hz⟩
            replace hz := hz.symm
            subst hz
            go_wp2_with fail
            refine (HS.out _ HB.out).mono ?_
            rintro e z ⟨rfl, hz⟩
            have hB2 := btrans HB.out hz
            replace k0 := keepcell hz k0
            replace k1 := keepcell hz k1
            replace k2 := keepcell hz k2
            replace k3 := keepcell hz k3
            clear hz
            cases cb
            · go_wp2_with fail
              go_meet
              exact ⟨rfl, hB2⟩
            · go_wp2_with fail
              go_meet
              exact ⟨rfl, hB2⟩
          · have hq : cb = zsh kd np := by rw [hE2]; rfl
            clear hE2 HS
            by_cases h0 : kd = 0
            · subst h0
              by_cases h1 : np = 0
              · subst h1
                have hq2 : cb = true := by rw [hq]; rfl
                clear hq
                subst hq2
                go_wp2_with fail
                refine (HI.out _).mono ?_
                rintro e z ⟨rfl, hz⟩
                replace hz := hz.symm
                subst hz
                go_wp2_with fail
                go_meet
                exact ⟨rfl, HB.out⟩
              · have h2 : (0 : Int) < (np : Int) := by omega
                have hq2 : cb = false := by rw [hq]; unfold zsh; simp [h1]
                clear hq
                subst hq2
                go_wp2_with fail
                refine (HI.out _).mono ?_
                rintro e z ⟨rfl, hz⟩
                replace hz := hz.symm
                subst hz
                go_wp2_with fail
                go_meet
                exact ⟨by simp; omega, HB.out⟩
            · have hq2 : cb = false := by rw [hq]; unfold zsh; simp [h0]
              clear hq
              subst hq2
              go_wp2_with fail
              refine (HI.out _).mono ?_
              rintro e z ⟨rfl, hz⟩
              replace hz := hz.symm
              subst hz
              go_wp2_with fail
              go_meet
              exact ⟨rfl, HB.out⟩
      case rest =>
        obtain ⟨rfl, hBc⟩ := hcut
        clear k0 k1 k2 k3 HE HS
        cases cb
        · have hq := HNi.out rfl
          subst hq
          go_wp2_with fail
          go_ret
          exact ⟨rfl, hBc⟩
        · have HA2 := hid (HAi.out rfl)
          have HB2 := hid hBc
          clear hBc HNi HAi HA HB
          go_wp2_with fail
          go_loopw [4] (fun tk wr => ∃ k : Nat, tk = .int .i64 k ∧ k ≤ i ∧ Hid (∀ j (hj : j < cs.length), j < k → cs[j].1 ≠ x) ∧ Hid (Below w.heap.size w wr)) (fun tk _ => i - (intOf tk).toNat)
          case atStart => exact ⟨0, rfl, Nat.zero_le _, hid (fun j hj q => absurd q (by omega)), HB2⟩
          case round =>
            clear HB2
            obtain ⟨k, rfl, hk, HN2, HB2⟩ := hrel
            by_cases hki : k < i
            · have c2 : (k : Int) < (i : Int) := by omega
              obtain ⟨bb', o', e', _, _, _, q0, _⟩ := HR.out.at k (by omega)
              cases e'
              replace q0 := keepcell HB2.out q0
              have k0 := HK0.out _ HB2.out
              have HT := hid (fun (e : cs[k].1 = x) => HTW.out i k hlt hki (by rw [← HX.out]; exact e))
              have HN3 : Hid (¬ cs[k].1 = x → ∀ j (hj : j < cs.length), j < k + 1 → cs[j].1 ≠ x) := hid (fun q j hj hjk => by
                by_cases e : j = k
                · subst e; exact q
                · exact HN2.out j hj (by omega))
              have c3 : (k : Int) < (cs.length : Int) := by omega
              generalize cs[k].1 = y at *
              have HBd := hid (fun q => Go.RowKit.Below.trans HB2.out (show Below w.heap.size wr (wr.drewN q) from ⟨rfl, rfl, rfl, Nat.le_refl _, fun _ _ => rfl⟩))
              by_cases he : y = x
              · have hq := HT.out he
                subst hq
                subst he
                go_wp2_with fail
                go_quiet (fail)
                go_wp2_with fail
                go_ret
                exact ⟨rfl, HBd.out _⟩
              · have HN4 := hid (HN3.out he)
                go_wp2_with fail
                go_quiet (fail)
                go_wp2_with fail
                go_roundw
                case rel => exact ⟨k + 1, by go_num, by omega, HN4, hid (HBd.out _)⟩
                case measure => simp [intOf]; omega
            · have c2 : (i : Int) ≤ (k : Int) := by omega
              have HD2 : Hid (∀ j k (hj : j < cs.length) (hk : k < j), j < i + 1 → cs[k].1 ≠ cs[j].1) := hid (fun j k' hj hk' q => by
                by_cases e : j = i
                · subst e
                  rw [← HX.out]
                  exact HN2.out k' (by omega) (by omega)
                · exact HD.out j k' hj hk' (by omega))
              go_wp2_with fail
              go_roundw
              case rel => exact ⟨i + 1, by go_num, by omega, HA2, HD2, HB2⟩
              case measure => simp [intOf]; omega
    · have c1 : (cs.length : Int) ≤ (i : Int) := by omega
      have hq := HY.out (fun k hk => HA.out k hk (by omega)) (fun j k hj hk => HD.out j k hj hk (by omega))
      subst hq
      go_wp2_with fail
      go_ret
      exact ⟨rfl, HB.out⟩
end Go.Proofs.YtkdoigibpaempaaGreatDoor
namespace Go.Proofs.YtkdoigibpaempaaGreatDoor
open Go.RowKit Go.Maps
theorem bdrewN2 {w a : World} (h : Below w.heap.size w a) {n : Nat} : Below w.heap.size w (a.drewN n) := ⟨h.1, h.2, h.3, h.4, h.5⟩
def IdW (rs : List Rw) : Prop := ∀ m (h : m < rs.length), i64w rs[m].1 ∧ i64w rs[m].2.2.1
def PB (w : World) (rs : List Rw) (e : Ending) (w' : World) : Prop :=
  ∃ (B n : Nat) (D : DataW Unit), e = .returned (.map (some B)) ∧ w.heap.size ≤ B ∧ w'.ownsMap Tryz.prog 200 (plainElem Tryz.prog 3) B n D ∧ MP rs rs.length D ∧ Below w.heap.size w w'
set_option maxRecDepth 100000 in
set_option maxHeartbeats 2000000 in
theorem places_c {N : Nat → Prop} (a : Option Addr) (cap : Nat) (rs : List Rw) (w : World) (hm : rs.length ≤ 1099511627776) (hk : IdW rs) (h : Rws N w a rs) : Calls Tryz.prog 124 #[.slice a rs.length cap] w fun e w' => PB w rs e w' := by
  have HR := hid h
  have HK := hid hk
  have HEND : Hid (∀ (W : World) (D : DataW Unit), W.ownsMap Tryz.prog 200 (plainElem Tryz.prog 3) w.heap.size rs.length D → MP rs rs.length D → Below w.heap.size w W → PB w rs (.returned (.map (some w.heap.size))) W) := hid (fun W D h1 h2 h3 => ⟨_, _, D, rfl, Nat.le_refl _, h1, h2, h3⟩)
  obtain ⟨n, hn⟩ : ∃ n, n = rs.length := ⟨_, rfl⟩
  have HN := hid hn.symm
  rw [← hn] at hm HEND ⊢
  clear hn h hk
  have hmm := make_mapK n
  go_enter Tryz.func124, Tryz.ntmps124
  go_wp2_with fail
  clear hmm
  go_loopw [11] (fun ti wr => ∃ i : Nat, ti = .int .i64 i ∧ i ≤ n ∧ Hid (Below w.heap.size w wr) ∧ Hid (∃ D : DataW Unit, wr.ownsMap Tryz.prog 200 (plainElem Tryz.prog 3) w.heap.size i D ∧ MP rs i D)) (fun ti _ => n - (intOf ti).toNat)
  case atStart => exact ⟨0, rfl, Nat.zero_le _, hid ((Below.refl _ _).alloc (Nat.le_refl _) _), hid ⟨_, World.ownsMap_made _ _ _ _, MP.start rs⟩⟩
  case round =>
    obtain ⟨i, rfl, hi, HBW, HO⟩ := hrel
    by_cases hlt : i < n
    · have d1 : (i : Int) < (n : Int) := by omega
      have d0 : (0 : Int) ≤ (i : Int) := by omega
      have hir : i < rs.length := by rw [HN.out]; exact hlt
      obtain ⟨D, hown, hmp⟩ := HO.out
      obtain ⟨w1, w2⟩ := HK.out i hir
      have hkey := kyL_is w1 w2
      have HMP := hid (hmp.next hir w1 w2)
      obtain ⟨b, o, rfl, hbs, a', cap', k0, k1, k2, k3, k4, _⟩ := (HR.out.at i hir)
      replace k0 := keepcell HBW.out k0
      replace k1 := keepcell HBW.out k1
      replace k2 := keepcell HBW.out k2
      replace k3 := keepcell HBW.out k3
      replace k4 := keepcell HBW.out k4
      clear HO hmp w1 w2
      generalize rs[i].2.2.2.2.length = v4 at *
      generalize rs[i].2.2.2.1 = v3 at *
      generalize rs[i].2.2.1 = v2 at *
      generalize rs[i].2.1 = v1 at *
      generalize rs[i].1 = v0 at *
      have HOW := hid hown
      have HKEY := hid hkey
      clear hown hkey
      have hBx : Below wr.heap.size wr (wr.alloc (.cells #[.int .i64 v0, .int .i64 v1, .int .i64 v2, .int .i64 v3, .slice a' v4 cap'] 78)) := balloc (Below.refl _ _) _
      have gx := new_alloc wr wr.heap.size (.cells #[.int .i64 v0, .int .i64 v1, .int .i64 v2, .int .i64 v3, .slice a' v4 cap'] 78) rfl
      go_upto_region 5 with fail
      have HB1 := hid (btrans HBW.out hBx)
      have HO1 := hid (HOW.out.alloc (.cells #[.int .i64 v0, .int .i64 v1, .int .i64 v2, .int .i64 v3, .slice a' v4 cap'] 78))
      clear k0 k1 k2 k3 k4 hBx HOW
      generalize wr.alloc (.cells #[.int .i64 v0, .int .i64 v1, .int .i64 v2, .int .i64 v3, .slice a' v4 cap'] 78) = W1 at *
      obtain ⟨X, hX⟩ : ∃ X, X = wr.heap.size := ⟨_, rfl⟩
      rw [← hX] at gx ⊢
      clear hX
      obtain ⟨⟨x0, x1, x2, x3, x4⟩, _⟩ := cell5g gx
      go_wp2_with (first
        | (at_mapUpdate; refine wpList_mapUpdate_own _ rfl _ _ _ 196 rfl 200 3 Tryz.lawK Tryz.underlying196 (plainElem Tryz.prog 3) w.heap.size i D rfl HO1.out (by unfold maxLen; omega) _ _ _ rfl rfl HKEY.out (.lit (.int .i64 i)) [] (plainElem_int Tryz.underlying3 (WalkArith.wf_i64 (by omega))) ?_)
        | go_in)
      intro y hown1 hgrow1
      have R2 := hid (HB1.out.grown hgrow1 HB1.out.size (fun j hj => by cases hj; exact Nat.le_refl _))
      have R1 : Hid (∃ D : DataW Unit, y.ownsMap Tryz.prog 200 (plainElem Tryz.prog 3) w.heap.size (i + 1) D ∧ MP rs (i + 1) D) := hid ⟨_, hown1, HMP.out⟩
      clear hown1 hgrow1 HO1
      go_wp2_with fail
      go_roundw
      case rel => exact ⟨i + 1, by go_num, by omega, R2, R1⟩
      case measure => simp [intOf]; omega
    · have hin : i = n := by omega
      have HF : Hid (PB w rs (.returned (.map (some w.heap.size))) wr) := hid (by
        obtain ⟨D, h1, h2⟩ := HO.out
        subst hin
        exact HEND.out _ D h1 h2 HBW.out)
      clear hin HO
      go_wp2_with fail
      go_ret
      exact HF.out
set_option maxHeartbeats 2000000 in
theorem begun_c {N : Nat → Prop} (a : Option Addr) (cap : Nat) (cs : List Ch) (w : World) (hm : cs.length ≤ 1099511627776) (h : Chs N 1099511627776 w a cs) : Calls Tryz.prog 118 #[.slice a cs.length cap] w fun e w' => e = .returned (.int .i64 (bgn cs)) ∧ Below w.heap.size w w' := by
  have HR := hid h
  have HBG : Hid (∀ i (h : i < cs.length), bgn (cs.take (i + 1)) = bgn (cs.take i) + (if cs[i].2.1 = true then 0 else 1)) := hid (fun i h => bgn_next cs h)
  have HALL : Hid (bgn (cs.take cs.length) = bgn cs) := hid (by rw [List.take_length])
  have HLE : Hid (∀ i, bgn (cs.take i) ≤ cs.length) := hid (fun i => Nat.le_trans (bgn_le _) (by simp; omega))
  generalize bgn cs = bz at *
  obtain ⟨n, hn⟩ : ∃ n, n = cs.length := ⟨_, rfl⟩
  have HN := hid hn.symm
  rw [← hn] at hm HALL HLE ⊢
  clear hn h
  go_enter Tryz.func118, Tryz.ntmps118
  go_wp2_with fail
  go_loopw [3, 8] (fun tn ti wr => ∃ i k : Nat, ti = .int .i64 i ∧ tn = .int .i64 k ∧ i ≤ n ∧ k ≤ n ∧ Hid (k = bgn (cs.take i)) ∧ Hid (Below w.heap.size w wr)) (fun _ ti _ => n - (intOf ti).toNat)
  case atStart => exact ⟨0, 0, rfl, rfl, Nat.zero_le _, Nat.zero_le _, hid rfl, hid (Below.refl _ _)⟩
  case round =>
    obtain ⟨i, k, rfl, rfl, hi, hk, HKB, HBW⟩ := hrel
    by_cases hlt : i < n
    · have d1 : (i : Int) < (n : Int) := by omega
      have d0 : (0 : Int) ≤ (i : Int) := by omega
      have hir : i < cs.length := by rw [HN.out]; exact hlt
      obtain ⟨b, o, rfl, hbs, a', cap', k0, k1, k2, k3, _⟩ := (HR.out.at i hir)
      replace k0 := keepcell HBW.out k0
      replace k1 := keepcell HBW.out k1
      replace k2 := keepcell HBW.out k2
      replace k3 := keepcell HBW.out k3
      have HNX := hid (HBG.out i hir)
      have HL1 := hid (HLE.out (i + 1))
      generalize cs[i].2.2.2.length = v3 at *
      generalize cs[i].2.2.1 = v2 at *
      generalize cs[i].2.1 = v1 at *
      generalize cs[i].1 = v0 at *
      cases v1
      · have hk1 : k + 1 ≤ n := by have h1 := HNX.out; have h2 := HL1.out; have h3 := HKB.out; simp at h1; omega
        have HK1 : Hid (k + 1 = bgn (cs.take (i + 1))) := hid (by rw [HNX.out, ← HKB.out]; rfl)
        go_wp2_with fail
        go_roundw
        case rel => exact ⟨i + 1, k + 1, by go_num, by go_num, by omega, hk1, HK1, hid (balloc HBW.out _)⟩
        case measure => simp [intOf]; omega
      · have HK1 : Hid (k = bgn (cs.take (i + 1))) := hid (by rw [HNX.out, ← HKB.out]; rfl)
        go_wp2_with fail
        go_roundw
        case rel => exact ⟨i + 1, k, by go_num, rfl, by omega, hk, HK1, hid (balloc HBW.out _)⟩
        case measure => simp [intOf]; omega
    · have hin : i = n := by omega
      have HF : Hid (k = bz) := hid (by rw [HKB.out, hin, HALL.out])
      clear hin
      go_wp2_with fail
      go_ret
      exact ⟨by rw [HF.out]; rfl, HBW.out⟩
set_option maxHeartbeats 2000000 in
theorem takes_c {N : Nat → Prop} (now : Int) (ra : Option Addr) (rn rcap : Nat) (a : Option Addr) (cap : Nat) (cs : List Ch) (w : World) (hrn : rn ≤ 1099511627776) (hm : cs.length ≤ 1099511627776) (h : Chs N 1099511627776 w a cs) : Calls Tryz.prog 100 #[.agg #[.int .i64 now, .slice ra rn rcap], .slice a cs.length cap] w fun e w' => e = .returned (.bool (decide (now ≤ 1000000000) && decide (rn + bgn cs ≤ 300))) ∧ Below w.heap.size w w' := by
  have hB : Below w.heap.size w (w.alloc (.cells #[.int .i64 now, .slice ra rn rcap] 31)) := balloc (Below.refl _ _) _
  have g0 := new_alloc w w.heap.size (.cells #[.int .i64 now, .slice ra rn rcap] 31) rfl
  have HBG := hid (fun (W : World) (hb : Below w.heap.size w W) => begun_c a cap cs W hm (h.below hb))
  have hle : bgn cs ≤ 1099511627776 := Nat.le_trans (bgn_le cs) hm
  generalize bgn cs = bz at *
  obtain ⟨n, hn⟩ : ∃ n, n = cs.length := ⟨_, rfl⟩
  rw [← hn] at HBG ⊢
  clear hn h hm
  go_enter Tryz.func100, Tryz.ntmps100
  go_upto_region 1 with fail
  have HB := hid hB
  clear hB
  generalize w.alloc (.cells #[.int .i64 now, .slice ra rn rcap] 31) = W at *
  obtain ⟨X, hX⟩ : ∃ X, X = w.heap.size := ⟨_, rfl⟩
  rw [← hX] at g0 ⊢
  clear hX
  obtain ⟨x0, x1⟩ := cell2 g0
  clear g0
  have hw1 : IntKind.i64.wrap ((rn : Int) + (bz : Int)) = (rn : Int) + (bz : Int) := by rw [IntKind.wrap_i64]; omega
  by_cases hnow : now ≤ 1000000000
  · have hd : decide (now ≤ 1000000000) = true := by simpa using hnow
    go_region_held3 (fun w' => w'.cell? ⟨X, 0, none⟩ = some (.int .i64 now) ∧ w'.cell? ⟨X, 1, none⟩ = some (.slice ra rn rcap)) ((go_split_ands; (repeat' apply And.intro) <;> (with_reducible repeat (first | assumption | refine keepcell (by assumption) ?_ | refine keepdrew ?_ | refine keepalloc ?_ _))))
      (first
        | (go_at_call 118; refine (HBG.out _ (bdrew HB.out)).mono ?_; rintro e w1 ⟨rfl, hb1⟩))
    go_wp2_with fail
    go_ret
    exact ⟨by congr 2; by_cases hq : rn + bz ≤ 300 <;> simp [hq, hnow] <;> omega, by have hBB := HB.out; (with_reducible repeat (first | exact Below.refl _ _ | assumption | (refine btrans ?_ (by assumption)) | refine bdrew ?_ | refine balloc ?_ _))⟩
  · have hd : decide (now ≤ 1000000000) = false := by simpa using hnow
    go_quiet (fail)
    go_wp2_with fail
    go_ret
    exact ⟨by simp [hnow], by have hBB := HB.out; (with_reducible repeat (first | exact Below.refl _ _ | assumption | (refine btrans ?_ (by assumption)) | refine bdrew ?_ | refine bdrewN2 ?_ | refine balloc ?_ _))⟩
end Go.Proofs.YtkdoigibpaempaaGreatDoor
