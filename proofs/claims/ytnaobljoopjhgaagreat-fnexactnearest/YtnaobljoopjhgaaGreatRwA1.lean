/- The row that is found at a moment. -/
import Derived.Test.YtnaobljoopjhgaaGreatRwA0
import Derived.Test.YtnaobljoopjhgaaGreatRwB
namespace Go.Proofs.YtnaobljoopjhgaaGreat
open Go.RowKit
set_option linter.unusedSimpArgs false
set_option linter.unusedVariables false
theorem keepheapA {w w' : World} (hb : Below w.heap.size w w') {b : Nat} {o : Obj} (h : w.heap[b]? = some o) : w'.heap[b]? = some o := by
  rw [hb.block b (lt_of_block h)]; exact h
def atb (id t : Int) (r : Rw) : Bool := decide (r.1 = id) && thr (tr r) t
def rat (rs : List Rw) (id t : Int) : Option Rw := rs.find? (atb id t)
def raK (o : Option Rw) : Int := match o with
  | some r => r.2.2.2.1
  | none => 0
def raP (o : Option Rw) : List (Int × Int) := match o with
  | some r => r.2.2.2.2
  | none => []
theorem rat_some {rs : List Rw} {id t : Int} {i : Nat} (h : i < rs.length) (hb : ∀ m (h : m < rs.length), m < i → atb id t rs[m] = false) (hi : atb id t rs[i] = true) : rat rs id t = some rs[i] := by
  unfold rat
  rw [List.find?_eq_some_iff_getElem]
  exact ⟨hi, i, h, rfl, fun j hj => by simp [hb j (by omega) hj]⟩
theorem rat_none {rs : List Rw} {id t : Int} (hb : ∀ m (h : m < rs.length), atb id t rs[m] = false) : rat rs id t = none := by
  unfold rat
  rw [List.find?_eq_none]
  intro x hx
  obtain ⟨m, hm, rfl⟩ := List.mem_iff_getElem.1 hx
  rw [hb m hm]; simp
/-- What RowAt tells, in memory of its own. -/
def RA (w : World) (rk : Int) (rp : List (Int × Int)) (rb : Bool) (e : Ending) (w' : World) : Prop :=
  ∃ a' cap', e = .returned (.tuple #[.agg #[.int .i64 rk, .slice a' rp.length cap'], .bool rb]) ∧ rp.length ≤ cap' ∧ ((a' = none ∧ rp = []) ∨ ∃ b, a' = some ⟨b, 0, none⟩ ∧ PtsOwn w' b rp) ∧ (∀ b off, a' = some ⟨b, off, none⟩ → w.heap.size ≤ b) ∧ Below w.heap.size w w'
theorem ra_no {w w' : World} {rk : Int} {rp : List (Int × Int)} {rb : Bool} (h1 : rk = 0) (h2 : rp = []) (h3 : rb = false) (hb : Below w.heap.size w w') : RA w rk rp rb (.returned (.tuple #[.agg #[.int .i64 0, .slice none 0 0], .bool false])) w' := by
  subst h1; subst h2; subst h3
  exact ⟨none, 0, rfl, Nat.le_refl _, .inl ⟨rfl, rfl⟩, fun _ _ e => (by cases e), hb⟩
theorem ra_yes {w w' : World} {rk kd : Int} {rp ps : List (Int × Int)} {rb : Bool} {g cap : Nat} (h1 : rk = kd) (h2 : rp = ps) (h3 : rb = true) (hc : ps.length ≤ cap) (hg : w.heap.size ≤ g) (ho : PtsOwn w' g ps) (hb : Below w.heap.size w w') : RA w rk rp rb (.returned (.tuple #[.agg #[.int .i64 kd, .slice (some ⟨g, 0, none⟩) ps.length cap], .bool true])) w' := by
  subst h1; subst h2; subst h3
  exact ⟨_, cap, rfl, hc, .inr ⟨g, rfl, ho⟩, fun _ _ e => (by cases e; exact hg), hb⟩
set_option maxRecDepth 100000 in
set_option maxHeartbeats 4000000 in
theorem spec_row {N : Nat → Prop} (now : Int) (a : Option Addr) (cap : Nat) (rs : List Rw) (id t : Int) (w : World) (hm : rs.length ≤ 1099511627776) (h : Rws N w a rs) (hpos : ∀ m (h : m < rs.length), 0 < rs[m].2.2.2.2.length) : Calls Tryz.prog 18 #[.agg #[.int .i64 now, .slice a rs.length cap], .int .i64 id, .int .i64 t] w fun e w' => RA w (raK (rat rs id t)) (raP (rat rs id t)) (rat rs id t).isSome e w' := by
  have HR := hid h
  have HPOS := hid hpos
  clear h hpos
  obtain ⟨n, hn⟩ : ∃ n, n = rs.length := ⟨_, rfl⟩
  have HN := hid hn.symm
  rw [← hn] at hm ⊢
  clear hn
  have HY : Hid (∀ i (h : i < rs.length), (∀ m (h : m < rs.length), m < i → atb id t rs[m] = false) → atb id t rs[i] = true → raK (rat rs id t) = rs[i].2.2.2.1 ∧ raP (rat rs id t) = rs[i].2.2.2.2 ∧ (rat rs id t).isSome = true) := hid (fun i h hb hi => by rw [rat_some h hb hi]; exact ⟨rfl, rfl, rfl⟩)
  have HNO : Hid ((∀ m (h : m < rs.length), atb id t rs[m] = false) → raK (rat rs id t) = 0 ∧ raP (rat rs id t) = [] ∧ (rat rs id t).isSome = false) := hid (fun hb => by rw [rat_none hb]; exact ⟨rfl, rfl, rfl⟩)
  generalize raK (rat rs id t) = rk at *
  generalize raP (rat rs id t) = rp at *
  generalize (rat rs id t).isSome = rb at *
  go_enter Tryz.func18, Tryz.ntmps18
  go_upto_region 1 with fail
  have hBx : Below w.heap.size w ((w.alloc (.cells #[.int .i64 now, .slice a n cap] 32)).alloc (.cells #[.int .i64 0, .slice none 0 0] 47)) := balloc (balloc (Below.refl _ _) _) _
  have g0 := old_alloc (o' := .cells #[.int .i64 0, .slice none 0 0] 47) (new_alloc w w.heap.size (.cells #[.int .i64 now, .slice a n cap] 32) rfl)
  have g1 := new_alloc (w.alloc (.cells #[.int .i64 now, .slice a n cap] 32)) (w.heap.size + 1) (.cells #[.int .i64 0, .slice none 0 0] 47) (by simp)
  generalize (w.alloc (.cells #[.int .i64 now, .slice a n cap] 32)).alloc (.cells #[.int .i64 0, .slice none 0 0] 47) = W0 at *
  go_wp2_with fail
  go_loopw [8] (fun ti wr => ∃ i : Nat, ti = .int .i64 i ∧ i ≤ n ∧ Hid (∀ m (h : m < rs.length), m < i → atb id t rs[m] = false) ∧ Hid (wr.heap[w.heap.size]? = some (.cells #[.int .i64 now, .slice a n cap] 32 (0, 0))) ∧ Hid (wr.heap[w.heap.size + 1]? = some (.cells #[.int .i64 0, .slice none 0 0] 47 (0, 0))) ∧ Hid (Below w.heap.size w wr)) (fun ti _ => n - (intOf ti).toNat)
  case atStart => exact ⟨0, rfl, Nat.zero_le _, hid (fun m h hh => absurd hh (by omega)), hid g0, hid g1, hid hBx⟩
  case round =>
    clear g0 g1 hBx
    obtain ⟨i, rfl, hi, HA, G0, G1, HBW⟩ := hrel
    obtain ⟨d0, d1, _, _⟩ := cell2r G0.out
    obtain ⟨v0, v1, w0, w1⟩ := cell2r G1.out
    by_cases hlt : i < n
    · have c1 : (i : Int) < (n : Int) := by omega
      have hir : i < rs.length := by rw [HN.out]; exact hlt
      obtain ⟨b, o, rfl, hbs, a', cap', k0, k1, k2, k3, k4, k5, k6, k7, _⟩ := (HR.out.below HBW.out).at i hir
      have HT := hid (show atb id t rs[i] = (decide (rs[i].1 = id) && thr (tr rs[i]) t) from rfl)
      have ST := hid (fun w' => spec_there rs[i] a' cap' t w')
      have SC := hid (fun (w' : World) (hw : Pts w' a' rs[i].2.2.2.2) => spec_copy rs[i].2.2.2.1 a' cap' rs[i].2.2.2.2 w' (HPOS.out i hir) k6 hw)
      have HYES := hid (HY.out i hir HA.out)
      have HNEXT : Hid (atb id t rs[i] = false → ∀ m (h : m < rs.length), m < i + 1 → atb id t rs[m] = false) := hid (fun e1 m h hm => by
        by_cases e : m = i
        · subst e; exact e1
        · exact HA.out m h (by omega))
      have K7 := hid k7
      clear k5 k6 k7
      unfold rwv at ST
      generalize atb id t rs[i] = q at HT HYES HNEXT
      generalize thr (tr rs[i]) t = q2 at *
      generalize rs[i].1 = id2 at *
      generalize rs[i].2.1 = fr at *
      generalize rs[i].2.2.1 = te at *
      generalize rs[i].2.2.2.1 = kd at *
      generalize rs[i].2.2.2.2 = ps at *
      cases qi : (id2 == id)
      · have hq : q = false := by rw [HT.out, show decide (id2 = id) = false by simpa using qi]; rfl
        have HF := hid (HNEXT.out hq)
        clear hq
        go_wp2_with fail
        go_roundw
        case rel => exact ⟨i + 1, by go_num, by omega, HF, G0, G1, HBW⟩
        case measure => simp [intOf]; omega
      have he : decide (id2 = id) = true := by simpa using qi
      cases q2
      · have HF := hid (HNEXT.out (by rw [HT.out, he]; rfl))
        go_wp2_with fail
        refine (ST.out _).mono ?_
        rintro e z ⟨rfl, hz⟩
        have HG0 := hid (keepheapA hz G0.out)
        have HG1 := hid (keepheapA hz G1.out)
        have HBz := hid (btrans HBW.out hz)
        clear hz
        go_wp2_with fail
        go_roundw
        case rel => exact ⟨i + 1, by go_num, by omega, HF, HG0, HG1, HBz⟩
        case measure => simp [intOf]; omega
      · have HF := hid (HYES.out (by rw [HT.out, he]; rfl))
        go_wp2_with fail
        refine (ST.out _).mono ?_
        rintro e z ⟨rfl, hz⟩
        have g0 := keepheapA hz G0.out
        have HG1 := hid (keepheapA hz G1.out)
        have HBz := hid (btrans HBW.out hz)
        have HPz := hid (K7.out.below hz)
        replace k3 := keepcell hz k3
        replace k4 := keepcell hz k4
        clear hz d0 d1 v0 v1 w0 w1 k0 k1 k2
        obtain ⟨d0, d1, _, _⟩ := cell2r g0
        go_wp2_with fail
        refine (SC.out _ HPz.out).mono ?_
        rintro e y ⟨g, cp, rfl, hcp, hgs, ho, hy⟩
        have g1 := keepheapA hy HG1.out
        have HBy := hid (btrans HBz.out hy)
        obtain ⟨v0, v1, w0, w1⟩ := cell2r g1
        have hgw : w.heap.size + 1 < g := Nat.lt_of_lt_of_le (lt_of_block HG1.out) hgs
        have HO := hid ho
        clear ho hy g0 d0 d1 k3 k4
        go_wp2_with fail
        have gF := set2r g1 (.int .i64 kd) (.slice (some ⟨g, 0, none⟩) ps.length cp)
        have bF := bset (bset HBy.out (q := w.heap.size + 1) (k := 0) (by omega) (.int .i64 kd)) (q := w.heap.size + 1) (k := 1) (by omega) (.slice (some ⟨g, 0, none⟩) ps.length cp)
        have oF : PtsOwn ((y.setCell ⟨w.heap.size + 1, 0, none⟩ (.int .i64 kd)).setCell ⟨w.heap.size + 1, 1, none⟩ (.slice (some ⟨g, 0, none⟩) ps.length cp)) g ps := by
          refine own_blk HO.out ?_ (by simp; exact HO.out.1)
          rw [Below.heap_setCell _ _ _ _ (by dsimp only; omega), Below.heap_setCell _ _ _ _ (by dsimp only; omega)]
        generalize (y.setCell ⟨w.heap.size + 1, 0, none⟩ (.int .i64 kd)).setCell ⟨w.heap.size + 1, 1, none⟩ (.slice (some ⟨g, 0, none⟩) ps.length cp) = wf at *
        obtain ⟨z0, z1, _, _⟩ := cell2r gF
        exact bodyPost_ret (v := .tuple #[.agg #[.int .i64 kd, .slice (some ⟨g, 0, none⟩) ps.length cp], .bool true]) (by simp [results, Tryz.results18, go_sem, z0, z1]) rfl (ra_yes HF.out.1 HF.out.2.1 HF.out.2.2 hcp (by omega) oF bF)
    · have HF := hid (HNO.out (fun m hm1 => HA.out m hm1 (by rw [HN.out] at hm1; omega)))
      have c1 : (n : Int) ≤ (i : Int) := by omega
      go_wp2_with fail
      have gF := set2r G1.out (.int .i64 0) (.slice none 0 0)
      have bF := bset (bset HBW.out (q := w.heap.size + 1) (k := 0) (by omega) (.int .i64 0)) (q := w.heap.size + 1) (k := 1) (by omega) (.slice none 0 0)
      generalize (wr.setCell ⟨w.heap.size + 1, 0, none⟩ (.int .i64 0)).setCell ⟨w.heap.size + 1, 1, none⟩ (.slice none 0 0) = wf at *
      obtain ⟨z0, z1, _, _⟩ := cell2r gF
      exact bodyPost_ret (v := .tuple #[.agg #[.int .i64 0, .slice none 0 0], .bool false]) (by simp [results, Tryz.results18, go_sem, z0, z1]) rfl (ra_no HF.out.1 HF.out.2.1 HF.out.2.2 bF)
/-- What shapeAt tells, in memory of the rows. -/
def SA (w : World) (rk : Int) (rp : List (Int × Int)) (rb : Bool) (e : Ending) (w' : World) : Prop :=
  ∃ a' cap', e = .returned (.tuple #[.agg #[.int .i64 rk, .slice a' rp.length cap'], .bool rb]) ∧ ((rb = false ∧ a' = none ∧ cap' = 0 ∧ rp = []) ∨ (rb = true ∧ 0 < rp.length ∧ rp.length ≤ 1099511627776 ∧ Pts w' a' rp)) ∧ Below w.heap.size w w'
end Go.Proofs.YtnaobljoopjhgaaGreat
