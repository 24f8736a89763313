/- Texts of stores, joined: Sf, RwA1, Sk, Sw. -/
import Derived.Test.YtkdoigibpaempaaGreatDoorSe
import Derived.Test.YtkdoigibpaempaaGreatDoorJ8
import Derived.Test.YtkdoigibpaempaaGreatDoorJ7
import Derived.Test.YtkdoigibpaempaaGreatDoorJ14
set_option linter.unusedSimpArgs false
set_option linter.unusedVariables false
namespace Go.Proofs.YtkdoigibpaempaaGreatDoor
open Go.RowKit
def storeb (now : Int) (rs : List Rw) (ts : List Tx) : Bool := rowsb now rs && (decide (ts.length ≤ 40) && ts.all (txb now))
set_option maxRecDepth 100000 in
set_option maxHeartbeats 4000000 in
theorem impl_StoreOk {N1 N2 : Nat → Prop} (now : Int) (a ta : Option Addr) (cap tcap : Nat) (rs : List Rw) (ts : List Tx) (w : World) (hm : rs.length ≤ 1099511627776) (htm : ts.length ≤ 1099511627776) (hr : Rws N1 w a rs) (ht : Txs N2 1099511627776 w ta ts) : Calls Tryz.prog 64 #[.agg #[.int .i64 now, .slice a rs.length cap, .slice ta ts.length tcap]] w fun e w' => e = .returned (.bool (storeb now rs ts)) ∧ Below w.heap.size w w' := by
  have HRK := hid (fun (W : World) (hb : Below w.heap.size w W) => impl_RowsOk now a cap rs W hm (hr.below hb))
  have HR := hid ht
  clear hr ht
  have HD : Hid (storeb now rs ts = (rowsb now rs && (decide (ts.length ≤ 40) && ts.all (txb now)))) := hid rfl
  have HNO : Hid (∀ i (h : i < ts.length), txb now ts[i] = false → ts.all (txb now) = false) := hid (fun i h e => by rw [List.all_eq_false]; exact ⟨ts[i], List.getElem_mem h, by simp [e]⟩)
  have HYE : Hid ((∀ i (h : i < ts.length), txb now ts[i] = true) → ts.all (txb now) = true) := hid (fun hh => by
    rw [List.all_eq_true]
    intro x hx
    obtain ⟨m, hm1, rfl⟩ := List.mem_iff_getElem.1 hx
    exact hh m hm1)
  generalize storeb now rs ts = sb at *
  generalize rowsb now rs = rb at *
  generalize ts.all (txb now) = tb at *
  generalize rs.length = n at *
  obtain ⟨tn, htn⟩ : ∃ tn, tn = ts.length := ⟨_, rfl⟩
  have HN := hid htn.symm
  rw [← htn] at htm HD ⊢
  clear htn
  have hB0 : Below w.heap.size w (w.alloc (.cells #[.int .i64 now, .slice a n cap, .slice ta tn tcap] 34)) := balloc (Below.refl _ _) _
  have g0 := new_alloc w w.heap.size (.cells #[.int .i64 now, .slice a n cap, .slice ta tn tcap] 34) rfl
  go_enter Tryz.func64, Tryz.ntmps64
  go_upto_region 1 with fail
  generalize w.alloc (.cells #[.int .i64 now, .slice a n cap, .slice ta tn tcap] 34) = W0 at *
  obtain ⟨⟨d0, d1, d2⟩, _⟩ := cellk3 g0
  by_cases h4 : 40 < tn
  · have h4' : (40 : Int) < (tn : Int) := by omega
    have HF : Hid (sb = false) := hid (by rw [HD.out, show decide (tn ≤ 40) = false by simpa using h4]; simp)
    clear h4
    go_wp2_with fail
    go_ret
    exact ⟨by rw [HF.out]; rfl, hB0⟩
  have h4' : (tn : Int) ≤ 40 := by omega
  have HD2 : Hid (sb = (rb && tb)) := hid (by rw [HD.out, show decide (tn ≤ 40) = true by simpa using h4]; simp)
  clear h4 HD
  go_wp2_with fail
  refine (HRK.out _ hB0).mono ?_
  rintro e W1 ⟨rfl, hz⟩
  have g1 := keepheap2 hz g0
  have hB1 := btrans hB0 hz
  clear g0 hB0 hz d0 d1 d2 HRK
  obtain ⟨⟨d0, d1, d2⟩, _⟩ := cellk3 g1
  cases rb
  · have HF : Hid (sb = false) := hid (by rw [HD2.out]; rfl)
    go_wp2_with fail
    go_ret
    exact ⟨by rw [HF.out]; rfl, hB1⟩
  have HD3 : Hid (sb = tb) := hid (by rw [HD2.out]; rfl)
  clear HD2
  go_wp2_with fail
  clear d0 d1 d2
  go_loopw [18] (fun ti wr => ∃ i : Nat, ti = .int .i64 i ∧ i ≤ tn ∧ Hid (∀ m (h : m < ts.length), m < i → txb now ts[m] = true) ∧ Hid (wr.heap[w.heap.size]? = some (.cells #[.int .i64 now, .slice a n cap, .slice ta tn tcap] 34 (0, 0))) ∧ Hid (Below w.heap.size w wr)) (fun ti _ => tn - (intOf ti).toNat)
  case atStart => exact ⟨0, rfl, Nat.zero_le _, hid (fun m h hh => absurd hh (by omega)), hid g1, hid hB1⟩
  case round =>
    clear g1 hB1
    obtain ⟨i, rfl, hi, HA, G1, HBW⟩ := hrel
    by_cases hlt : i < tn
    · have c1 : (i : Int) < (tn : Int) := by omega
      have hir : i < ts.length := by rw [HN.out]; exact hlt
      obtain ⟨b, o, rfl, hbs, a', cap', k0, k1, q1, q2, q3, q4, _⟩ := (HR.out.below HBW.out).at i hir
      have HX := hid (fun (W : World) (hb : Below wr.heap.size wr W) => impl_txRight now ts[i] a' cap' W q3 (q4.below hb))
      have HNOI := hid (HNO.out i hir)
      have HNEXT : Hid (txb now ts[i] = true → ∀ m (h : m < ts.length), m < i + 1 → txb now ts[m] = true) := hid (fun e1 m h hm => by
        by_cases e : m = i
        · subst e; exact e1
        · exact HA.out m h (by omega))
      unfold txv at HX
      clear q2 q3 q4
      generalize txb now ts[i] = xb at HX HNOI HNEXT
      generalize ts[i].1 = st at *
      generalize ts[i].2.1 = op at *
      generalize ts[i].2.2.length = np at *
      go_upto_region 6 with fail
      have hBx : Below wr.heap.size wr (wr.alloc (.cells #[.int .i64 st, .bool op, .slice a' np cap'] 48)) := balloc (Below.refl _ _) _
      have gx := new_alloc wr wr.heap.size (.cells #[.int .i64 st, .bool op, .slice a' np cap'] 48) rfl
      have g1 := keepheap2 hBx G1.out
      have HX1 := hid (HX.out _ hBx)
      have HB1 := hid (btrans HBW.out hBx)
      have HG1 := hid g1
      clear hBx k0 k1 q1 HX
      generalize wr.alloc (.cells #[.int .i64 st, .bool op, .slice a' np cap'] 48) = W2 at *
      generalize wr.heap.size = X at *
      obtain ⟨⟨x0, x1, x2⟩, _⟩ := cellk3 gx
      obtain ⟨⟨d0, d1, d2⟩, _⟩ := cellk3 g1
      clear gx g1
      go_wp2_with fail
      refine HX1.out.mono ?_
      rintro e z ⟨rfl, hz⟩
      have HBz := hid (btrans HB1.out hz)
      have HGz := hid (keepheap2 hz HG1.out)
      clear hz x0 x1 x2 d0 d1 d2
      cases xb
      · have HF : Hid (sb = false) := hid (by rw [HD3.out, HNOI.out rfl])
        go_wp2_with fail
        go_ret
        exact ⟨by rw [HF.out]; rfl, HBz.out⟩
      · have HF := hid (HNEXT.out rfl)
        go_wp2_with fail
        go_roundw
        case rel => exact ⟨i + 1, by go_num, by omega, HF, HGz, HBz⟩
        case measure => simp [intOf]; omega
    · have c1 : (tn : Int) ≤ (i : Int) := by omega
      have HF : Hid (sb = true) := hid (by rw [HD3.out]; exact HYE.out (fun m hm1 => HA.out m hm1 (by have := HN.out; omega)))
      go_wp2_with fail
      go_ret
      exact ⟨by rw [HF.out]; rfl, HBW.out⟩
set_option maxRecDepth 100000 in
set_option maxHeartbeats 4000000 in
theorem spec_StoreOk {N1 N2 : Nat → Prop} (now : Int) (a ta : Option Addr) (cap tcap : Nat) (rs : List Rw) (ts : List Tx) (w : World) (hm : rs.length ≤ 1099511627776) (htm : ts.length ≤ 1099511627776) (hr : Rws N1 w a rs) (ht : Txs N2 1099511627776 w ta ts) : Calls Tryz.prog 31 #[.agg #[.int .i64 now, .slice a rs.length cap, .slice ta ts.length tcap]] w fun e w' => e = .returned (.bool (storeb now rs ts)) ∧ Below w.heap.size w w' := by
  have HRK := hid (fun (W : World) (hb : Below w.heap.size w W) => spec_RowsOk now a cap rs W hm (hr.below hb))
  have HR := hid ht
  clear hr ht
  have HD : Hid (storeb now rs ts = (rowsb now rs && (decide (ts.length ≤ 40) && ts.all (txb now)))) := hid rfl
  have HNO : Hid (∀ i (h : i < ts.length), txb now ts[i] = false → ts.all (txb now) = false) := hid (fun i h e => by rw [List.all_eq_false]; exact ⟨ts[i], List.getElem_mem h, by simp [e]⟩)
  have HYE : Hid ((∀ i (h : i < ts.length), txb now ts[i] = true) → ts.all (txb now) = true) := hid (fun hh => by
    rw [List.all_eq_true]
    intro x hx
    obtain ⟨m, hm1, rfl⟩ := List.mem_iff_getElem.1 hx
    exact hh m hm1)
  generalize storeb now rs ts = sb at *
  generalize rowsb now rs = rb at *
  generalize ts.all (txb now) = tb at *
  generalize rs.length = n at *
  obtain ⟨tn, htn⟩ : ∃ tn, tn = ts.length := ⟨_, rfl⟩
  have HN := hid htn.symm
  rw [← htn] at htm HD ⊢
  clear htn
  have hB0 : Below w.heap.size w (w.alloc (.cells #[.int .i64 now, .slice a n cap, .slice ta tn tcap] 34)) := balloc (Below.refl _ _) _
  have g0 := new_alloc w w.heap.size (.cells #[.int .i64 now, .slice a n cap, .slice ta tn tcap] 34) rfl
  go_enter Tryz.func31, Tryz.ntmps31
  go_upto_region 1 with fail
  generalize w.alloc (.cells #[.int .i64 now, .slice a n cap, .slice ta tn tcap] 34) = W0 at *
  obtain ⟨⟨d0, d1, d2⟩, _⟩ := cellk3 g0
  go_wp2_with fail
  refine (HRK.out _ hB0).mono ?_
  rintro e W1 ⟨rfl, hz⟩
  have g1 := keepheap2 hz g0
  have hB1 := btrans hB0 hz
  clear g0 hB0 hz d0 d1 d2 HRK
  obtain ⟨⟨d0, d1, d2⟩, _⟩ := cellk3 g1
  cases rb
  · have HF : Hid (sb = false) := hid (by rw [HD.out]; rfl)
    go_wp2_with fail
    go_ret
    exact ⟨by rw [HF.out]; rfl, hB1⟩
  by_cases h4 : 40 < tn
  · have h4' : (40 : Int) < (tn : Int) := by omega
    have HF : Hid (sb = false) := hid (by rw [HD.out, show decide (tn ≤ 40) = false by simpa using h4]; simp)
    clear h4
    go_wp2_with fail
    go_ret
    exact ⟨by rw [HF.out]; rfl, hB1⟩
  have h4' : (tn : Int) ≤ 40 := by omega
  have HD3 : Hid (sb = tb) := hid (by rw [HD.out, show decide (tn ≤ 40) = true by simpa using h4]; simp)
  clear h4 HD
  go_wp2_with fail
  clear d0 d1 d2
  go_loopw [3] (fun ti wr => ∃ i : Nat, ti = .int .i64 i ∧ i ≤ tn ∧ Hid (∀ m (h : m < ts.length), m < i → txb now ts[m] = true) ∧ Hid (wr.heap[w.heap.size]? = some (.cells #[.int .i64 now, .slice a n cap, .slice ta tn tcap] 34 (0, 0))) ∧ Hid (Below w.heap.size w wr)) (fun ti _ => tn - (intOf ti).toNat)
  case atStart => exact ⟨0, rfl, Nat.zero_le _, hid (fun m h hh => absurd hh (by omega)), hid g1, hid hB1⟩
  case round =>
    clear g1 hB1
    obtain ⟨i, rfl, hi, HA, G1, HBW⟩ := hrel
    obtain ⟨⟨d0, d1, d2⟩, _⟩ := cellk3 G1.out
    by_cases hlt : i < tn
    · have c1 : (i : Int) < (tn : Int) := by omega
      have hir : i < ts.length := by rw [HN.out]; exact hlt
      obtain ⟨b, o, rfl, hbs, a', cap', k0, k1, q1, q2, q3, q4, _⟩ := (HR.out.below HBW.out).at i hir
      have HX := hid (fun (W : World) (hb : Below wr.heap.size wr W) => spec_tx now ts[i] a' cap' W q3 (q4.below hb))
      have HNOI := hid (HNO.out i hir)
      have HNEXT : Hid (txb now ts[i] = true → ∀ m (h : m < ts.length), m < i + 1 → txb now ts[m] = true) := hid (fun e1 m h hm => by
        by_cases e : m = i
        · subst e; exact e1
        · exact HA.out m h (by omega))
      unfold txv at HX
      clear q2 q3 q4
      generalize txb now ts[i] = xb at HX HNOI HNEXT
      generalize ts[i].1 = st at *
      generalize ts[i].2.1 = op at *
      generalize ts[i].2.2.length = np at *
      go_wp2_with fail
      go_region_held3 (fun w' => w'.cell? ⟨w.heap.size, 0, none⟩ = some (.int .i64 now) ∧ w'.cell? ⟨w.heap.size, 2, none⟩ = some (.slice (some ⟨b, o, none⟩) tn tcap) ∧ w'.cell? ⟨b, o + i * 3, none⟩ = some (.int .i64 st) ∧ w'.cell? ⟨b, o + i * 3 + 1, none⟩ = some (.bool op) ∧ w'.cell? ⟨b, o + i * 3 + 2, none⟩ = some (.slice a' np cap')) ((go_split_ands; (repeat' apply And.intro) <;> (with_reducible repeat (first | assumption | refine keepset3 ?_ (by dsimp only; omega) | refine keepdrew ?_ | refine keepcell (by assumption) ?_ | refine keepalloc ?_ _))))
        (first
          | (go_at_call 53; refine (HX.out _ (bdrew (Below.refl _ _))).mono ?_; rintro e z ⟨rfl, hz⟩))
      have HBz := hid (btrans HBW.out (btrans (bdrew (Below.refl _ _)) hz))
      have HGz := hid (keepheap2 (btrans (bdrew (Below.refl _ _)) hz) G1.out)
      clear hz k0 k1 q1 d0 d1 d2
      cases xb
      · have HF : Hid (sb = false) := hid (by rw [HD3.out, HNOI.out rfl])
        go_wp2_with fail
        go_ret
        exact ⟨by rw [HF.out]; rfl, HBz.out⟩
      · have HF := hid (HNEXT.out rfl)
        go_wp2_with fail
        go_roundw
        case rel => exact ⟨i + 1, by go_num, by omega, HF, HGz, HBz⟩
        case measure => simp [intOf]; omega
    · have c1 : (tn : Int) ≤ (i : Int) := by omega
      have HF : Hid (sb = true) := hid (by rw [HD3.out]; exact HYE.out (fun m hm1 => HA.out m hm1 (by have := HN.out; omega)))
      go_wp2_with fail
      go_ret
      exact ⟨by rw [HF.out]; rfl, HBW.out⟩
set_option maxHeartbeats 1000000 in
theorem sz_store {N : Nat → Prop} (now : Int) (a ta : Option Addr) (cap tcap : Nat) (rs : List Rw) (ts : List Tx) (w : World) (hm : rs.length ≤ 9223372036854775807) (htm : ts.length ≤ 9223372036854775807) (hr : RwsL w a rs) (ht : Txs N 9223372036854775807 w ta ts) : Calls Tryz.prog 4 #[.agg #[.int .i64 now, .slice a rs.length cap, .slice ta ts.length tcap], .int .i64 1048576] w fun e w' => (∃ v : Int, e = .returned (.int .i64 v) ∧ (v = -1 ∨ (0 ≤ v ∧ v ≤ 1048576 ∧ Hid ((rs.length ≤ 1048576 ∧ ∀ m (h : m < rs.length), rs[m].2.2.2.2.length ≤ 1048576) ∧ txS ts)))) ∧ Below w.heap.size w w' := by
  have HR := hid (fun (W : World) (hb : Below w.heap.size w W) => sz_allL now a cap rs W hm (hr.below hb))
  have HT := hid (fun (W : World) (hb : Below w.heap.size w W) (l : Int) (h0 : 0 ≤ l) (h1 : l ≤ 1048576) => sz_txs ta tcap ts l W htm h0 h1 (ht.below hb))
  clear hr ht
  obtain ⟨G, hG⟩ : ∃ G : Prop, G = (rs.length ≤ 1048576 ∧ ∀ m (h : m < rs.length), rs[m].2.2.2.2.length ≤ 1048576) := ⟨_, rfl⟩
  obtain ⟨K, hK⟩ : ∃ K : Prop, K = txS ts := ⟨_, rfl⟩
  rw [← hG] at HR ⊢
  rw [← hK] at HT ⊢
  clear hG hK
  generalize rs.length = n at *
  generalize ts.length = tn at *
  have hB0 : Below w.heap.size w (w.alloc (.cells #[.int .i64 now, .slice a n cap, .slice ta tn tcap] 27)) := balloc (Below.refl _ _) _
  have g0 := new_alloc w w.heap.size (.cells #[.int .i64 now, .slice a n cap, .slice ta tn tcap] 27) rfl
  go_enter Tryz.func4, Tryz.ntmps4
  go_upto_region 1 with fail
  generalize w.alloc (.cells #[.int .i64 now, .slice a n cap, .slice ta tn tcap] 27) = W0 at *
  obtain ⟨⟨d0, d1, d2⟩, _⟩ := cellk3 g0
  go_wp2_with fail
  refine (HR.out _ hB0).mono ?_
  rintro e w1 ⟨⟨v, rfl, hv⟩, hb⟩
  have g1 := keepheap2 hb g0
  have hB := btrans hB0 hb
  clear g0 hB0 hb d0 d1 d2
  obtain ⟨⟨d0, d1, d2⟩, _⟩ := cellk3 g1
  rcases hv with rfl | ⟨hv0, hv1, HV⟩
  · go_wp2_with fail
    go_ret
    exact ⟨⟨_, rfl, .inl rfl⟩, hB⟩
  have hv2 : ¬ v < 0 := by omega
  go_wp2_with fail
  refine (HT.out _ hB v hv0 hv1).mono ?_
  rintro e w2 ⟨⟨u, rfl, hu⟩, hb⟩
  have hB2 := btrans hB hb
  clear hb d0 d1 d2
  rcases hu with rfl | ⟨hu0, hu1, HU⟩
  · go_wp2_with fail
    go_ret
    exact ⟨⟨_, rfl, .inl rfl⟩, hB2⟩
  · have hu2 : ¬ u < 0 := by omega
    go_wp2_with fail
    go_ret
    exact ⟨⟨_, rfl, .inr ⟨hu0, hu1, hid ⟨HV.out, HU.out⟩⟩⟩, hB2⟩
set_option maxHeartbeats 1000000 in
theorem eq_store {N1 N2 N3 N4 : Nat → Prop} (now : Int) (a1 a2 t1 t2 : Option Addr) (c1 c2 e1 e2 : Nat) (rs : List Rw) (ts : List Tx) (w : World) (hm : rs.length ≤ 1099511627776) (htm : ts.length ≤ 1099511627776) (r1 : Rws N1 w a1 rs) (r2 : Rws N2 w a2 rs) (x1 : Txs N3 1099511627776 w t1 ts) (x2 : Txs N4 1099511627776 w t2 ts) : Calls Tryz.prog 8 #[.agg #[.int .i64 now, .slice a1 rs.length c1, .slice t1 ts.length e1], .agg #[.int .i64 now, .slice a2 rs.length c2, .slice t2 ts.length e2]] w fun e w' => e = .returned (.bool true) ∧ Below w.heap.size w w' := by
  have HR := hid (fun (W : World) (hb : Below w.heap.size w W) => eq_rows now a1 a2 c1 c2 rs W hm (r1.below hb) (r2.below hb))
  have HT := hid (fun (W : World) (hb : Below w.heap.size w W) => eq_txs t1 t2 e1 e2 ts W htm (x1.below hb) (x2.below hb))
  clear r1 r2 x1 x2
  generalize rs.length = n at *
  generalize ts.length = tn at *
  have hB0 : Below w.heap.size w ((w.alloc (.cells #[.int .i64 now, .slice a1 n c1, .slice t1 tn e1] 34)).alloc (.cells #[.int .i64 now, .slice a2 n c2, .slice t2 tn e2] 34)) := balloc (balloc (Below.refl _ _) _) _
  have g0 := old_alloc (o' := .cells #[.int .i64 now, .slice a2 n c2, .slice t2 tn e2] 34) (new_alloc w w.heap.size (.cells #[.int .i64 now, .slice a1 n c1, .slice t1 tn e1] 34) rfl)
  have g1 := new_alloc (w.alloc (.cells #[.int .i64 now, .slice a1 n c1, .slice t1 tn e1] 34)) (w.heap.size + 1) (.cells #[.int .i64 now, .slice a2 n c2, .slice t2 tn e2] 34) (by simp)
  go_enter Tryz.func8, Tryz.ntmps8
  go_upto_region 1 with fail
  generalize (w.alloc (.cells #[.int .i64 now, .slice a1 n c1, .slice t1 tn e1] 34)).alloc (.cells #[.int .i64 now, .slice a2 n c2, .slice t2 tn e2] 34) = W0 at *
  obtain ⟨⟨d0, d1, d2⟩, _⟩ := cellk3 g0
  obtain ⟨⟨f0, f1, f2⟩, _⟩ := cellk3 g1
  go_wp2_with fail
  refine (HR.out _ hB0).mono ?_
  rintro e w1 ⟨rfl, hb⟩
  replace g0 := keepheap2 hb g0
  replace g1 := keepheap2 hb g1
  have hB := btrans hB0 hb
  clear hB0 hb d0 d1 d2 f0 f1 f2
  obtain ⟨⟨d0, d1, d2⟩, _⟩ := cellk3 g0
  obtain ⟨⟨f0, f1, f2⟩, _⟩ := cellk3 g1
  go_wp2_with fail
  refine (HT.out _ hB).mono ?_
  rintro e w2 ⟨rfl, hb⟩
  go_wp2_with fail
  go_ret
  exact ⟨rfl, btrans hB hb⟩
end Go.Proofs.YtkdoigibpaempaaGreatDoor
namespace Go.Proofs.YtkdoigibpaempaaGreatDoor
open Go.RowKit
theorem keepheapA {w w' : World} (hb : Below w.heap.size w w') {b : Nat} {o : Obj} (h : w.heap[b]? = some o) : w'.heap[b]? = some o := by
  rw [hb.block b (lt_of_block h)]; exact h
end Go.Proofs.YtkdoigibpaempaaGreatDoor
namespace Go.Proofs.YtkdoigibpaempaaGreatDoor
open Go.RowKit
def txn (ts : List Tx) (n : Int) : Tx := ts.getD n.toNat (0, false, [])
theorem txn_at {ts : List Tx} {m : Nat} (h : m < ts.length) : txn ts (m : Int) = ts[m] := by
  unfold txn
  rw [show ((m : Int)).toNat = m by omega, List.getD_eq_getElem?_getD, List.getElem?_eq_getElem h]; rfl
def opn (now : Int) (rs : List Rw) (ts : List Tx) (n : Int) : Bool := storeb now rs ts && ((decide (0 ≤ n) && decide (n ≤ (ts.length : Int) - 1)) && (txn ts n).2.1)
set_option maxRecDepth 100000 in
set_option maxHeartbeats 2000000 in
theorem spec_open {N1 N2 : Nat → Prop} (now : Int) (a ta : Option Addr) (cap tcap : Nat) (rs : List Rw) (ts : List Tx) (n : Int) (w : World) (hm : rs.length ≤ 1099511627776) (htm : ts.length ≤ 1099511627776) (hr : Rws N1 w a rs) (ht : Txs N2 1099511627776 w ta ts) : Calls Tryz.prog 14 #[.agg #[.int .i64 now, .slice a rs.length cap, .slice ta ts.length tcap], .int .i64 n] w fun e w' => e = .returned (.bool (opn now rs ts n)) ∧ Below w.heap.size w w' := by
  have HOK := hid (fun (W : World) (hb : Below w.heap.size w W) => spec_StoreOk now a ta cap tcap rs ts W hm htm (hr.below hb) (ht.below hb))
  have HTX := hid ht
  have HOP := hid (show opn now rs ts n = (storeb now rs ts && ((decide (0 ≤ n) && decide (n ≤ (ts.length : Int) - 1)) && (txn ts n).2.1)) from rfl)
  clear hr ht
  generalize opn now rs ts n = q at *
  generalize storeb now rs ts = ob at *
  obtain ⟨tn, hn⟩ : ∃ tn, tn = ts.length := ⟨_, rfl⟩
  have HN := hid hn.symm
  rw [← hn] at htm HOK HOP ⊢
  clear hn
  generalize rs.length = rn at *
  have hB0 : Below w.heap.size w (w.alloc (.cells #[.int .i64 now, .slice a rn cap, .slice ta tn tcap] 34)) := balloc (Below.refl _ _) _
  have g0 := new_alloc w w.heap.size (.cells #[.int .i64 now, .slice a rn cap, .slice ta tn tcap] 34) rfl
  go_enter Tryz.func14, Tryz.ntmps14
  go_upto_region 1 with fail
  generalize w.alloc (.cells #[.int .i64 now, .slice a rn cap, .slice ta tn tcap] 34) = W0 at *
  obtain ⟨⟨d0, d1, d2⟩, _⟩ := cellk3 g0
  go_wp2_with fail
  refine (HOK.out _ hB0).mono ?_
  rintro e z ⟨rfl, hz⟩
  replace g0 := keepheapA hz g0
  have HB := hid (btrans hB0 hz)
  clear hB0 hz HOK d0 d1 d2
  obtain ⟨⟨d0, d1, d2⟩, _⟩ := cellk3 g0
  clear g0
  cases ob
  · go_wp2_with fail
    go_ret
    exact ⟨by rw [HOP.out]; rfl, HB.out⟩
  · have HI := hid (fun W => in_r n 0 ((tn : Int) - 1) W)
    by_cases hin : 0 ≤ n ∧ n ≤ (tn : Int) - 1
    · have hq : (decide (0 ≤ n) && decide (n ≤ (tn : Int) - 1)) = true := by simp [hin.1, hin.2]
      have HQ := hid (show q = (txn ts n).2.1 by rw [HOP.out, hq]; simp)
      rw [hq] at HI
      obtain ⟨m, rfl⟩ : ∃ m : Nat, n = (m : Int) := ⟨n.toNat, by omega⟩
      have hmn : m < tn := by omega
      have hmr : m < ts.length := by rw [HN.out]; exact hmn
      obtain ⟨b, o, rfl, hbs, a', cap', k0, k1, k2, _, _, _, _⟩ := (HTX.out.below HB.out).at m hmr
      have HQ2 := hid (show ts[m].2.1 = q by rw [HQ.out, txn_at hmr])
      generalize ts[m].2.1 = q2 at *
      clear HQ hq hin HOP
      go_wp2_with fail
      refine (HI.out _).mono ?_
      rintro e z2 ⟨rfl, hz2⟩
      replace hz2 := hz2.symm
      subst hz2
      go_wp2_with fail
      go_ret
      exact ⟨by rw [HQ2.out]; rfl, HB.out⟩
    · have hq : (decide (0 ≤ n) && decide (n ≤ (tn : Int) - 1)) = false := by
        by_cases h1 : 0 ≤ n
        · have : ¬ n ≤ (tn : Int) - 1 := fun h => hin ⟨h1, h⟩
          simp [this]
        · simp [h1]
      have HQ := hid (show q = false by rw [HOP.out, hq]; simp)
      rw [hq] at HI
      go_wp2_with fail
      refine (HI.out _).mono ?_
      rintro e z2 ⟨rfl, hz2⟩
      replace hz2 := hz2.symm
      subst hz2
      go_wp2_with fail
      go_ret
      exact ⟨by rw [HQ.out]; rfl, HB.out⟩
end Go.Proofs.YtkdoigibpaempaaGreatDoor
namespace Go.Proofs.YtkdoigibpaempaaGreatDoor
open Go.RowKit
theorem keepheapW {w w' : World} (hb : Below w.heap.size w w') {b : Nat} {o : Obj} (h : w.heap[b]? = some o) : w'.heap[b]? = some o := (hb.block b (by by_cases q : b < w.heap.size; exact q; rw [Array.getElem?_eq_none (by omega)] at h; cases h)).trans h
def gob (ts : List Tx) (n : Int) : Bool := decide (0 ≤ n) && (decide (n < (ts.length : Int)) && (txn ts n).2.1)
theorem gob_opn {now : Int} {rs : List Rw} {ts : List Tx} {n : Int} : opn now rs ts n = (storeb now rs ts && gob ts n) := by
  unfold opn gob
  have : decide (n ≤ (ts.length : Int) - 1) = decide (n < (ts.length : Int)) := by
    by_cases h : n < (ts.length : Int)
    · rw [decide_eq_true h, decide_eq_true (by omega)]
    · rw [decide_eq_false h, decide_eq_false (by omega)]
  rw [this, Bool.and_assoc]
set_option maxRecDepth 100000 in
set_option maxHeartbeats 2000000 in
theorem goes_c {N : Nat → Prop} (now : Int) (a ta : Option Addr) (rn cap tcap : Nat) (ts : List Tx) (n : Int) (w : World) (htm : ts.length ≤ 1099511627776) (ht : Txs N 1099511627776 w ta ts) : Calls Tryz.prog 63 #[.agg #[.int .i64 now, .slice a rn cap, .slice ta ts.length tcap], .int .i64 n] w fun e w' => e = .returned (.bool (gob ts n)) ∧ Below w.heap.size w w' := by
  have HTX := hid ht
  have HG := hid (show gob ts n = (decide (0 ≤ n) && (decide (n < (ts.length : Int)) && (txn ts n).2.1)) from rfl)
  clear ht
  generalize gob ts n = gb at *
  obtain ⟨tn, hn⟩ : ∃ tn, tn = ts.length := ⟨_, rfl⟩
  have HN := hid hn.symm
  rw [← hn] at htm HG ⊢
  clear hn
  have hB : Below w.heap.size w (w.alloc (.cells #[.int .i64 now, .slice a rn cap, .slice ta tn tcap] 34)) := balloc (Below.refl _ _) _
  have g0 := new_alloc w w.heap.size (.cells #[.int .i64 now, .slice a rn cap, .slice ta tn tcap] 34) rfl
  go_enter Tryz.func63, Tryz.ntmps63
  go_upto_region 1 with fail
  generalize w.alloc (.cells #[.int .i64 now, .slice a rn cap, .slice ta tn tcap] 34) = W at *
  obtain ⟨⟨d0, d1, d2⟩, _⟩ := cellk3 g0
  by_cases h1 : 0 ≤ n
  · by_cases h2 : n < (tn : Int)
    · obtain ⟨m, rfl⟩ : ∃ m : Nat, n = (m : Int) := ⟨n.toNat, by omega⟩
      have hmr : m < ts.length := by rw [HN.out]; omega
      obtain ⟨b, o, rfl, hbs, a', cap', k0, k1, k2, _, _, _, _⟩ := (HTX.out.below hB).at m hmr
      have HQ : Hid (gb = ts[m].2.1) := hid (by rw [HG.out, txn_at hmr]; simp [h1, h2])
      clear HG k0 k2
      generalize ts[m].2.1 = op at *
      go_wp2_with fail
      go_ret
      exact ⟨by rw [HQ.out]; rfl, hB⟩
    · have HQ : Hid (gb = false) := hid (by rw [HG.out]; simp [h2])
      have h2' : (tn : Int) ≤ n := by omega
      clear HG
      go_wp2_with fail
      go_ret
      exact ⟨by rw [HQ.out]; rfl, hB⟩
  · have HQ : Hid (gb = false) := hid (by rw [HG.out]; simp [h1])
    clear HG
    go_wp2_with fail
    go_ret
    exact ⟨by rw [HQ.out]; rfl, hB⟩
set_option maxRecDepth 100000 in
set_option maxHeartbeats 4000000 in
theorem atwork_c (now : Int) (a ca : Option Addr) (rn cap b o tn tcap m n ccap : Nat) (st : Int) (op : Bool) (w : World) (hmt : m < tn) (htm : tn ≤ 1099511627776) (k0 : w.cell? ⟨b, o + m * 3, none⟩ = some (.int .i64 st)) (k1 : w.cell? ⟨b, o + m * 3 + 1, none⟩ = some (.bool op)) (k2 : w.cell? ⟨b, o + m * 3 + 2, none⟩ = some (.slice ca n ccap)) : Calls Tryz.prog 65 #[.agg #[.int .i64 now, .slice a rn cap, .slice (some ⟨b, o, none⟩) tn tcap], .int .i64 m] w fun e w' => e = .returned (.agg #[.slice ca n ccap, .int .i64 st, .bool op, .int .i64 now, .slice a rn cap]) ∧ Below w.heap.size w w' := by
  have c0 : (m : Int) < (tn : Int) := by omega
  have c0'' : (0 : Int) ≤ (m : Int) := by omega
  have hB0 : Below w.heap.size w ((w.alloc (.cells #[.int .i64 now, .slice a rn cap, .slice (some ⟨b, o, none⟩) tn tcap] 34)).alloc (.cells #[.slice none 0 0, .int .i64 0, .bool false, .int .i64 0, .slice none 0 0] 85)) := balloc (balloc (Below.refl _ _) _) _
  have g0 := old_alloc (o' := (.cells #[.slice none 0 0, .int .i64 0, .bool false, .int .i64 0, .slice none 0 0] 85)) (new_alloc w w.heap.size (.cells #[.int .i64 now, .slice a rn cap, .slice (some ⟨b, o, none⟩) tn tcap] 34) rfl)
  have g1 := new_alloc (w.alloc (.cells #[.int .i64 now, .slice a rn cap, .slice (some ⟨b, o, none⟩) tn tcap] 34)) (w.heap.size + 1) (.cells #[.slice none 0 0, .int .i64 0, .bool false, .int .i64 0, .slice none 0 0] 85) (by simp)
  replace k0 := keepcell hB0 k0
  replace k1 := keepcell hB0 k1
  replace k2 := keepcell hB0 k2
  go_enter Tryz.func65, Tryz.ntmps65
  go_upto_region 1 with fail
  generalize (w.alloc (.cells #[.int .i64 now, .slice a rn cap, .slice (some ⟨b, o, none⟩) tn tcap] 34)).alloc (.cells #[.slice none 0 0, .int .i64 0, .bool false, .int .i64 0, .slice none 0 0] 85) = z at *
  obtain ⟨⟨d0, d1, d2⟩, _⟩ := cellk3 g0
  go_upto_region 2 with fail
  have hBt : Below z.heap.size z (z.alloc (.cells #[.int .i64 st, .bool op, .slice ca n ccap] 48)) := balloc (Below.refl _ _) _
  have g2 := new_alloc z z.heap.size (.cells #[.int .i64 st, .bool op, .slice ca n ccap] 48) rfl
  replace g0 := keepheapW hBt g0
  replace g1 := keepheapW hBt g1
  have HB2 := hid (btrans hB0 hBt)
  clear hBt d0 d1 d2 k0 k1 k2 hB0
  generalize z.alloc (.cells #[.int .i64 st, .bool op, .slice ca n ccap] 48) = Y at *
  generalize z.heap.size = Z at *
  obtain ⟨⟨d0, d1, d2⟩, _⟩ := cellk3 g0
  obtain ⟨⟨t0, t1, t2⟩, _⟩ := cellk3 g2
  obtain ⟨⟨f0, f1, f2, f3, f4⟩, p0, p1, p2, p3, p4⟩ := cell5g g1
  go_wp2_with fail
  have gF := set5 g1 (.slice ca n ccap) (.int .i64 st) (.bool op) (.int .i64 now) (.slice a rn cap)
  have bF := bset (bset (bset (bset (bset HB2.out (q := w.heap.size + 1) (k := 0) (by omega) (.slice ca n ccap)) (q := w.heap.size + 1) (k := 1) (by omega) (.int .i64 st)) (q := w.heap.size + 1) (k := 2) (by omega) (.bool op)) (q := w.heap.size + 1) (k := 3) (by omega) (.int .i64 now)) (q := w.heap.size + 1) (k := 4) (by omega) (.slice a rn cap)
  generalize (((((Y.setCell ⟨w.heap.size + 1, 0, none⟩ (.slice ca n ccap)).setCell ⟨w.heap.size + 1, 1, none⟩ (.int .i64 st)).setCell ⟨w.heap.size + 1, 2, none⟩ (.bool op)).setCell ⟨w.heap.size + 1, 3, none⟩ (.int .i64 now)).setCell ⟨w.heap.size + 1, 4, none⟩ (.slice a rn cap)) = wf at *
  obtain ⟨⟨z0, z1, z2, z3, z4⟩, _⟩ := cell5g gF
  exact bodyPost_ret (v := .agg #[.slice ca n ccap, .int .i64 st, .bool op, .int .i64 now, .slice a rn cap]) (by simp [results, Tryz.results65, go_sem, z0, z1, z2, z3, z4]) rfl ⟨rfl, bF⟩
end Go.Proofs.YtkdoigibpaempaaGreatDoor
