/- StoreOk of both sides, and a store as a law handles it. -/
import Derived.Test.YtafjjchebmldeaaGreatDoorSe
namespace Go.Proofs.YtafjjchebmldeaaGreatDoor
open Go.RowKit
set_option linter.unusedSimpArgs false
set_option linter.unusedVariables false
def storeb (now : Int) (rs : List Rw) (ts : List Tx) : Bool := rowsb now rs && (decide (ts.length ≤ 40) && ts.all (txb now))
set_option maxRecDepth 100000 in
set_option maxHeartbeats 4000000 in
theorem impl_StoreOk {N1 N2 : Nat → Prop} (now : Int) (a ta : Option Addr) (cap tcap : Nat) (rs : List Rw) (ts : List Tx) (w : World) (hm : rs.length ≤ 1099511627776) (htm : ts.length ≤ 1099511627776) (hr : Rws N1 w a rs) (ht : Txs N2 1099511627776 w ta ts) : Calls Tryz.prog 47 #[.agg #[.int .i64 now, .slice a rs.length cap, .slice ta ts.length tcap]] w fun e w' => e = .returned (.bool (storeb now rs ts)) ∧ Below w.heap.size w w' := by
  have HRK := hid (fun (W : World) (hb : Below w.heap.size w W) => impl_RowsOk now a cap rs W hm (hr.below hb))
  have HR := hid ht
  clear hr ht
  have HD : Hid (storeb now rs ts = (rowsb now rs && (decide (ts.length ≤ 40) && ts.all (txb now)))) := hid rfl
  have HNO : Hid (∀ i (h : i < ts.length), txb now ts[i] = false → ts.all (txb now) = false) := hid (fun i h e => by rw [List.all_eq_false]; exact ⟨ts[i], List.getElem_mem h, by simp [e]⟩)
  have HYE : Hid ((∀ i (h : i < ts.length), txb now ts[i] = true) → ts.all (txb now) = true) := hid (fun hh => by
    rw [List.all_eq_true]
    intro x hx
    obtain ⟨m, hm1, rfl⟩ := List.mem_iff_getElem.1 hx
    exact hh m hm1)
  generalize storeb now rs ts = sb at *
  generalize rowsb now rs = rb at *
  generalize ts.all (txb now) = tb at *
  generalize rs.length = n at *
  obtain ⟨tn, htn⟩ : ∃ tn, tn = ts.length := ⟨_, rfl⟩
  have HN := hid htn.symm
  rw [← htn] at htm HD ⊢
  clear htn
  have hB0 : Below w.heap.size w (w.alloc (.cells #[.int .i64 now, .slice a n cap, .slice ta tn tcap] 39)) := balloc (Below.refl _ _) _
  have g0 := new_alloc w w.heap.size (.cells #[.int .i64 now, .slice a n cap, .slice ta tn tcap] 39) rfl
  go_enter Tryz.func47, Tryz.ntmps47
  go_upto_region 1 with fail
  generalize w.alloc (.cells #[.int .i64 now, .slice a n cap, .slice ta tn tcap] 39) = W0 at *
  obtain ⟨⟨d0, d1, d2⟩, _⟩ := cellk3 g0
  by_cases h4 : 40 < tn
  · have h4' : (40 : Int) < (tn : Int) := by omega
    have HF : Hid (sb = false) := hid (by rw [HD.out, show decide (tn ≤ 40) = false by simpa using h4]; simp)
    clear h4
    go_wp2_with fail
    go_ret
    exact ⟨by rw [HF.out]; rfl, hB0⟩
  have h4' : (tn : Int) ≤ 40 := by omega
  have HD2 : Hid (sb = (rb && tb)) := hid (by rw [HD.out, show decide (tn ≤ 40) = true by simpa using h4]; simp)
  clear h4 HD
  go_wp2_with fail
  refine (HRK.out _ hB0).mono ?_
  rintro e W1 ⟨rfl, hz⟩
  have g1 := keepheap2 hz g0
  have hB1 := btrans hB0 hz
  clear g0 hB0 hz d0 d1 d2 HRK
  obtain ⟨⟨d0, d1, d2⟩, _⟩ := cellk3 g1
  cases rb
  · have HF : Hid (sb = false) := hid (by rw [HD2.out]; rfl)
    go_wp2_with fail
    go_ret
    exact ⟨by rw [HF.out]; rfl, hB1⟩
  have HD3 : Hid (sb = tb) := hid (by rw [HD2.out]; rfl)
  clear HD2
  go_wp2_with fail
  clear d0 d1 d2
  go_loopw [18] (fun ti wr => ∃ i : Nat, ti = .int .i64 i ∧ i ≤ tn ∧ Hid (∀ m (h : m < ts.length), m < i → txb now ts[m] = true) ∧ Hid (wr.heap[w.heap.size]? = some (.cells #[.int .i64 now, .slice a n cap, .slice ta tn tcap] 39 (0, 0))) ∧ Hid (Below w.heap.size w wr)) (fun ti _ => tn - (intOf ti).toNat)
  case atStart => exact ⟨0, rfl, Nat.zero_le _, hid (fun m h hh => absurd hh (by omega)), hid g1, hid hB1⟩
  case round =>
    clear g1 hB1
    obtain ⟨i, rfl, hi, HA, G1, HBW⟩ := hrel
    by_cases hlt : i < tn
    · have c1 : (i : Int) < (tn : Int) := by omega
      have hir : i < ts.length := by rw [HN.out]; exact hlt
      obtain ⟨b, o, rfl, hbs, a', cap', k0, k1, q1, q2, q3, q4, _⟩ := (HR.out.below HBW.out).at i hir
      have HX := hid (fun (W : World) (hb : Below wr.heap.size wr W) => impl_txRight now ts[i] a' cap' W q3 (q4.below hb))
      have HNOI := hid (HNO.out i hir)
      have HNEXT : Hid (txb now ts[i] = true → ∀ m (h : m < ts.length), m < i + 1 → txb now ts[m] = true) := hid (fun e1 m h hm => by
        by_cases e : m = i
        · subst e; exact e1
        · exact HA.out m h (by omega))
      unfold txv at HX
      clear q2 q3 q4
      generalize txb now ts[i] = xb at HX HNOI HNEXT
      generalize ts[i].1 = st at *
      generalize ts[i].2.1 = op at *
      generalize ts[i].2.2.length = np at *
      go_upto_region 6 with fail
      have hBx : Below wr.heap.size wr (wr.alloc (.cells #[.int .i64 st, .bool op, .slice a' np cap'] 74)) := balloc (Below.refl _ _) _
      have gx := new_alloc wr wr.heap.size (.cells #[.int .i64 st, .bool op, .slice a' np cap'] 74) rfl
      have g1 := keepheap2 hBx G1.out
      have HX1 := hid (HX.out _ hBx)
      have HB1 := hid (btrans HBW.out hBx)
      have HG1 := hid g1
      clear hBx k0 k1 q1 HX
      generalize wr.alloc (.cells #[.int .i64 st, .bool op, .slice a' np cap'] 74) = W2 at *
      generalize wr.heap.size = X at *
      obtain ⟨⟨x0, x1, x2⟩, _⟩ := cellk3 gx
      obtain ⟨⟨d0, d1, d2⟩, _⟩ := cellk3 g1
      clear gx g1
      go_wp2_with fail
      refine HX1.out.mono ?_
      rintro e z ⟨rfl, hz⟩
      have HBz := hid (btrans HB1.out hz)
      have HGz := hid (keepheap2 hz HG1.out)
      clear hz x0 x1 x2 d0 d1 d2
      cases xb
      · have HF : Hid (sb = false) := hid (by rw [HD3.out, HNOI.out rfl])
        go_wp2_with fail
        go_ret
        exact ⟨by rw [HF.out]; rfl, HBz.out⟩
      · have HF := hid (HNEXT.out rfl)
        go_wp2_with fail
        go_roundw
        case rel => exact ⟨i + 1, by go_num, by omega, HF, HGz, HBz⟩
        case measure => simp [intOf]; omega
    · have c1 : (tn : Int) ≤ (i : Int) := by omega
      have HF : Hid (sb = true) := hid (by rw [HD3.out]; exact HYE.out (fun m hm1 => HA.out m hm1 (by have := HN.out; omega)))
      go_wp2_with fail
      go_ret
      exact ⟨by rw [HF.out]; rfl, HBW.out⟩
set_option maxRecDepth 100000 in
set_option maxHeartbeats 4000000 in
theorem spec_StoreOk {N1 N2 : Nat → Prop} (now : Int) (a ta : Option Addr) (cap tcap : Nat) (rs : List Rw) (ts : List Tx) (w : World) (hm : rs.length ≤ 1099511627776) (htm : ts.length ≤ 1099511627776) (hr : Rws N1 w a rs) (ht : Txs N2 1099511627776 w ta ts) : Calls Tryz.prog 41 #[.agg #[.int .i64 now, .slice a rs.length cap, .slice ta ts.length tcap]] w fun e w' => e = .returned (.bool (storeb now rs ts)) ∧ Below w.heap.size w w' := by
  have HRK := hid (fun (W : World) (hb : Below w.heap.size w W) => spec_RowsOk now a cap rs W hm (hr.below hb))
  have HR := hid ht
  clear hr ht
  have HD : Hid (storeb now rs ts = (rowsb now rs && (decide (ts.length ≤ 40) && ts.all (txb now)))) := hid rfl
  have HNO : Hid (∀ i (h : i < ts.length), txb now ts[i] = false → ts.all (txb now) = false) := hid (fun i h e => by rw [List.all_eq_false]; exact ⟨ts[i], List.getElem_mem h, by simp [e]⟩)
  have HYE : Hid ((∀ i (h : i < ts.length), txb now ts[i] = true) → ts.all (txb now) = true) := hid (fun hh => by
    rw [List.all_eq_true]
    intro x hx
    obtain ⟨m, hm1, rfl⟩ := List.mem_iff_getElem.1 hx
    exact hh m hm1)
  generalize storeb now rs ts = sb at *
  generalize rowsb now rs = rb at *
  generalize ts.all (txb now) = tb at *
  generalize rs.length = n at *
  obtain ⟨tn, htn⟩ : ∃ tn, tn = ts.length := ⟨_, rfl⟩
  have HN := hid htn.symm
  rw [← htn] at htm HD ⊢
  clear htn
  have hB0 : Below w.heap.size w (w.alloc (.cells #[.int .i64 now, .slice a n cap, .slice ta tn tcap] 39)) := balloc (Below.refl _ _) _
  have g0 := new_alloc w w.heap.size (.cells #[.int .i64 now, .slice a n cap, .slice ta tn tcap] 39) rfl
  go_enter Tryz.func41, Tryz.ntmps41
  go_upto_region 1 with fail
  generalize w.alloc (.cells #[.int .i64 now, .slice a n cap, .slice ta tn tcap] 39) = W0 at *
  obtain ⟨⟨d0, d1, d2⟩, _⟩ := cellk3 g0
  go_wp2_with fail
  refine (HRK.out _ hB0).mono ?_
  rintro e W1 ⟨rfl, hz⟩
  have g1 := keepheap2 hz g0
  have hB1 := btrans hB0 hz
  clear g0 hB0 hz d0 d1 d2 HRK
  obtain ⟨⟨d0, d1, d2⟩, _⟩ := cellk3 g1
  cases rb
  · have HF : Hid (sb = false) := hid (by rw [HD.out]; rfl)
    go_wp2_with fail
    go_ret
    exact ⟨by rw [HF.out]; rfl, hB1⟩
  by_cases h4 : 40 < tn
  · have h4' : (40 : Int) < (tn : Int) := by omega
    have HF : Hid (sb = false) := hid (by rw [HD.out, show decide (tn ≤ 40) = false by simpa using h4]; simp)
    clear h4
    go_wp2_with fail
    go_ret
    exact ⟨by rw [HF.out]; rfl, hB1⟩
  have h4' : (tn : Int) ≤ 40 := by omega
  have HD3 : Hid (sb = tb) := hid (by rw [HD.out, show decide (tn ≤ 40) = true by simpa using h4]; simp)
  clear h4 HD
  go_wp2_with fail
  clear d0 d1 d2
  go_loopw [3] (fun ti wr => ∃ i : Nat, ti = .int .i64 i ∧ i ≤ tn ∧ Hid (∀ m (h : m < ts.length), m < i → txb now ts[m] = true) ∧ Hid (wr.heap[w.heap.size]? = some (.cells #[.int .i64 now, .slice a n cap, .slice ta tn tcap] 39 (0, 0))) ∧ Hid (Below w.heap.size w wr)) (fun ti _ => tn - (intOf ti).toNat)
  case atStart => exact ⟨0, rfl, Nat.zero_le _, hid (fun m h hh => absurd hh (by omega)), hid g1, hid hB1⟩
  case round =>
    clear g1 hB1
    obtain ⟨i, rfl, hi, HA, G1, HBW⟩ := hrel
    obtain ⟨⟨d0, d1, d2⟩, _⟩ := cellk3 G1.out
    by_cases hlt : i < tn
    · have c1 : (i : Int) < (tn : Int) := by omega
      have hir : i < ts.length := by rw [HN.out]; exact hlt
      obtain ⟨b, o, rfl, hbs, a', cap', k0, k1, q1, q2, q3, q4, _⟩ := (HR.out.below HBW.out).at i hir
      have HX := hid (fun (W : World) (hb : Below wr.heap.size wr W) => spec_tx now ts[i] a' cap' W q3 (q4.below hb))
      have HNOI := hid (HNO.out i hir)
      have HNEXT : Hid (txb now ts[i] = true → ∀ m (h : m < ts.length), m < i + 1 → txb now ts[m] = true) := hid (fun e1 m h hm => by
        by_cases e : m = i
        · subst e; exact e1
        · exact HA.out m h (by omega))
      unfold txv at HX
      clear q2 q3 q4
      generalize txb now ts[i] = xb at HX HNOI HNEXT
      generalize ts[i].1 = st at *
      generalize ts[i].2.1 = op at *
      generalize ts[i].2.2.length = np at *
      go_wp2_with fail
      go_region_held3 (fun w' => w'.cell? ⟨w.heap.size, 0, none⟩ = some (.int .i64 now) ∧ w'.cell? ⟨w.heap.size, 2, none⟩ = some (.slice (some ⟨b, o, none⟩) tn tcap) ∧ w'.cell? ⟨b, o + i * 3, none⟩ = some (.int .i64 st) ∧ w'.cell? ⟨b, o + i * 3 + 1, none⟩ = some (.bool op) ∧ w'.cell? ⟨b, o + i * 3 + 2, none⟩ = some (.slice a' np cap')) ((go_split_ands; (repeat' apply And.intro) <;> (repeat (first | with_reducible assumption | with_reducible refine keepset3 ?_ (by dsimp only; omega) | with_reducible refine keepdrew ?_ | with_reducible refine keepcell (by with_reducible assumption) ?_ | with_reducible refine keepalloc ?_ _))))
        (first
          | (go_at_call 66; refine (HX.out _ (bdrew (Below.refl _ _))).mono ?_; rintro e z ⟨rfl, hz⟩))
      have HBz := hid (btrans HBW.out (btrans (bdrew (Below.refl _ _)) hz))
      have HGz := hid (keepheap2 (btrans (bdrew (Below.refl _ _)) hz) G1.out)
      clear hz k0 k1 q1 d0 d1 d2
      cases xb
      · have HF : Hid (sb = false) := hid (by rw [HD3.out, HNOI.out rfl])
        go_wp2_with fail
        go_ret
        exact ⟨by rw [HF.out]; rfl, HBz.out⟩
      · have HF := hid (HNEXT.out rfl)
        go_wp2_with fail
        go_roundw
        case rel => exact ⟨i + 1, by go_num, by omega, HF, HGz, HBz⟩
        case measure => simp [intOf]; omega
    · have c1 : (tn : Int) ≤ (i : Int) := by omega
      have HF : Hid (sb = true) := hid (by rw [HD3.out]; exact HYE.out (fun m hm1 => HA.out m hm1 (by have := HN.out; omega)))
      go_wp2_with fail
      go_ret
      exact ⟨by rw [HF.out]; rfl, HBW.out⟩
set_option maxHeartbeats 1000000 in
theorem sz_store {N : Nat → Prop} (now : Int) (a ta : Option Addr) (cap tcap : Nat) (rs : List Rw) (ts : List Tx) (w : World) (hm : rs.length ≤ 9223372036854775807) (htm : ts.length ≤ 9223372036854775807) (hr : RwsL w a rs) (ht : Txs N 9223372036854775807 w ta ts) : Calls Tryz.prog 5 #[.agg #[.int .i64 now, .slice a rs.length cap, .slice ta ts.length tcap], .int .i64 1048576] w fun e w' => (∃ v : Int, e = .returned (.int .i64 v) ∧ (v = -1 ∨ (0 ≤ v ∧ v ≤ 1048576 ∧ Hid ((rs.length ≤ 1048576 ∧ ∀ m (h : m < rs.length), rs[m].2.2.2.2.length ≤ 1048576) ∧ txS ts)))) ∧ Below w.heap.size w w' := by
  have HR := hid (fun (W : World) (hb : Below w.heap.size w W) => sz_allL now a cap rs W hm (hr.below hb))
  have HT := hid (fun (W : World) (hb : Below w.heap.size w W) (l : Int) (h0 : 0 ≤ l) (h1 : l ≤ 1048576) => sz_txs ta tcap ts l W htm h0 h1 (ht.below hb))
  clear hr ht
  obtain ⟨G, hG⟩ : ∃ G : Prop, G = (rs.length ≤ 1048576 ∧ ∀ m (h : m < rs.length), rs[m].2.2.2.2.length ≤ 1048576) := ⟨_, rfl⟩
  obtain ⟨K, hK⟩ : ∃ K : Prop, K = txS ts := ⟨_, rfl⟩
  rw [← hG] at HR ⊢
  rw [← hK] at HT ⊢
  clear hG hK
  generalize rs.length = n at *
  generalize ts.length = tn at *
  have hB0 : Below w.heap.size w (w.alloc (.cells #[.int .i64 now, .slice a n cap, .slice ta tn tcap] 27)) := balloc (Below.refl _ _) _
  have g0 := new_alloc w w.heap.size (.cells #[.int .i64 now, .slice a n cap, .slice ta tn tcap] 27) rfl
  go_enter Tryz.func5, Tryz.ntmps5
  go_upto_region 1 with fail
  generalize w.alloc (.cells #[.int .i64 now, .slice a n cap, .slice ta tn tcap] 27) = W0 at *
  obtain ⟨⟨d0, d1, d2⟩, _⟩ := cellk3 g0
  go_wp2_with fail
  refine (HR.out _ hB0).mono ?_
  rintro e w1 ⟨⟨v, rfl, hv⟩, hb⟩
  have g1 := keepheap2 hb g0
  have hB := btrans hB0 hb
  clear g0 hB0 hb d0 d1 d2
  obtain ⟨⟨d0, d1, d2⟩, _⟩ := cellk3 g1
  rcases hv with rfl | ⟨hv0, hv1, HV⟩
  · go_wp2_with fail
    go_ret
    exact ⟨⟨_, rfl, .inl rfl⟩, hB⟩
  have hv2 : ¬ v < 0 := by omega
  go_wp2_with fail
  refine (HT.out _ hB v hv0 hv1).mono ?_
  rintro e w2 ⟨⟨u, rfl, hu⟩, hb⟩
  have hB2 := btrans hB hb
  clear hb d0 d1 d2
  rcases hu with rfl | ⟨hu0, hu1, HU⟩
  · go_wp2_with fail
    go_ret
    exact ⟨⟨_, rfl, .inl rfl⟩, hB2⟩
  · have hu2 : ¬ u < 0 := by omega
    go_wp2_with fail
    go_ret
    exact ⟨⟨_, rfl, .inr ⟨hu0, hu1, hid ⟨HV.out, HU.out⟩⟩⟩, hB2⟩
set_option maxHeartbeats 1000000 in
theorem eq_store {N1 N2 N3 N4 : Nat → Prop} (now : Int) (a1 a2 t1 t2 : Option Addr) (c1 c2 e1 e2 : Nat) (rs : List Rw) (ts : List Tx) (w : World) (hm : rs.length ≤ 1099511627776) (htm : ts.length ≤ 1099511627776) (r1 : Rws N1 w a1 rs) (r2 : Rws N2 w a2 rs) (x1 : Txs N3 1099511627776 w t1 ts) (x2 : Txs N4 1099511627776 w t2 ts) : Calls Tryz.prog 10 #[.agg #[.int .i64 now, .slice a1 rs.length c1, .slice t1 ts.length e1], .agg #[.int .i64 now, .slice a2 rs.length c2, .slice t2 ts.length e2]] w fun e w' => e = .returned (.bool true) ∧ Below w.heap.size w w' := by
  have HR := hid (fun (W : World) (hb : Below w.heap.size w W) => eq_rows now a1 a2 c1 c2 rs W hm (r1.below hb) (r2.below hb))
  have HT := hid (fun (W : World) (hb : Below w.heap.size w W) => eq_txs t1 t2 e1 e2 ts W htm (x1.below hb) (x2.below hb))
  clear r1 r2 x1 x2
  generalize rs.length = n at *
  generalize ts.length = tn at *
  have hB0 : Below w.heap.size w ((w.alloc (.cells #[.int .i64 now, .slice a1 n c1, .slice t1 tn e1] 39)).alloc (.cells #[.int .i64 now, .slice a2 n c2, .slice t2 tn e2] 39)) := balloc (balloc (Below.refl _ _) _) _
  have g0 := old_alloc (o' := .cells #[.int .i64 now, .slice a2 n c2, .slice t2 tn e2] 39) (new_alloc w w.heap.size (.cells #[.int .i64 now, .slice a1 n c1, .slice t1 tn e1] 39) rfl)
  have g1 := new_alloc (w.alloc (.cells #[.int .i64 now, .slice a1 n c1, .slice t1 tn e1] 39)) (w.heap.size + 1) (.cells #[.int .i64 now, .slice a2 n c2, .slice t2 tn e2] 39) (by simp)
  go_enter Tryz.func10, Tryz.ntmps10
  go_upto_region 1 with fail
  generalize (w.alloc (.cells #[.int .i64 now, .slice a1 n c1, .slice t1 tn e1] 39)).alloc (.cells #[.int .i64 now, .slice a2 n c2, .slice t2 tn e2] 39) = W0 at *
  obtain ⟨⟨d0, d1, d2⟩, _⟩ := cellk3 g0
  obtain ⟨⟨f0, f1, f2⟩, _⟩ := cellk3 g1
  go_wp2_with fail
  refine (HR.out _ hB0).mono ?_
  rintro e w1 ⟨rfl, hb⟩
  replace g0 := keepheap2 hb g0
  replace g1 := keepheap2 hb g1
  have hB := btrans hB0 hb
  clear hB0 hb d0 d1 d2 f0 f1 f2
  obtain ⟨⟨d0, d1, d2⟩, _⟩ := cellk3 g0
  obtain ⟨⟨f0, f1, f2⟩, _⟩ := cellk3 g1
  go_wp2_with fail
  refine (HT.out _ hB).mono ?_
  rintro e w2 ⟨rfl, hb⟩
  go_wp2_with fail
  go_ret
  exact ⟨rfl, btrans hB hb⟩
end Go.Proofs.YtafjjchebmldeaaGreatDoor
