/- Whether rows are right: the landed side, whole. -/
import Derived.Test.YtfajjnkkablneaaGreatDoorRwI
namespace Go.Proofs.YtfajjnkkablneaaGreatDoor
open Go.RowKit
set_option linter.unusedSimpArgs false
set_option linter.unusedVariables false
set_option maxRecDepth 100000 in
set_option maxHeartbeats 2000000 in
theorem impl_right (now : Int) (r : Rw) (a : Option Addr) (cap : Nat) (w : World) (hm : r.2.2.2.2.length ≤ 1099511627776) (hc : r.2.2.2.2.length ≤ cap) (h : Pts w a r.2.2.2.2) : Calls Tryz.prog 47 #[rwv r a cap, .int .i64 now] w fun e w' => e = .returned (.bool (rowb now r)) ∧ Below w.heap.size w w' := by
  obtain ⟨id, fr, te, kd, ps⟩ := r
  have HS := hid (fun (W : World) (hb : Below w.heap.size w W) => impl_ShapeOk kd a cap ps W hm hc (h.below hb))
  have HID := hid (fun w => impl_id id w)
  have HRB := hid (show rowb now (id, fr, te, kd, ps) = (idb id && (decide (1 ≤ fr) && decide (fr ≤ now)) && (decide (te = 0) || (decide (fr < te) && decide (te ≤ now))) && shok kd ps) from rfl)
  unfold rwv
  unfold shv at HS
  simp only
  clear h hm hc
  generalize rowb now (id, fr, te, kd, ps) = rb at *
  generalize shok kd ps = so at *
  generalize ps.length = n at *
  generalize idb id = ib at *
  generalize hE : (decide (te = 0) || (decide (fr < te) && decide (te ≤ now))) = E at *
  go_enter Tryz.func47, Tryz.ntmps47
  go_upto_region 1 with fail
  have hBx : Below w.heap.size w (w.alloc (.cells #[.int .i64 id, .int .i64 fr, .int .i64 te, .int .i64 kd, .slice a n cap] 50)) := balloc (Below.refl _ _) _
  have gx := new_alloc w w.heap.size (.cells #[.int .i64 id, .int .i64 fr, .int .i64 te, .int .i64 kd, .slice a n cap] 50) rfl
  generalize w.alloc (.cells #[.int .i64 id, .int .i64 fr, .int .i64 te, .int .i64 kd, .slice a n cap] 50) = W1 at *
  obtain ⟨⟨x0, x1, x2, x3, x4⟩, _⟩ := cell5g gx
  go_cut [5] from 6 to 21 (fun t wx => t = .bool E ∧ wx = W1)
  case first =>
    by_cases h1 : te = 0
    · have q1 : (te == 0) = true := by simpa using h1
      go_wp2_with fail
      go_meet
      exact ⟨by rw [← hE]; simp [h1], rfl⟩
    · have q1 : (te == 0) = false := by simpa using h1
      by_cases h2 : fr < te
      · go_wp2_with fail
        go_meet
        exact ⟨by rw [← hE]; simp [h1, h2], rfl⟩
      · have q2 : decide (fr < te) = false := by simpa using h2
        have q3 : te ≤ fr := by omega
        go_wp2_with fail
        go_meet
        exact ⟨by rw [← hE, q2]; simp [h1], rfl⟩
  case rest =>
    obtain ⟨rfl, rfl⟩ := hcut
    clear hE
    cases ib
    · go_wp2_with fail
      refine (HID.out _).mono ?_
      rintro e z ⟨rfl, hw⟩
      replace hw := hw.symm
      subst hw
      go_wp2_with fail
      go_ret
      exact ⟨by rw [HRB.out]; rfl, hBx⟩
    by_cases h1 : 1 ≤ fr
    · by_cases h2 : fr ≤ now
      · cases E
        · go_wp2_with fail
          refine (HID.out _).mono ?_
          rintro e z ⟨rfl, hw⟩
          replace hw := hw.symm
          subst hw
          go_wp2_with fail
          go_ret
          exact ⟨by rw [HRB.out]; simp [h1, h2], hBx⟩
        · go_wp2_with fail
          refine (HID.out _).mono ?_
          rintro e z ⟨rfl, hw⟩
          replace hw := hw.symm
          subst hw
          go_wp2_with fail
          refine (HS.out _ hBx).mono ?_
          rintro e z ⟨rfl, hz⟩
          go_wp2_with fail
          go_ret
          exact ⟨by rw [HRB.out]; simp [h1, h2], btrans hBx hz⟩
      · have q2 : decide (fr ≤ now) = false := by simpa using h2
        have q3 : now < fr := by omega
        go_wp2_with fail
        refine (HID.out _).mono ?_
        rintro e z ⟨rfl, hw⟩
        replace hw := hw.symm
        subst hw
        go_wp2_with fail
        go_ret
        exact ⟨by rw [HRB.out, q2]; simp, hBx⟩
    · have q2 : decide (1 ≤ fr) = false := by simpa using h1
      have q3 : fr < 1 := by omega
      go_wp2_with fail
      refine (HID.out _).mono ?_
      rintro e z ⟨rfl, hw⟩
      replace hw := hw.symm
      subst hw
      go_wp2_with fail
      go_ret
      exact ⟨by rw [HRB.out, q2]; simp, hBx⟩
theorem els_of_rows {N : Nat → Prop} {w : World} {b o : Nat} (rs : List Rw) (h : RwsAt N w b o rs) : ∃ xs : List El, xs.length = rs.length ∧ xs.map trE = rs.map tr ∧ ElsAt w b o xs := by
  have hex : ∀ j : Nat, ∃ x : El, ∀ (hj : j < rs.length), trE x = tr rs[j] ∧ w.cell? ⟨b, o + j * 5, none⟩ = some (.int .i64 x.1) ∧ w.cell? ⟨b, o + j * 5 + 1, none⟩ = some (.int .i64 x.2.1) ∧ w.cell? ⟨b, o + j * 5 + 2, none⟩ = some (.int .i64 x.2.2.1) ∧ w.cell? ⟨b, o + j * 5 + 3, none⟩ = some (.int .i64 x.2.2.2.1) ∧ w.cell? ⟨b, o + j * 5 + 4, none⟩ = some (.slice x.2.2.2.2.1 x.2.2.2.2.2.1 x.2.2.2.2.2.2) := by
    intro j
    by_cases hj : j < rs.length
    · obtain ⟨a, cap, k0, k1, k2, k3, k4, _⟩ := h j hj
      exact ⟨(rs[j].1, rs[j].2.1, rs[j].2.2.1, rs[j].2.2.2.1, a, rs[j].2.2.2.2.length, cap), fun _ => ⟨rfl, k0, k1, k2, k3, k4⟩⟩
    · exact ⟨(0, 0, 0, 0, none, 0, 0), fun h' => absurd h' hj⟩
  have ⟨f, hf⟩ := Classical.axiomOfChoice hex
  refine ⟨(List.range rs.length).map f, by simp, ?_, ?_⟩
  · apply List.ext_getElem (by simp)
    intro j h1 h2
    simp only [List.length_map] at h2
    simp only [List.getElem_map, List.getElem_range]
    exact (hf j h2).1
  · intro j hj
    simp only [List.length_map, List.length_range] at hj
    have e : ((List.range rs.length).map f)[j]'(by simpa using hj) = f j := by simp
    rw [e]
    exact (hf j hj).2
theorem apart_rows {N : Nat → Prop} (now : Int) (a : Option Addr) (cap : Nat) (rs : List Rw) (w : World) (hl : rs.length ≤ 300) (h : Rws N w a rs) (hr : ∀ m (h : m < rs.length), rowb now rs[m] = true) : Calls Tryz.prog 48 #[.slice a rs.length cap] w fun e w' => e = .returned (.bool (apartR (rs.map tr))) ∧ Below w.heap.size w w' := by
  by_cases h0 : rs.length = 0
  · have e : rs = [] := List.eq_nil_of_length_eq_zero h0
    subst e
    exact rows_apart0 a cap w
  · rcases h with h | ⟨b, o, rfl, hb, hA⟩
    · subst h; exact absurd rfl h0
    · obtain ⟨xs, h1, h2, h3⟩ := els_of_rows rs hA
      rw [← h1, ← h2]
      refine rows_apart b o cap xs w (by omega) (by omega) hb h3 (fun x hx => ?_)
      have hm : trE x ∈ rs.map tr := by rw [← h2]; exact List.mem_map_of_mem hx
      obtain ⟨r, hr1, hr2⟩ := List.mem_map.1 hm
      rw [← hr2]
      obtain ⟨m, hm1, rfl⟩ := List.mem_iff_getElem.1 hr1
      have := hr m hm1
      unfold rowb at this
      simp only [Bool.and_eq_true] at this
      exact rwb_tmb this.1
set_option maxRecDepth 100000 in
set_option maxHeartbeats 4000000 in
theorem impl_RowsOk {N : Nat → Prop} (now : Int) (a : Option Addr) (cap : Nat) (rs : List Rw) (w : World) (hm : rs.length ≤ 1099511627776) (h : Rws N w a rs) : Calls Tryz.prog 29 #[.agg #[.int .i64 now, .slice a rs.length cap]] w fun e w' => e = .returned (.bool (rowsb now rs)) ∧ Below w.heap.size w w' := by
  have HAP := hid (fun (W : World) (hb : Below w.heap.size w W) (hl : rs.length ≤ 300) (hr : ∀ m (h : m < rs.length), rowb now rs[m] = true) => apart_rows now a cap rs W hl (h.below hb) hr)
  have HR := hid h
  clear h
  obtain ⟨n, hn⟩ : ∃ n, n = rs.length := ⟨_, rfl⟩
  have HN := hid hn.symm
  rw [← hn] at hm ⊢
  clear hn
  by_cases h0 : now < 0
  · rw [rowsb_now h0]
    go_enter Tryz.func29, Tryz.ntmps29
    go_wp2_with fail
    go_ret
    exact ⟨rfl, balloc (Below.refl _ _) _⟩
  by_cases hl : 300 < n
  · rw [rowsb_long (by rw [HN.out]; exact hl)]
    have hl' : (300 : Int) < (n : Int) := by omega
    go_enter Tryz.func29, Tryz.ntmps29
    go_wp2_with fail
    go_ret
    exact ⟨rfl, balloc (Below.refl _ _) _⟩
  have hl' : (n : Int) ≤ 300 := by omega
  have hld : decide ((300 : Int) < (n : Int)) = false := by rw [decide_eq_false_iff_not]; omega
  go_enter Tryz.func29, Tryz.ntmps29
  go_wp2_with fail
  have g1 := new_alloc w w.heap.size (.cells #[.int .i64 now, .slice a n cap] 29) rfl
  have hB := balloc (Below.refl w.heap.size w) (.cells #[.int .i64 now, .slice a n cap] 29)
  generalize w.alloc (.cells #[.int .i64 now, .slice a n cap] 29) = W at *
  clear hld
  go_loopw [17] (fun ti wr => ∃ i : Nat, ti = .int .i64 i ∧ i ≤ n ∧ Hid (∀ m (h : m < rs.length), m < i → rowb now rs[m] = true) ∧ Hid (wr.heap[w.heap.size]? = some (.cells #[.int .i64 now, .slice a n cap] 29 (0, 0))) ∧ Hid (Below w.heap.size w wr)) (fun ti _ => n - (intOf ti).toNat)
  case atStart => exact ⟨0, rfl, Nat.zero_le _, hid (fun m h hh => absurd hh (by omega)), hid g1, hid hB⟩
  case round =>
    clear g1 hB
    obtain ⟨i, rfl, hi, HA, G1, HBW⟩ := hrel
    obtain ⟨d0, d1, _, _⟩ := cell2f G1.out
    by_cases hlt : i < n
    · have c1 : (i : Int) < (n : Int) := by omega
      have hir : i < rs.length := by rw [HN.out]; exact hlt
      obtain ⟨b, o, rfl, hbs, a', cap', k0, k1, k2, k3, k4, k5, k6, k7, _⟩ := (HR.out.below HBW.out).at i hir
      have HRI := hid (fun (W : World) (hb : Below wr.heap.size wr W) => impl_right now rs[i] a' cap' W k6 k5 (k7.below hb))
      unfold rwv at HRI
      have HRF := hid (fun (hr : rowb now rs[i] = false) => rowsb_row (now := now) hir hr)
      clear k5 k6 k7
      have HROW : Hid (∀ rb, rowb now rs[i] = rb → rb = true → ∀ m (h : m < rs.length), m < i + 1 → rowb now rs[m] = true) := hid (fun rb e1 e2 m h hm => by
        by_cases e : m = i
        · subst e; rw [e1, e2]
        · exact HA.out m h (by omega))
      have hrow : ∃ rb, rowb now rs[i] = rb := ⟨_, rfl⟩
      obtain ⟨rb, hrb⟩ := hrow
      have HR2 := hid (HROW.out rb hrb)
      have HR3 : Hid (rb = false → rowsb now rs = false) := hid (fun e => HRF.out (by rw [hrb, e]))
      rw [hrb] at HRI
      clear hrb HROW HRF
      generalize rs[i].1 = id at *
      generalize rs[i].2.1 = fr at *
      generalize rs[i].2.2.1 = te at *
      generalize rs[i].2.2.2.1 = kd at *
      generalize rs[i].2.2.2.2.length = np at *
      go_upto_region 6 with fail
      have hBx : Below wr.heap.size wr (wr.alloc (.cells #[.int .i64 id, .int .i64 fr, .int .i64 te, .int .i64 kd, .slice a' np cap'] 50)) := balloc (Below.refl _ _) _
      have gx := new_alloc wr wr.heap.size (.cells #[.int .i64 id, .int .i64 fr, .int .i64 te, .int .i64 kd, .slice a' np cap'] 50) rfl
      have g1 := keepheap2 hBx G1.out
      have hB := btrans HBW.out hBx
      clear d0 d1 k0 k1 k2 k3 k4
      generalize wr.alloc (.cells #[.int .i64 id, .int .i64 fr, .int .i64 te, .int .i64 kd, .slice a' np cap'] 50) = W1 at *
      obtain ⟨⟨x0, x1, x2, x3, x4⟩, _⟩ := cell5g gx
      obtain ⟨d0, d1, _, _⟩ := cell2f g1
      cases rb
      · go_wp2_with fail
        refine (HRI.out _ hBx).mono ?_
        rintro e z ⟨rfl, hz⟩
        have HF := hid (HR3.out trivial)
        go_wp2_with fail
        go_ret
        exact ⟨by rw [HF.out]; rfl, btrans hB hz⟩
      · go_wp2_with fail
        refine (HRI.out _ hBx).mono ?_
        rintro e z ⟨rfl, hz⟩
        have HF := hid (HR2.out trivial)
        have G2 := hid (keepheap2 hz g1)
        have HB2 := hid (btrans hB hz)
        clear hz hB gx g1 x0 x1 x2 x3 x4 d0 d1
        go_wp2_with fail
        go_roundw
        case rel => exact ⟨i + 1, by go_num, by omega, HF, G2, HB2⟩
        case measure => simp [intOf]; omega
    · have hall : ∀ m (h : m < rs.length), rowb now rs[m] = true := fun m h => HA.out m h (by rw [HN.out] at h; omega)
      have HF := hid (show rowsb now rs = apartR (rs.map tr) by
        unfold rowsb
        have e1 : decide (0 ≤ now) = true := by simpa using (show 0 ≤ now by omega)
        have e2 : decide (rs.length ≤ 300) = true := by rw [HN.out]; simpa using (show n ≤ 300 by omega)
        have e3 : rs.all (rowb now) = true := by
          rw [List.all_eq_true]
          intro x hx
          obtain ⟨m, hm1, rfl⟩ := List.mem_iff_getElem.1 hx
          exact hall m hm1
        rw [e1, e2, e3]
        rfl)
      have hcc := HAP.out wr HBW.out (by rw [HN.out]; omega) hall
      rw [HN.out] at hcc
      have HC := hid hcc
      clear hcc
      have c1 : (n : Int) ≤ (i : Int) := by omega
      clear hall
      go_wp2_with fail
      refine HC.out.mono ?_
      rintro e z ⟨rfl, hz⟩
      go_wp2_with fail
      go_ret
      exact ⟨by rw [HF.out]; rfl, btrans HBW.out hz⟩
end Go.Proofs.YtfajjnkkablneaaGreatDoor
