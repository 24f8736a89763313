/- Touched, of both sides. -/
import Derived.Test.YtcecmnmonnhcfaaGreatRwJ
namespace Go.Proofs.YtcecmnmonnhcfaaGreat
open Go.RowKit
set_option linter.unusedSimpArgs false
set_option linter.unusedVariables false
def touch1 (id since : Int) (r : Rw) : Bool := decide (r.1 = id) && (decide (since < r.2.1) || decide (since < r.2.2.1))
def touchb (now : Int) (rs : List Rw) (id since : Int) : Bool := rowsb now rs && rs.any (touch1 id since)
set_option maxRecDepth 100000 in
set_option maxHeartbeats 4000000 in
theorem spec_Touched {N : Nat → Prop} (now : Int) (a : Option Addr) (cap : Nat) (rs : List Rw) (id since : Int) (w : World) (hm : rs.length ≤ 1099511627776) (h : Rws N w a rs) : Calls Tryz.prog 17 #[.agg #[.int .i64 now, .slice a rs.length cap], .int .i64 id, .int .i64 since] w fun e w' => e = .returned (.bool (touchb now rs id since)) ∧ Below w.heap.size w w' := by
  have HOK := hid (fun (W : World) (hb : Below w.heap.size w W) => spec_RowsOk now a cap rs W hm (h.below hb))
  have HR := hid h
  have HD := hid (show touchb now rs id since = (rowsb now rs && rs.any (touch1 id since)) from rfl)
  clear h
  obtain ⟨n, hn⟩ : ∃ n, n = rs.length := ⟨_, rfl⟩
  have HN := hid hn.symm
  rw [← hn] at hm HOK ⊢
  clear hn
  generalize touchb now rs id since = tb at *
  generalize rowsb now rs = ob at *
  go_enter Tryz.func17, Tryz.ntmps17
  go_upto_region 1 with fail
  have hBx : Below w.heap.size w (w.alloc (.cells #[.int .i64 now, .slice a n cap] 29)) := balloc (Below.refl _ _) _
  have g0 := new_alloc w w.heap.size (.cells #[.int .i64 now, .slice a n cap] 29) rfl
  generalize w.alloc (.cells #[.int .i64 now, .slice a n cap] 29) = W0 at *
  obtain ⟨d0, d1, _, _⟩ := cell2f g0
  cases ob
  · go_wp2_with fail
    refine (HOK.out _ hBx).mono ?_
    rintro e z ⟨rfl, hz⟩
    go_wp2_with fail
    go_ret
    exact ⟨by rw [HD.out]; rfl, btrans hBx hz⟩
  go_wp2_with fail
  refine (HOK.out _ hBx).mono ?_
  rintro e W ⟨rfl, hz⟩
  have g1 := keepheap2 hz g0
  have hB := btrans hBx hz
  clear g0 hBx hz d0 d1 HOK
  obtain ⟨d0, d1, _, _⟩ := cell2f g1
  go_wp2_with fail
  clear d0 d1
  go_loopw [7] (fun ti wr => ∃ i : Nat, ti = .int .i64 i ∧ i ≤ n ∧ Hid (∀ m (h : m < rs.length), m < i → touch1 id since rs[m] = false) ∧ Hid (wr.heap[w.heap.size]? = some (.cells #[.int .i64 now, .slice a n cap] 29 (0, 0))) ∧ Hid (Below w.heap.size w wr)) (fun ti _ => n - (intOf ti).toNat)
  case atStart => exact ⟨0, rfl, Nat.zero_le _, hid (fun m h hh => absurd hh (by omega)), hid g1, hid hB⟩
  case round =>
    clear g1 hB
    obtain ⟨i, rfl, hi, HA, G1, HBW⟩ := hrel
    obtain ⟨d0, d1, _, _⟩ := cell2f G1.out
    by_cases hlt : i < n
    · have c1 : (i : Int) < (n : Int) := by omega
      have hir : i < rs.length := by rw [HN.out]; exact hlt
      obtain ⟨b, o, rfl, hbs, a', cap', k0, k1, k2, k3, k4, k5, k6, k7, _⟩ := (HR.out.below HBW.out).at i hir
      have HT := hid (show touch1 id since rs[i] = (decide (rs[i].1 = id) && (decide (since < rs[i].2.1) || decide (since < rs[i].2.2.1))) from rfl)
      have HYES : Hid (touch1 id since rs[i] = true → tb = true) := hid (fun e => by
        rw [HD.out, Bool.true_and, List.any_eq_true]
        exact ⟨rs[i], List.getElem_mem hir, e⟩)
      have HNEXT : Hid (touch1 id since rs[i] = false → ∀ m (h : m < rs.length), m < i + 1 → touch1 id since rs[m] = false) := hid (fun e1 m h hm => by
        by_cases e : m = i
        · subst e; exact e1
        · exact HA.out m h (by omega))
      clear k5 k6 k7
      generalize touch1 id since rs[i] = q at HT HYES HNEXT
      generalize rs[i].1 = id2 at *
      generalize rs[i].2.1 = fr at *
      generalize rs[i].2.2.1 = te at *
      generalize rs[i].2.2.2.1 = kd at *
      generalize rs[i].2.2.2.2.length = np at *
      go_upto_region 7 with fail
      have hBx : Below wr.heap.size wr (wr.alloc (.cells #[.int .i64 id2, .int .i64 fr, .int .i64 te, .int .i64 kd, .slice a' np cap'] 45)) := balloc (Below.refl _ _) _
      have gx := new_alloc wr wr.heap.size (.cells #[.int .i64 id2, .int .i64 fr, .int .i64 te, .int .i64 kd, .slice a' np cap'] 45) rfl
      have g1 := keepheap2 hBx G1.out
      have hB := btrans HBW.out hBx
      clear d0 d1 k0 k1 k2 k3 k4
      generalize wr.alloc (.cells #[.int .i64 id2, .int .i64 fr, .int .i64 te, .int .i64 kd, .slice a' np cap'] 45) = W1 at *
      obtain ⟨⟨x0, x1, x2, x3, x4⟩, _⟩ := cell5g gx
      have HG := hid g1
      have HB2 := hid hB
      clear gx g1 hB hBx
      cases qi : (id2 == id)
      · have hq : q = false := by rw [HT.out, show decide (id2 = id) = false by simpa using qi]; rfl
        have HF := hid (HNEXT.out hq)
        clear hq
        go_wp2_with fail
        go_roundw
        case rel => exact ⟨i + 1, by go_num, by omega, HF, HG, HB2⟩
        case measure => simp [intOf]; omega
      have he : decide (id2 = id) = true := by simpa using qi
      by_cases h1 : since < fr
      · have HF := hid (HYES.out (by rw [HT.out, he, show decide (since < fr) = true by simpa using h1]; rfl))
        go_wp2_with fail
        go_ret
        exact ⟨by rw [HF.out]; rfl, HB2.out⟩
      · have h1' : decide (since < fr) = false := by simpa using h1
        have h1'' : fr ≤ since := by omega
        by_cases h2 : since < te
        · have HF := hid (HYES.out (by rw [HT.out, he, h1', show decide (since < te) = true by simpa using h2]; rfl))
          go_wp2_with fail
          go_ret
          exact ⟨by rw [HF.out]; rfl, HB2.out⟩
        · have h2' : decide (since < te) = false := by simpa using h2
          have h2'' : te ≤ since := by omega
          have HF := hid (HNEXT.out (by rw [HT.out, he, h1', h2']; rfl))
          go_wp2_with fail
          go_roundw
          case rel => exact ⟨i + 1, by go_num, by omega, HF, HG, HB2⟩
          case measure => simp [intOf]; omega
    · have HF := hid (show tb = false by
        rw [HD.out, Bool.true_and, List.any_eq_false]
        intro x hx
        obtain ⟨m, hm1, rfl⟩ := List.mem_iff_getElem.1 hx
        have := HA.out m hm1 (by rw [HN.out] at hm1; omega)
        rw [this]; simp)
      have c1 : (n : Int) ≤ (i : Int) := by omega
      go_wp2_with fail
      go_ret
      exact ⟨by rw [HF.out]; rfl, HBW.out⟩
set_option maxRecDepth 100000 in
set_option maxHeartbeats 4000000 in
theorem impl_Touched {N : Nat → Prop} (now : Int) (a : Option Addr) (cap : Nat) (rs : List Rw) (id since : Int) (w : World) (hm : rs.length ≤ 1099511627776) (h : Rws N w a rs) : Calls Tryz.prog 18 #[.agg #[.int .i64 now, .slice a rs.length cap], .int .i64 id, .int .i64 since] w fun e w' => e = .returned (.bool (touchb now rs id since)) ∧ Below w.heap.size w w' := by
  have HOK := hid (fun (W : World) (hb : Below w.heap.size w W) => impl_RowsOk now a cap rs W hm (h.below hb))
  have HR := hid h
  have HD := hid (show touchb now rs id since = (rowsb now rs && rs.any (touch1 id since)) from rfl)
  clear h
  obtain ⟨n, hn⟩ : ∃ n, n = rs.length := ⟨_, rfl⟩
  have HN := hid hn.symm
  rw [← hn] at hm HOK ⊢
  clear hn
  generalize touchb now rs id since = tb at *
  generalize rowsb now rs = ob at *
  go_enter Tryz.func18, Tryz.ntmps18
  go_upto_region 1 with fail
  have hBx : Below w.heap.size w (w.alloc (.cells #[.int .i64 now, .slice a n cap] 29)) := balloc (Below.refl _ _) _
  have g0 := new_alloc w w.heap.size (.cells #[.int .i64 now, .slice a n cap] 29) rfl
  generalize w.alloc (.cells #[.int .i64 now, .slice a n cap] 29) = W0 at *
  obtain ⟨d0, d1, _, _⟩ := cell2f g0
  cases ob
  · go_wp2_with fail
    refine (HOK.out _ hBx).mono ?_
    rintro e z ⟨rfl, hz⟩
    go_wp2_with fail
    go_ret
    exact ⟨by rw [HD.out]; rfl, btrans hBx hz⟩
  go_wp2_with fail
  refine (HOK.out _ hBx).mono ?_
  rintro e W ⟨rfl, hz⟩
  have g1 := keepheap2 hz g0
  have hB := btrans hBx hz
  clear g0 hBx hz d0 d1 HOK
  obtain ⟨d0, d1, _, _⟩ := cell2f g1
  go_wp2_with fail
  clear d0 d1
  go_loopw [15] (fun ti wr => ∃ i : Nat, ti = .int .i64 i ∧ i ≤ n ∧ Hid (∀ m (h : m < rs.length), m < i → touch1 id since rs[m] = false) ∧ Hid (wr.heap[w.heap.size]? = some (.cells #[.int .i64 now, .slice a n cap] 29 (0, 0))) ∧ Hid (Below w.heap.size w wr)) (fun ti _ => n - (intOf ti).toNat)
  case atStart => exact ⟨0, rfl, Nat.zero_le _, hid (fun m h hh => absurd hh (by omega)), hid g1, hid hB⟩
  case round =>
    clear g1 hB
    obtain ⟨i, rfl, hi, HA, G1, HBW⟩ := hrel
    obtain ⟨d0, d1, _, _⟩ := cell2f G1.out
    by_cases hlt : i < n
    · have c1 : (i : Int) < (n : Int) := by omega
      have hir : i < rs.length := by rw [HN.out]; exact hlt
      obtain ⟨b, o, rfl, hbs, a', cap', k0, k1, k2, k3, k4, k5, k6, k7, _⟩ := (HR.out.below HBW.out).at i hir
      have HT := hid (show touch1 id since rs[i] = (decide (rs[i].1 = id) && (decide (since < rs[i].2.1) || decide (since < rs[i].2.2.1))) from rfl)
      have HYES : Hid (touch1 id since rs[i] = true → tb = true) := hid (fun e => by
        rw [HD.out, Bool.true_and, List.any_eq_true]
        exact ⟨rs[i], List.getElem_mem hir, e⟩)
      have HNEXT : Hid (touch1 id since rs[i] = false → ∀ m (h : m < rs.length), m < i + 1 → touch1 id since rs[m] = false) := hid (fun e1 m h hm => by
        by_cases e : m = i
        · subst e; exact e1
        · exact HA.out m h (by omega))
      clear k5 k6 k7
      generalize touch1 id since rs[i] = q at HT HYES HNEXT
      generalize rs[i].1 = id2 at *
      generalize rs[i].2.1 = fr at *
      generalize rs[i].2.2.1 = te at *
      generalize rs[i].2.2.2.1 = kd at *
      generalize rs[i].2.2.2.2.length = np at *
      go_upto_region 6 with fail
      have hBx : Below wr.heap.size wr (wr.alloc (.cells #[.int .i64 id2, .int .i64 fr, .int .i64 te, .int .i64 kd, .slice a' np cap'] 45)) := balloc (Below.refl _ _) _
      have gx := new_alloc wr wr.heap.size (.cells #[.int .i64 id2, .int .i64 fr, .int .i64 te, .int .i64 kd, .slice a' np cap'] 45) rfl
      have g1 := keepheap2 hBx G1.out
      have hB := btrans HBW.out hBx
      clear d0 d1 k0 k1 k2 k3 k4
      generalize wr.alloc (.cells #[.int .i64 id2, .int .i64 fr, .int .i64 te, .int .i64 kd, .slice a' np cap'] 45) = W1 at *
      obtain ⟨⟨x0, x1, x2, x3, x4⟩, _⟩ := cell5g gx
      have HG := hid g1
      have HB2 := hid hB
      clear gx g1 hB hBx
      cases qi : (id2 == id)
      · have hq : q = false := by rw [HT.out, show decide (id2 = id) = false by simpa using qi]; rfl
        have HF := hid (HNEXT.out hq)
        clear hq
        go_wp2_with fail
        go_roundw
        case rel => exact ⟨i + 1, by go_num, by omega, HF, HG, HB2⟩
        case measure => simp [intOf]; omega
      have he : decide (id2 = id) = true := by simpa using qi
      by_cases h1 : since < fr
      · have HF := hid (HYES.out (by rw [HT.out, he, show decide (since < fr) = true by simpa using h1]; rfl))
        go_wp2_with fail
        go_ret
        exact ⟨by rw [HF.out]; rfl, HB2.out⟩
      · have h1' : decide (since < fr) = false := by simpa using h1
        have h1'' : fr ≤ since := by omega
        by_cases h2 : since < te
        · have HF := hid (HYES.out (by rw [HT.out, he, h1', show decide (since < te) = true by simpa using h2]; rfl))
          go_wp2_with fail
          go_ret
          exact ⟨by rw [HF.out]; rfl, HB2.out⟩
        · have h2' : decide (since < te) = false := by simpa using h2
          have h2'' : te ≤ since := by omega
          have HF := hid (HNEXT.out (by rw [HT.out, he, h1', h2']; rfl))
          go_wp2_with fail
          go_roundw
          case rel => exact ⟨i + 1, by go_num, by omega, HF, HG, HB2⟩
          case measure => simp [intOf]; omega
    · have HF := hid (show tb = false by
        rw [HD.out, Bool.true_and, List.any_eq_false]
        intro x hx
        obtain ⟨m, hm1, rfl⟩ := List.mem_iff_getElem.1 hx
        have := HA.out m hm1 (by rw [HN.out] at hm1; omega)
        rw [this]; simp)
      have c1 : (n : Int) ≤ (i : Int) := by omega
      go_wp2_with fail
      go_ret
      exact ⟨by rw [HF.out]; rfl, HBW.out⟩
end Go.Proofs.YtcecmnmonnhcfaaGreat
