/- Texts of stores, joined: RwU, RwA1. -/
import Derived.Test.YtfognoicnkphpaaGreatJ8
import Derived.Test.YtfognoicnkphpaaGreatJ9
import Derived.Test.YtfognoicnkphpaaGreatJ2
namespace Go.Proofs.YtfognoicnkphpaaGreat
open Go.RowKit
set_option linter.unusedSimpArgs false
set_option linter.unusedVariables false
def touch1 (id since : Int) (r : Rw) : Bool := decide (r.1 = id) && (decide (since < r.2.1) || decide (since < r.2.2.1))
def touchb (now : Int) (rs : List Rw) (id since : Int) : Bool := rowsb now rs && rs.any (touch1 id since)
set_option maxRecDepth 100000 in
set_option maxHeartbeats 4000000 in
theorem spec_Touched {N : Nat → Prop} (now : Int) (a : Option Addr) (cap : Nat) (rs : List Rw) (id since : Int) (w : World) (hm : rs.length ≤ 1099511627776) (h : Rws N w a rs) : Calls Tryz.prog 21 #[.agg #[.int .i64 now, .slice a rs.length cap], .int .i64 id, .int .i64 since] w fun e w' => e = .returned (.bool (touchb now rs id since)) ∧ Below w.heap.size w w' := by
  have HOK := hid (fun (W : World) (hb : Below w.heap.size w W) => spec_RowsOk now a cap rs W hm (h.below hb))
  have HR := hid h
  have HD := hid (show touchb now rs id since = (rowsb now rs && rs.any (touch1 id since)) from rfl)
  clear h
  obtain ⟨n, hn⟩ : ∃ n, n = rs.length := ⟨_, rfl⟩
  have HN := hid hn.symm
  rw [← hn] at hm HOK ⊢
  clear hn
  generalize touchb now rs id since = tb at *
  generalize rowsb now rs = ob at *
  go_enter Tryz.func21, Tryz.ntmps21
  go_upto_region 1 with fail
  have hBx : Below w.heap.size w (w.alloc (.cells #[.int .i64 now, .slice a n cap] 26)) := balloc (Below.refl _ _) _
  have g0 := new_alloc w w.heap.size (.cells #[.int .i64 now, .slice a n cap] 26) rfl
  generalize w.alloc (.cells #[.int .i64 now, .slice a n cap] 26) = W0 at *
  obtain ⟨d0, d1, _, _⟩ := cell2f g0
  cases ob
  · go_wp2_with fail
    refine (HOK.out _ hBx).mono ?_
    rintro e z ⟨rfl, hz⟩
    go_wp2_with fail
    go_ret
    exact ⟨by rw [HD.out]; rfl, btrans hBx hz⟩
  go_wp2_with fail
  refine (HOK.out _ hBx).mono ?_
  rintro e W ⟨rfl, hz⟩
  have g1 := keepheap2 hz g0
  have hB := btrans hBx hz
  clear g0 hBx hz d0 d1 HOK
  obtain ⟨d0, d1, _, _⟩ := cell2f g1
  go_wp2_with fail
  clear d0 d1
  go_loopw [7] (fun ti wr => ∃ i : Nat, ti = .int .i64 i ∧ i ≤ n ∧ Hid (∀ m (h : m < rs.length), m < i → touch1 id since rs[m] = false) ∧ Hid (wr.heap[w.heap.size]? = some (.cells #[.int .i64 now, .slice a n cap] 26 (0, 0))) ∧ Hid (Below w.heap.size w wr)) (fun ti _ => n - (intOf ti).toNat)
  case atStart => exact ⟨0, rfl, Nat.zero_le _, hid (fun m h hh => absurd hh (by omega)), hid g1, hid hB⟩
  case round =>
    clear g1 hB
    obtain ⟨i, rfl, hi, HA, G1, HBW⟩ := hrel
    obtain ⟨d0, d1, _, _⟩ := cell2f G1.out
    by_cases hlt : i < n
    · have c1 : (i : Int) < (n : Int) := by omega
      have hir : i < rs.length := by rw [HN.out]; exact hlt
      obtain ⟨b, o, rfl, hbs, a', cap', k0, k1, k2, k3, k4, k5, k6, k7, _⟩ := (HR.out.below HBW.out).at i hir
      have HT := hid (show touch1 id since rs[i] = (decide (rs[i].1 = id) && (decide (since < rs[i].2.1) || decide (since < rs[i].2.2.1))) from rfl)
      have HYES : Hid (touch1 id since rs[i] = true → tb = true) := hid (fun e => by
        rw [HD.out, Bool.true_and, List.any_eq_true]
        exact ⟨rs[i], List.getElem_mem hir, e⟩)
      have HNEXT : Hid (touch1 id since rs[i] = false → ∀ m (h : m < rs.length), m < i + 1 → touch1 id since rs[m] = false) := hid (fun e1 m h hm => by
        by_cases e : m = i
        · subst e; exact e1
        · exact HA.out m h (by omega))
      clear k5 k6 k7
      generalize touch1 id since rs[i] = q at HT HYES HNEXT
      generalize rs[i].1 = id2 at *
      generalize rs[i].2.1 = fr at *
      generalize rs[i].2.2.1 = te at *
      generalize rs[i].2.2.2.1 = kd at *
      generalize rs[i].2.2.2.2.length = np at *
      go_upto_region 7 with fail
      have hBx : Below wr.heap.size wr (wr.alloc (.cells #[.int .i64 id2, .int .i64 fr, .int .i64 te, .int .i64 kd, .slice a' np cap'] 61)) := balloc (Below.refl _ _) _
      have gx := new_alloc wr wr.heap.size (.cells #[.int .i64 id2, .int .i64 fr, .int .i64 te, .int .i64 kd, .slice a' np cap'] 61) rfl
      have g1 := keepheap2 hBx G1.out
      have hB := btrans HBW.out hBx
      clear d0 d1 k0 k1 k2 k3 k4
      generalize wr.alloc (.cells #[.int .i64 id2, .int .i64 fr, .int .i64 te, .int .i64 kd, .slice a' np cap'] 61) = W1 at *
      obtain ⟨⟨x0, x1, x2, x3, x4⟩, _⟩ := cell5g gx
      have HG := hid g1
      have HB2 := hid hB
      clear gx g1 hB hBx
      cases qi : (id2 == id)
      · have hq : q = false := by rw [HT.out, show decide (id2 = id) = false by simpa using qi]; rfl
        have HF := hid (HNEXT.out hq)
        clear hq
        go_wp2_with fail
        go_roundw
        case rel => exact ⟨i + 1, by go_num, by omega, HF, HG, HB2⟩
        case measure => simp [intOf]; omega
      have he : decide (id2 = id) = true := by simpa using qi
      by_cases h1 : since < fr
      · have HF := hid (HYES.out (by rw [HT.out, he, show decide (since < fr) = true by simpa using h1]; rfl))
        go_wp2_with fail
        go_ret
        exact ⟨by rw [HF.out]; rfl, HB2.out⟩
      · have h1' : decide (since < fr) = false := by simpa using h1
        have h1'' : fr ≤ since := by omega
        by_cases h2 : since < te
        · have HF := hid (HYES.out (by rw [HT.out, he, h1', show decide (since < te) = true by simpa using h2]; rfl))
          go_wp2_with fail
          go_ret
          exact ⟨by rw [HF.out]; rfl, HB2.out⟩
        · have h2' : decide (since < te) = false := by simpa using h2
          have h2'' : te ≤ since := by omega
          have HF := hid (HNEXT.out (by rw [HT.out, he, h1', h2']; rfl))
          go_wp2_with fail
          go_roundw
          case rel => exact ⟨i + 1, by go_num, by omega, HF, HG, HB2⟩
          case measure => simp [intOf]; omega
    · have HF := hid (show tb = false by
        rw [HD.out, Bool.true_and, List.any_eq_false]
        intro x hx
        obtain ⟨m, hm1, rfl⟩ := List.mem_iff_getElem.1 hx
        have := HA.out m hm1 (by rw [HN.out] at hm1; omega)
        rw [this]; simp)
      have c1 : (n : Int) ≤ (i : Int) := by omega
      go_wp2_with fail
      go_ret
      exact ⟨by rw [HF.out]; rfl, HBW.out⟩
theorem makeFn (fn : Fn) (first cap : Array Value) (w : World) : (Instr.makeFunc fn first cap).run Tryz.prog w = .ok (.func fn first cap) w := rfl
set_option maxHeartbeats 1000000 in
theorem row_touched (r : Rw) (a : Option Addr) (cap : Nat) (t : Int) (w : World) : Calls Tryz.prog 76 #[rwv r a cap, .int .i64 t] w fun e w' => e = .returned (.bool (decide (t < r.2.1) || decide (t < r.2.2.1))) ∧ Below w.heap.size w w' := by
  obtain ⟨id, fr, te, kd, ps⟩ := r
  unfold rwv
  simp only at *
  by_cases h1 : t < fr
  · go_enter Tryz.func76, Tryz.ntmps76
    go_wp2_with fail
    go_ret
    exact ⟨by simp [h1], balloc (Below.refl _ _) _⟩
  · have h1' : fr ≤ t := by omega
    by_cases h2 : t < te
    · go_enter Tryz.func76, Tryz.ntmps76
      go_wp2_with fail
      go_ret
      exact ⟨by simp [h1, h2], balloc (Below.refl _ _) _⟩
    · have h2' : te ≤ t := by omega
      go_enter Tryz.func76, Tryz.ntmps76
      go_wp2_with fail
      go_ret
      exact ⟨by simp [h1, h2], balloc (Below.refl _ _) _⟩
set_option maxHeartbeats 1000000 in
theorem touched_1 (r : Rw) (a : Option Addr) (cap : Nat) (id since : Int) (p q : Nat) (w : World) (c1 : w.cell? ⟨p, 0, none⟩ = some (.int .i64 id)) (c2 : w.cell? ⟨q, 0, none⟩ = some (.int .i64 since)) : Calls Tryz.prog 75 #[rwv r a cap, .pointer (some ⟨p, 0, none⟩), .pointer (some ⟨q, 0, none⟩)] w fun e w' => e = .returned (.bool (touch1 id since r)) ∧ Below w.heap.size w w' := by
  have HT := hid (show touch1 id since r = (decide (r.1 = id) && (decide (since < r.2.1) || decide (since < r.2.2.1))) from rfl)
  have RT := hid (row_touched r a cap since)
  generalize touch1 id since r = tb at *
  generalize (decide (since < r.2.1) || decide (since < r.2.2.1)) = rb at *
  obtain ⟨id2, fr, te, kd, ps⟩ := r
  unfold rwv at *
  simp only at *
  have hB := balloc (Below.refl w.heap.size w) (.cells #[.int .i64 id2, .int .i64 fr, .int .i64 te, .int .i64 kd, .slice a ps.length cap] 61)
  have e1 := keepalloc c1 (.cells #[.int .i64 id2, .int .i64 fr, .int .i64 te, .int .i64 kd, .slice a ps.length cap] 61)
  have e2 := keepalloc c2 (.cells #[.int .i64 id2, .int .i64 fr, .int .i64 te, .int .i64 kd, .slice a ps.length cap] 61)
  cases qi : (id2 == id)
  · have hq : tb = false := by rw [HT.out, show decide (id2 = id) = false by simpa using qi]; rfl
    subst hq
    go_enter Tryz.func75, Tryz.ntmps75
    go_wp2_with fail
    go_ret
    exact ⟨rfl, hB⟩
  · have hq : tb = rb := by rw [HT.out, show decide (id2 = id) = true by simpa using qi]; rfl
    subst hq
    go_enter Tryz.func75, Tryz.ntmps75
    go_wp2_with fail
    refine (RT.out _).mono ?_
    rintro e z ⟨rfl, hz⟩
    go_wp2_with fail
    go_ret
    exact ⟨rfl, btrans hB hz⟩
set_option maxRecDepth 100000 in
set_option maxHeartbeats 2000000 in
theorem index_touched {N : Nat → Prop} (a : Option Addr) (cap : Nat) (rs : List Rw) (id since : Int) (p q : Nat) (w : World) (hm : rs.length ≤ 1099511627776) (h : Rws N w a rs) (c1 : w.cell? ⟨p, 0, none⟩ = some (.int .i64 id)) (c2 : w.cell? ⟨q, 0, none⟩ = some (.int .i64 since)) : Calls Tryz.prog 101 #[.slice a rs.length cap, .func (.func 75) #[] #[.pointer (some ⟨p, 0, none⟩), .pointer (some ⟨q, 0, none⟩)]] w fun e w' => (∃ v : Int, e = .returned (.int .i64 v) ∧ (0 ≤ v ↔ rs.any (touch1 id since) = true)) ∧ Below w.heap.size w w' := by
  have HR := hid h
  have HC1 := hid c1
  have HC2 := hid c2
  clear h c1 c2
  obtain ⟨n, hn⟩ : ∃ n, n = rs.length := ⟨_, rfl⟩
  have HN := hid hn.symm
  rw [← hn] at hm ⊢
  clear hn
  have HY : Hid (∀ i (h : i < rs.length), touch1 id since rs[i] = true → rs.any (touch1 id since) = true) := hid (fun i h e => by rw [List.any_eq_true]; exact ⟨rs[i], List.getElem_mem h, e⟩)
  have HNO : Hid ((∀ m (h : m < rs.length), touch1 id since rs[m] = false) → rs.any (touch1 id since) = false) := hid (fun hh => by
    rw [List.any_eq_false]
    intro x hx
    obtain ⟨m, hm1, rfl⟩ := List.mem_iff_getElem.1 hx
    rw [hh m hm1]; simp)
  generalize rs.any (touch1 id since) = ab at *
  go_enter Tryz.func101, Tryz.ntmps101
  go_wp2_with fail
  go_loopw [8] (fun ti wr => ∃ i : Nat, ti = .int .i64 i ∧ i ≤ n ∧ Hid (∀ m (h : m < rs.length), m < i → touch1 id since rs[m] = false) ∧ Hid (Below w.heap.size w wr)) (fun ti _ => n - (intOf ti).toNat)
  case atStart => exact ⟨0, rfl, Nat.zero_le _, hid (fun m h hh => absurd hh (by omega)), hid (Below.refl _ _)⟩
  case round =>
    obtain ⟨i, rfl, hi, HA, HBW⟩ := hrel
    by_cases hlt : i < n
    · have d1 : (i : Int) < (n : Int) := by omega
      have hir : i < rs.length := by rw [HN.out]; exact hlt
      obtain ⟨b, o, rfl, hbs, a', cap', k0, k1, k2, k3, k4, k5, k6, k7, _⟩ := (HR.out.below HBW.out).at i hir
      have HT := hid (touched_1 rs[i] a' cap' id since p q wr (keepcell HBW.out HC1.out) (keepcell HBW.out HC2.out))
      have HYES := hid (HY.out i hir)
      have HNEXT : Hid (touch1 id since rs[i] = false → ∀ m (h : m < rs.length), m < i + 1 → touch1 id since rs[m] = false) := hid (fun e1 m h hm => by
        by_cases e : m = i
        · subst e; exact e1
        · exact HA.out m h (by omega))
      clear k5 k6 k7
      generalize touch1 id since rs[i] = qb at HT HYES HNEXT
      unfold rwv at HT
      generalize rs[i].1 = id2 at *
      generalize rs[i].2.1 = fr at *
      generalize rs[i].2.2.1 = te at *
      generalize rs[i].2.2.2.1 = kd at *
      generalize rs[i].2.2.2.2.length = np at *
      go_wp2_with fail
      refine HT.out.mono ?_
      rintro e z ⟨rfl, hz⟩
      have HZ := hid (btrans HBW.out hz)
      clear hz
      cases qb
      · have HF := hid (HNEXT.out rfl)
        go_wp2_with fail
        go_roundw
        case rel => exact ⟨i + 1, by go_num, by omega, HF, HZ⟩
        case measure => simp [intOf]; omega
      · have HF := hid (HYES.out rfl)
        go_wp2_with fail
        go_ret
        exact ⟨⟨_, rfl, by constructor <;> intro _ <;> first | exact HF.out | omega⟩, HZ.out⟩
    · have HF := hid (HNO.out (fun m hm1 => HA.out m hm1 (by rw [HN.out] at hm1; omega)))
      have d1 : (n : Int) ≤ (i : Int) := by omega
      go_wp2_with fail
      go_ret
      exact ⟨⟨_, rfl, by rw [HF.out]; simp⟩, HBW.out⟩
set_option maxHeartbeats 1000000 in
theorem contains_touched {N : Nat → Prop} (a : Option Addr) (cap : Nat) (rs : List Rw) (id since : Int) (p q : Nat) (w : World) (hm : rs.length ≤ 1099511627776) (h : Rws N w a rs) (c1 : w.cell? ⟨p, 0, none⟩ = some (.int .i64 id)) (c2 : w.cell? ⟨q, 0, none⟩ = some (.int .i64 since)) : Calls Tryz.prog 74 #[.slice a rs.length cap, .func (.func 75) #[] #[.pointer (some ⟨p, 0, none⟩), .pointer (some ⟨q, 0, none⟩)]] w fun e w' => e = .returned (.bool (rs.any (touch1 id since))) ∧ Below w.heap.size w w' := by
  have HI := hid (index_touched a cap rs id since p q w hm h c1 c2)
  clear h c1 c2
  generalize rs.any (touch1 id since) = ab at *
  generalize rs.length = n at *
  go_enter Tryz.func74, Tryz.ntmps74
  go_wp2_with fail
  refine HI.out.mono ?_
  rintro e z ⟨⟨v, rfl, hv⟩, hz⟩
  have HZ := hid hz
  clear hz
  by_cases h0 : 0 ≤ v
  · have hab := hv.1 h0
    subst hab
    clear hv
    go_wp2_with fail
    go_ret
    exact ⟨by first | rfl | simp [h0], HZ.out⟩
  · have hab : ab = false := by
      cases ab
      · rfl
      · exact absurd (hv.2 rfl) h0
    subst hab
    have h0' : v < 0 := by omega
    clear hv
    go_wp2_with fail
    go_ret
    exact ⟨by first | rfl | simp [h0], HZ.out⟩
set_option maxHeartbeats 1000000 in
theorem rows_touched {N : Nat → Prop} (now : Int) (a : Option Addr) (cap : Nat) (rs : List Rw) (id since : Int) (w : World) (hm : rs.length ≤ 1099511627776) (h : Rws N w a rs) : Calls Tryz.prog 47 #[.agg #[.int .i64 now, .slice a rs.length cap], .int .i64 id, .int .i64 since] w fun e w' => e = .returned (.bool (rs.any (touch1 id since))) ∧ Below w.heap.size w w' := by
  have hB : Below w.heap.size w (((w.alloc (.cells #[.int .i64 now, .slice a rs.length cap] 26)).alloc (.cells #[.int .i64 id] 3)).alloc (.cells #[.int .i64 since] 3)) := balloc (balloc (balloc (Below.refl _ _) _) _) _
  have HI := hid (contains_touched a cap rs id since (w.heap.size + 1) (w.heap.size + 1 + 1) _ hm (h.below hB) (by (repeat (first | with_reducible assumption | (refine newcell _ _ _ _ _ _ ?_ rfl; simp; done) | refine keepalloc ?_ _))) (by (repeat (first | with_reducible assumption | (refine newcell _ _ _ _ _ _ ?_ rfl; simp; done) | refine keepalloc ?_ _))))
  clear h
  generalize rs.any (touch1 id since) = ab at *
  generalize rs.length = n at *
  have hmf := makeFn
  go_enter Tryz.func47, Tryz.ntmps47
  go_wp2_with fail
  refine HI.out.mono ?_
  rintro e z ⟨rfl, hz⟩
  have HZ := hid (btrans hB hz)
  clear hz
  go_wp2_with fail
  go_ret
  exact ⟨rfl, HZ.out⟩
set_option maxHeartbeats 1000000 in
theorem impl_Touched {N : Nat → Prop} (now : Int) (a : Option Addr) (cap : Nat) (rs : List Rw) (id since : Int) (w : World) (hm : rs.length ≤ 1099511627776) (h : Rws N w a rs) : Calls Tryz.prog 20 #[.agg #[.int .i64 now, .slice a rs.length cap], .int .i64 id, .int .i64 since] w fun e w' => e = .returned (.bool (touchb now rs id since)) ∧ Below w.heap.size w w' := by
  have HOK := hid (fun (W : World) (hb : Below w.heap.size w W) => impl_RowsOk now a cap rs W hm (h.below hb))
  have HRT := hid (fun (W : World) (hb : Below w.heap.size w W) => rows_touched now a cap rs id since W hm (h.below hb))
  have HD := hid (show touchb now rs id since = (rowsb now rs && rs.any (touch1 id since)) from rfl)
  clear h
  generalize touchb now rs id since = tb at *
  generalize rowsb now rs = ob at *
  generalize rs.any (touch1 id since) = ab at *
  generalize rs.length = n at *
  go_enter Tryz.func20, Tryz.ntmps20
  go_upto_region 1 with fail
  have hBx : Below w.heap.size w (w.alloc (.cells #[.int .i64 now, .slice a n cap] 26)) := balloc (Below.refl _ _) _
  have g0 := new_alloc w w.heap.size (.cells #[.int .i64 now, .slice a n cap] 26) rfl
  generalize w.alloc (.cells #[.int .i64 now, .slice a n cap] 26) = W0 at *
  obtain ⟨d0, d1, _, _⟩ := cell2f g0
  cases ob
  · go_wp2_with fail
    refine (HOK.out _ hBx).mono ?_
    rintro e z ⟨rfl, hz⟩
    go_wp2_with fail
    go_ret
    exact ⟨by rw [HD.out]; rfl, btrans hBx hz⟩
  go_wp2_with fail
  refine (HOK.out _ hBx).mono ?_
  rintro e W ⟨rfl, hz⟩
  have g1 := keepheap2 hz g0
  have hB := btrans hBx hz
  clear g0 hBx hz d0 d1 HOK
  obtain ⟨d0, d1, _, _⟩ := cell2f g1
  go_wp2_with fail
  refine (HRT.out _ hB).mono ?_
  rintro e z ⟨rfl, hz⟩
  have HZ := hid (btrans hB hz)
  clear hz
  go_wp2_with fail
  go_ret
  exact ⟨by rw [HD.out]; rfl, HZ.out⟩
end Go.Proofs.YtfognoicnkphpaaGreat
namespace Go.Proofs.YtfognoicnkphpaaGreat
open Go.RowKit
set_option linter.unusedSimpArgs false
set_option linter.unusedVariables false
theorem keepheapA {w w' : World} (hb : Below w.heap.size w w') {b : Nat} {o : Obj} (h : w.heap[b]? = some o) : w'.heap[b]? = some o := by
  rw [hb.block b (lt_of_block h)]; exact h
def atb (id t : Int) (r : Rw) : Bool := decide (r.1 = id) && thr (tr r) t
def rat (rs : List Rw) (id t : Int) : Option Rw := rs.find? (atb id t)
def raK (o : Option Rw) : Int := match o with
  | some r => r.2.2.2.1
  | none => 0
def raP (o : Option Rw) : List (Int × Int) := match o with
  | some r => r.2.2.2.2
  | none => []
theorem rat_some {rs : List Rw} {id t : Int} {i : Nat} (h : i < rs.length) (hb : ∀ m (h : m < rs.length), m < i → atb id t rs[m] = false) (hi : atb id t rs[i] = true) : rat rs id t = some rs[i] := by
  unfold rat
  rw [List.find?_eq_some_iff_getElem]
  exact ⟨hi, i, h, rfl, fun j hj => by simp [hb j (by omega) hj]⟩
theorem rat_none {rs : List Rw} {id t : Int} (hb : ∀ m (h : m < rs.length), atb id t rs[m] = false) : rat rs id t = none := by
  unfold rat
  rw [List.find?_eq_none]
  intro x hx
  obtain ⟨m, hm, rfl⟩ := List.mem_iff_getElem.1 hx
  rw [hb m hm]; simp
/-- What RowAt tells, in memory of its own. -/
def RA (w : World) (rk : Int) (rp : List (Int × Int)) (rb : Bool) (e : Ending) (w' : World) : Prop :=
  ∃ a' cap', e = .returned (.tuple #[.agg #[.int .i64 rk, .slice a' rp.length cap'], .bool rb]) ∧ rp.length ≤ cap' ∧ ((a' = none ∧ rp = []) ∨ ∃ b, a' = some ⟨b, 0, none⟩ ∧ PtsOwn w' b rp) ∧ (∀ b off, a' = some ⟨b, off, none⟩ → w.heap.size ≤ b) ∧ Below w.heap.size w w'
theorem ra_no {w w' : World} {rk : Int} {rp : List (Int × Int)} {rb : Bool} (h1 : rk = 0) (h2 : rp = []) (h3 : rb = false) (hb : Below w.heap.size w w') : RA w rk rp rb (.returned (.tuple #[.agg #[.int .i64 0, .slice none 0 0], .bool false])) w' := by
  subst h1; subst h2; subst h3
  exact ⟨none, 0, rfl, Nat.le_refl _, .inl ⟨rfl, rfl⟩, fun _ _ e => (by cases e), hb⟩
/-- What shapeAt tells, in memory of the rows. -/
def SA (w : World) (rk : Int) (rp : List (Int × Int)) (rb : Bool) (e : Ending) (w' : World) : Prop :=
  ∃ a' cap', e = .returned (.tuple #[.agg #[.int .i64 rk, .slice a' rp.length cap'], .bool rb]) ∧ ((rb = false ∧ a' = none ∧ cap' = 0 ∧ rp = []) ∨ (rb = true ∧ 0 < rp.length ∧ rp.length ≤ 1099511627776 ∧ Pts w' a' rp)) ∧ Below w.heap.size w w'
set_option maxRecDepth 100000 in
set_option maxHeartbeats 4000000 in
theorem impl_shapeAt {N : Nat → Prop} (now : Int) (a : Option Addr) (cap : Nat) (rs : List Rw) (id t : Int) (w : World) (hm : rs.length ≤ 1099511627776) (h : Rws N w a rs) (hpos : ∀ m (h : m < rs.length), 0 < rs[m].2.2.2.2.length) : Calls Tryz.prog 40 #[.agg #[.int .i64 now, .slice a rs.length cap], .int .i64 id, .int .i64 t] w fun e w' => SA w (raK (rat rs id t)) (raP (rat rs id t)) (rat rs id t).isSome e w' := by
  have HR := hid h
  have HPOS := hid hpos
  clear h hpos
  obtain ⟨n, hn⟩ : ∃ n, n = rs.length := ⟨_, rfl⟩
  have HN := hid hn.symm
  rw [← hn] at hm ⊢
  clear hn
  have HY : Hid (∀ i (h : i < rs.length), (∀ m (h : m < rs.length), m < i → atb id t rs[m] = false) → atb id t rs[i] = true → raK (rat rs id t) = rs[i].2.2.2.1 ∧ raP (rat rs id t) = rs[i].2.2.2.2 ∧ (rat rs id t).isSome = true) := hid (fun i h hb hi => by rw [rat_some h hb hi]; exact ⟨rfl, rfl, rfl⟩)
  have HNO : Hid ((∀ m (h : m < rs.length), atb id t rs[m] = false) → raK (rat rs id t) = 0 ∧ raP (rat rs id t) = [] ∧ (rat rs id t).isSome = false) := hid (fun hb => by rw [rat_none hb]; exact ⟨rfl, rfl, rfl⟩)
  generalize raK (rat rs id t) = rk at *
  generalize raP (rat rs id t) = rp at *
  generalize (rat rs id t).isSome = rb at *
  go_enter Tryz.func40, Tryz.ntmps40
  go_upto_region 1 with fail
  have hBx : Below w.heap.size w ((w.alloc (.cells #[.int .i64 now, .slice a n cap] 26)).alloc (.cells #[.int .i64 0, .slice none 0 0] 37)) := balloc (balloc (Below.refl _ _) _) _
  have g0 := old_alloc (o' := .cells #[.int .i64 0, .slice none 0 0] 37) (new_alloc w w.heap.size (.cells #[.int .i64 now, .slice a n cap] 26) rfl)
  have g1 := new_alloc (w.alloc (.cells #[.int .i64 now, .slice a n cap] 26)) (w.heap.size + 1) (.cells #[.int .i64 0, .slice none 0 0] 37) (by simp)
  generalize (w.alloc (.cells #[.int .i64 now, .slice a n cap] 26)).alloc (.cells #[.int .i64 0, .slice none 0 0] 37) = W0 at *
  obtain ⟨d0, d1, _, _⟩ := cell2r g0
  go_wp2_with fail
  clear d0 d1 g0
  go_loopw [13] (fun ti wr => ∃ i : Nat, ti = .int .i64 i ∧ i ≤ n ∧ Hid (∀ m (h : m < rs.length), m < i → atb id t rs[m] = false) ∧ Hid (wr.heap[w.heap.size + 1]? = some (.cells #[.int .i64 0, .slice none 0 0] 37 (0, 0))) ∧ Hid (Below w.heap.size w wr)) (fun ti _ => n - (intOf ti).toNat)
  case atStart => exact ⟨0, rfl, Nat.zero_le _, hid (fun m h hh => absurd hh (by omega)), hid g1, hid hBx⟩
  case round =>
    clear g1 hBx
    obtain ⟨i, rfl, hi, HA, G1, HBW⟩ := hrel
    by_cases hlt : i < n
    · have c1 : (i : Int) < (n : Int) := by omega
      have hir : i < rs.length := by rw [HN.out]; exact hlt
      obtain ⟨b, o, rfl, hbs, a', cap', k0, k1, k2, k3, k4, k5, k6, k7, _⟩ := HR.out.at i hir
      replace k0 := keepcell HBW.out k0
      replace k1 := keepcell HBW.out k1
      replace k2 := keepcell HBW.out k2
      replace k3 := keepcell HBW.out k3
      replace k4 := keepcell HBW.out k4
      have HT := hid (show atb id t rs[i] = (decide (rs[i].1 = id) && thr (tr rs[i]) t) from rfl)
      have ST := hid (fun w' => impl_there rs[i] a' cap' t w')
      have HYES := hid (HY.out i hir HA.out)
      have HPI := hid (HPOS.out i hir)
      have HNEXT : Hid (atb id t rs[i] = false → ∀ m (h : m < rs.length), m < i + 1 → atb id t rs[m] = false) := hid (fun e1 m h hm => by
        by_cases e : m = i
        · subst e; exact e1
        · exact HA.out m h (by omega))
      have K7 := hid k7
      have K6 := hid k6
      clear k5 k6 k7
      unfold rwv at ST
      generalize atb id t rs[i] = q at HT HYES HNEXT
      generalize thr (tr rs[i]) t = q2 at *
      generalize rs[i].1 = id2 at *
      generalize rs[i].2.1 = fr at *
      generalize rs[i].2.2.1 = te at *
      generalize rs[i].2.2.2.1 = kd at *
      generalize rs[i].2.2.2.2 = ps at *
      go_upto_region 4 with fail
      have hBx : Below wr.heap.size wr (wr.alloc (.cells #[.int .i64 id2, .int .i64 fr, .int .i64 te, .int .i64 kd, .slice a' ps.length cap'] 61)) := balloc (Below.refl _ _) _
      have gx := new_alloc wr wr.heap.size (.cells #[.int .i64 id2, .int .i64 fr, .int .i64 te, .int .i64 kd, .slice a' ps.length cap'] 61) rfl
      have g1 := keepheapA hBx G1.out
      have hB := btrans HBW.out hBx
      clear k0 k1 k2 k3 k4 hBx
      generalize wr.alloc (.cells #[.int .i64 id2, .int .i64 fr, .int .i64 te, .int .i64 kd, .slice a' ps.length cap'] 61) = W1 at *
      generalize wr.heap.size = X at *
      obtain ⟨⟨x0, x1, x2, x3, x4⟩, _⟩ := cell5g gx
      cases qi : (id2 == id)
      · have hq : q = false := by rw [HT.out, show decide (id2 = id) = false by simpa using qi]; rfl
        have HF := hid (HNEXT.out hq)
        have HG := hid g1
        have HB2 := hid hB
        clear hq g1 hB gx
        go_wp2_with fail
        go_roundw
        case rel => exact ⟨i + 1, by go_num, by omega, HF, HG, HB2⟩
        case measure => simp [intOf]; omega
      have he : decide (id2 = id) = true := by simpa using qi
      have HGX := hid gx
      have HG := hid g1
      have HB2 := hid hB
      clear gx g1 hB
      cases q2
      · have HF := hid (HNEXT.out (by rw [HT.out, he]; rfl))
        go_wp2_with fail
        refine (ST.out _).mono ?_
        rintro e z ⟨rfl, hz⟩
        have HG1 := hid (keepheapA hz HG.out)
        have HBz := hid (btrans HB2.out hz)
        clear hz
        go_wp2_with fail
        go_roundw
        case rel => exact ⟨i + 1, by go_num, by omega, HF, HG1, HBz⟩
        case measure => simp [intOf]; omega
      · have HF := hid (HYES.out (by rw [HT.out, he]; rfl))
        go_wp2_with fail
        refine (ST.out _).mono ?_
        rintro e z ⟨rfl, hz⟩
        have gx := keepheapA hz HGX.out
        have g1 := keepheapA hz HG.out
        have HBz := hid (btrans HB2.out hz)
        clear hz x0 x1 x2 x3 x4
        obtain ⟨⟨x0, x1, x2, x3, x4⟩, _⟩ := cell5g gx
        obtain ⟨v0, v1, w0, w1⟩ := cell2r g1
        go_wp2_with fail
        have gF := set2r g1 (.int .i64 kd) (.slice a' ps.length cap')
        have hB3 : Below z.heap.size z z := Below.refl _ _
        have bF := bset (bset HBz.out (q := w.heap.size + 1) (k := 0) (by omega) (.int .i64 kd)) (q := w.heap.size + 1) (k := 1) (by omega) (.slice a' ps.length cap')
        have pF : Pts ((z.setCell ⟨w.heap.size + 1, 0, none⟩ (.int .i64 kd)).setCell ⟨w.heap.size + 1, 1, none⟩ (.slice a' ps.length cap')) a' ps := K7.out.below bF
        generalize (z.setCell ⟨w.heap.size + 1, 0, none⟩ (.int .i64 kd)).setCell ⟨w.heap.size + 1, 1, none⟩ (.slice a' ps.length cap') = wf at *
        obtain ⟨z0, z1, _, _⟩ := cell2r gF
        obtain ⟨e1, e2, e3⟩ := HF.out
        subst e1; subst e2; subst e3
        exact bodyPost_ret (v := .tuple #[.agg #[.int .i64 _, .slice a' _ cap'], .bool true]) (by simp [results, Tryz.results40, go_sem, z0, z1]) rfl ⟨a', cap', rfl, .inr ⟨rfl, HPI.out, K6.out, pF⟩, bF⟩
    · have HF := hid (HNO.out (fun m hm1 => HA.out m hm1 (by rw [HN.out] at hm1; omega)))
      have c1 : (n : Int) ≤ (i : Int) := by omega
      obtain ⟨v0, v1, w0, w1⟩ := cell2r G1.out
      go_wp2_with fail
      have gF := set2r G1.out (.int .i64 0) (.slice none 0 0)
      have bF := bset (bset HBW.out (q := w.heap.size + 1) (k := 0) (by omega) (.int .i64 0)) (q := w.heap.size + 1) (k := 1) (by omega) (.slice none 0 0)
      generalize (wr.setCell ⟨w.heap.size + 1, 0, none⟩ (.int .i64 0)).setCell ⟨w.heap.size + 1, 1, none⟩ (.slice none 0 0) = wf at *
      obtain ⟨z0, z1, _, _⟩ := cell2r gF
      obtain ⟨e1, e2, e3⟩ := HF.out
      subst e1; subst e2; subst e3
      exact bodyPost_ret (v := .tuple #[.agg #[.int .i64 0, .slice none 0 0], .bool false]) (by simp [results, Tryz.results40, go_sem, z0, z1]) rfl ⟨none, 0, rfl, .inl ⟨rfl, rfl, rfl, rfl⟩, bF⟩
end Go.Proofs.YtfognoicnkphpaaGreat
