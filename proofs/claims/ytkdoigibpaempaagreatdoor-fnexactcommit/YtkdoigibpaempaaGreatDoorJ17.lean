/- Texts of stores, joined: RwU, Ar, Ar2. -/
import Derived.Test.YtkdoigibpaempaaGreatDoorJ14
import Derived.Test.YtkdoigibpaempaaGreatDoorRows
import Derived.WalkKit
import Derived.LaidEql
import Derived.Stop.Asserts
import Derived.RowKitTokens
import Derived.Below
set_option linter.unusedSimpArgs false
set_option linter.unusedVariables false
namespace Go.Proofs.YtkdoigibpaempaaGreatDoor
open Go.RowKit
def touch1 (id since : Int) (r : Rw) : Bool := decide (r.1 = id) && (decide (since < r.2.1) || decide (since < r.2.2.1))
def touchb (now : Int) (rs : List Rw) (id since : Int) : Bool := rowsb now rs && rs.any (touch1 id since)
set_option maxRecDepth 100000 in
set_option maxHeartbeats 4000000 in
theorem spec_Touched {N : Nat → Prop} (now : Int) (a : Option Addr) (cap : Nat) (rs : List Rw) (id since : Int) (w : World) (hm : rs.length ≤ 1099511627776) (h : Rws N w a rs) : Calls Tryz.prog 16 #[.agg #[.int .i64 now, .slice a rs.length cap], .int .i64 id, .int .i64 since] w fun e w' => e = .returned (.bool (touchb now rs id since)) ∧ Below w.heap.size w w' := by
  have HOK := hid (fun (W : World) (hb : Below w.heap.size w W) => spec_RowsOk now a cap rs W hm (h.below hb))
  have HR := hid h
  have HD := hid (show touchb now rs id since = (rowsb now rs && rs.any (touch1 id since)) from rfl)
  clear h
  obtain ⟨n, hn⟩ : ∃ n, n = rs.length := ⟨_, rfl⟩
  have HN := hid hn.symm
  rw [← hn] at hm HOK ⊢
  clear hn
  generalize touchb now rs id since = tb at *
  generalize rowsb now rs = ob at *
  go_enter Tryz.func16, Tryz.ntmps16
  go_upto_region 1 with fail
  have hBx : Below w.heap.size w (w.alloc (.cells #[.int .i64 now, .slice a n cap] 31)) := balloc (Below.refl _ _) _
  have g0 := new_alloc w w.heap.size (.cells #[.int .i64 now, .slice a n cap] 31) rfl
  generalize w.alloc (.cells #[.int .i64 now, .slice a n cap] 31) = W0 at *
  obtain ⟨d0, d1, _, _⟩ := cell2f g0
  cases ob
  · go_wp2_with fail
    refine (HOK.out _ hBx).mono ?_
    rintro e z ⟨rfl, hz⟩
    go_wp2_with fail
    go_ret
    exact ⟨by rw [HD.out]; rfl, btrans hBx hz⟩
  go_wp2_with fail
  refine (HOK.out _ hBx).mono ?_
  rintro e W ⟨rfl, hz⟩
  have g1 := keepheap2 hz g0
  have hB := btrans hBx hz
  clear g0 hBx hz d0 d1 HOK
  obtain ⟨d0, d1, _, _⟩ := cell2f g1
  go_wp2_with fail
  clear d0 d1
  go_loopw [7] (fun ti wr => ∃ i : Nat, ti = .int .i64 i ∧ i ≤ n ∧ Hid (∀ m (h : m < rs.length), m < i → touch1 id since rs[m] = false) ∧ Hid (wr.heap[w.heap.size]? = some (.cells #[.int .i64 now, .slice a n cap] 31 (0, 0))) ∧ Hid (Below w.heap.size w wr)) (fun ti _ => n - (intOf ti).toNat)
  case atStart => exact ⟨0, rfl, Nat.zero_le _, hid (fun m h hh => absurd hh (by omega)), hid g1, hid hB⟩
  case round =>
    clear g1 hB
    obtain ⟨i, rfl, hi, HA, G1, HBW⟩ := hrel
    obtain ⟨d0, d1, _, _⟩ := cell2f G1.out
    by_cases hlt : i < n
    · have c1 : (i : Int) < (n : Int) := by omega
      have hir : i < rs.length := by rw [HN.out]; exact hlt
      obtain ⟨b, o, rfl, hbs, a', cap', k0, k1, k2, k3, k4, k5, k6, k7, _⟩ := (HR.out.below HBW.out).at i hir
      have HT := hid (show touch1 id since rs[i] = (decide (rs[i].1 = id) && (decide (since < rs[i].2.1) || decide (since < rs[i].2.2.1))) from rfl)
      have HYES : Hid (touch1 id since rs[i] = true → tb = true) := hid (fun e => by
        rw [HD.out, Bool.true_and, List.any_eq_true]
        exact ⟨rs[i], List.getElem_mem hir, e⟩)
      have HNEXT : Hid (touch1 id since rs[i] = false → ∀ m (h : m < rs.length), m < i + 1 → touch1 id since rs[m] = false) := hid (fun e1 m h hm => by
        by_cases e : m = i
        · subst e; exact e1
        · exact HA.out m h (by omega))
      clear k5 k6 k7
      generalize touch1 id since rs[i] = q at HT HYES HNEXT
      generalize rs[i].1 = id2 at *
      generalize rs[i].2.1 = fr at *
      generalize rs[i].2.2.1 = te at *
      generalize rs[i].2.2.2.1 = kd at *
      generalize rs[i].2.2.2.2.length = np at *
      go_upto_region 7 with fail
      have hBx : Below wr.heap.size wr (wr.alloc (.cells #[.int .i64 id2, .int .i64 fr, .int .i64 te, .int .i64 kd, .slice a' np cap'] 78)) := balloc (Below.refl _ _) _
      have gx := new_alloc wr wr.heap.size (.cells #[.int .i64 id2, .int .i64 fr, .int .i64 te, .int .i64 kd, .slice a' np cap'] 78) rfl
      have g1 := keepheap2 hBx G1.out
      have hB := btrans HBW.out hBx
      clear d0 d1 k0 k1 k2 k3 k4
      generalize wr.alloc (.cells #[.int .i64 id2, .int .i64 fr, .int .i64 te, .int .i64 kd, .slice a' np cap'] 78) = W1 at *
      obtain ⟨⟨x0, x1, x2, x3, x4⟩, _⟩ := cell5g gx
      have HG := hid g1
      have HB2 := hid hB
      clear gx g1 hB hBx
      cases qi : (id2 == id)
      · have hq : q = false := by rw [HT.out, show decide (id2 = id) = false by simpa using qi]; rfl
        have HF := hid (HNEXT.out hq)
        clear hq
        go_wp2_with fail
        go_roundw
        case rel => exact ⟨i + 1, by go_num, by omega, HF, HG, HB2⟩
        case measure => simp [intOf]; omega
      have he : decide (id2 = id) = true := by simpa using qi
      by_cases h1 : since < fr
      · have HF := hid (HYES.out (by rw [HT.out, he, show decide (since < fr) = true by simpa using h1]; rfl))
        go_wp2_with fail
        go_ret
        exact ⟨by rw [HF.out]; rfl, HB2.out⟩
      · have h1' : decide (since < fr) = false := by simpa using h1
        have h1'' : fr ≤ since := by omega
        by_cases h2 : since < te
        · have HF := hid (HYES.out (by rw [HT.out, he, h1', show decide (since < te) = true by simpa using h2]; rfl))
          go_wp2_with fail
          go_ret
          exact ⟨by rw [HF.out]; rfl, HB2.out⟩
        · have h2' : decide (since < te) = false := by simpa using h2
          have h2'' : te ≤ since := by omega
          have HF := hid (HNEXT.out (by rw [HT.out, he, h1', h2']; rfl))
          go_wp2_with fail
          go_roundw
          case rel => exact ⟨i + 1, by go_num, by omega, HF, HG, HB2⟩
          case measure => simp [intOf]; omega
    · have HF := hid (show tb = false by
        rw [HD.out, Bool.true_and, List.any_eq_false]
        intro x hx
        obtain ⟨m, hm1, rfl⟩ := List.mem_iff_getElem.1 hx
        have := HA.out m hm1 (by rw [HN.out] at hm1; omega)
        rw [this]; simp)
      have c1 : (n : Int) ≤ (i : Int) := by omega
      go_wp2_with fail
      go_ret
      exact ⟨by rw [HF.out]; rfl, HBW.out⟩
theorem makeFn (fn : Fn) (first cap : Array Value) (w : World) : (Instr.makeFunc fn first cap).run Tryz.prog w = .ok (.func fn first cap) w := rfl
set_option maxHeartbeats 1000000 in
theorem row_touched (r : Rw) (a : Option Addr) (cap : Nat) (t : Int) (w : World) : Calls Tryz.prog 99 #[rwv r a cap, .int .i64 t] w fun e w' => e = .returned (.bool (decide (t < r.2.1) || decide (t < r.2.2.1))) ∧ Below w.heap.size w w' := by
  obtain ⟨id, fr, te, kd, ps⟩ := r
  unfold rwv
  simp only at *
  by_cases h1 : t < fr
  · go_enter Tryz.func99, Tryz.ntmps99
    go_wp2_with fail
    go_ret
    exact ⟨by simp [h1], balloc (Below.refl _ _) _⟩
  · have h1' : fr ≤ t := by omega
    by_cases h2 : t < te
    · go_enter Tryz.func99, Tryz.ntmps99
      go_wp2_with fail
      go_ret
      exact ⟨by simp [h1, h2], balloc (Below.refl _ _) _⟩
    · have h2' : te ≤ t := by omega
      go_enter Tryz.func99, Tryz.ntmps99
      go_wp2_with fail
      go_ret
      exact ⟨by simp [h1, h2], balloc (Below.refl _ _) _⟩
set_option maxHeartbeats 1000000 in
theorem touched_1 (r : Rw) (a : Option Addr) (cap : Nat) (id since : Int) (p q : Nat) (w : World) (c1 : w.cell? ⟨p, 0, none⟩ = some (.int .i64 id)) (c2 : w.cell? ⟨q, 0, none⟩ = some (.int .i64 since)) : Calls Tryz.prog 98 #[rwv r a cap, .pointer (some ⟨p, 0, none⟩), .pointer (some ⟨q, 0, none⟩)] w fun e w' => e = .returned (.bool (touch1 id since r)) ∧ Below w.heap.size w w' := by
  have HT := hid (show touch1 id since r = (decide (r.1 = id) && (decide (since < r.2.1) || decide (since < r.2.2.1))) from rfl)
  have RT := hid (row_touched r a cap since)
  generalize touch1 id since r = tb at *
  generalize (decide (since < r.2.1) || decide (since < r.2.2.1)) = rb at *
  obtain ⟨id2, fr, te, kd, ps⟩ := r
  unfold rwv at *
  simp only at *
  have hB := balloc (Below.refl w.heap.size w) (.cells #[.int .i64 id2, .int .i64 fr, .int .i64 te, .int .i64 kd, .slice a ps.length cap] 78)
  have e1 := keepalloc c1 (.cells #[.int .i64 id2, .int .i64 fr, .int .i64 te, .int .i64 kd, .slice a ps.length cap] 78)
  have e2 := keepalloc c2 (.cells #[.int .i64 id2, .int .i64 fr, .int .i64 te, .int .i64 kd, .slice a ps.length cap] 78)
  cases qi : (id2 == id)
  · have hq : tb = false := by rw [HT.out, show decide (id2 = id) = false by simpa using qi]; rfl
    subst hq
    go_enter Tryz.func98, Tryz.ntmps98
    go_wp2_with fail
    go_ret
    exact ⟨rfl, hB⟩
  · have hq : tb = rb := by rw [HT.out, show decide (id2 = id) = true by simpa using qi]; rfl
    subst hq
    go_enter Tryz.func98, Tryz.ntmps98
    go_wp2_with fail
    refine (RT.out _).mono ?_
    rintro e z ⟨rfl, hz⟩
    go_wp2_with fail
    go_ret
    exact ⟨rfl, btrans hB hz⟩
set_option maxRecDepth 100000 in
set_option maxHeartbeats 2000000 in
theorem index_touched {N : Nat → Prop} (a : Option Addr) (cap : Nat) (rs : List Rw) (id since : Int) (p q : Nat) (w : World) (hm : rs.length ≤ 1099511627776) (h : Rws N w a rs) (c1 : w.cell? ⟨p, 0, none⟩ = some (.int .i64 id)) (c2 : w.cell? ⟨q, 0, none⟩ = some (.int .i64 since)) : Calls Tryz.prog 117 #[.slice a rs.length cap, .func (.func 98) #[] #[.pointer (some ⟨p, 0, none⟩), .pointer (some ⟨q, 0, none⟩)]] w fun e w' => (∃ v : Int, e = .returned (.int .i64 v) ∧ (0 ≤ v ↔ rs.any (touch1 id since) = true)) ∧ Below w.heap.size w w' := by
  have HR := hid h
  have HC1 := hid c1
  have HC2 := hid c2
  clear h c1 c2
  obtain ⟨n, hn⟩ : ∃ n, n = rs.length := ⟨_, rfl⟩
  have HN := hid hn.symm
  rw [← hn] at hm ⊢
  clear hn
  have HY : Hid (∀ i (h : i < rs.length), touch1 id since rs[i] = true → rs.any (touch1 id since) = true) := hid (fun i h e => by rw [List.any_eq_true]; exact ⟨rs[i], List.getElem_mem h, e⟩)
  have HNO : Hid ((∀ m (h : m < rs.length), touch1 id since rs[m] = false) → rs.any (touch1 id since) = false) := hid (fun hh => by
    rw [List.any_eq_false]
    intro x hx
    obtain ⟨m, hm1, rfl⟩ := List.mem_iff_getElem.1 hx
    rw [hh m hm1]; simp)
  generalize rs.any (touch1 id since) = ab at *
  go_enter Tryz.func117, Tryz.ntmps117
  go_wp2_with fail
  go_loopw [8] (fun ti wr => ∃ i : Nat, ti = .int .i64 i ∧ i ≤ n ∧ Hid (∀ m (h : m < rs.length), m < i → touch1 id since rs[m] = false) ∧ Hid (Below w.heap.size w wr)) (fun ti _ => n - (intOf ti).toNat)
  case atStart => exact ⟨0, rfl, Nat.zero_le _, hid (fun m h hh => absurd hh (by omega)), hid (Below.refl _ _)⟩
  case round =>
    obtain ⟨i, rfl, hi, HA, HBW⟩ := hrel
    by_cases hlt : i < n
    · have d1 : (i : Int) < (n : Int) := by omega
      have hir : i < rs.length := by rw [HN.out]; exact hlt
      obtain ⟨b, o, rfl, hbs, a', cap', k0, k1, k2, k3, k4, k5, k6, k7, _⟩ := (HR.out.below HBW.out).at i hir
      have HT := hid (touched_1 rs[i] a' cap' id since p q wr (keepcell HBW.out HC1.out) (keepcell HBW.out HC2.out))
      have HYES := hid (HY.out i hir)
      have HNEXT : Hid (touch1 id since rs[i] = false → ∀ m (h : m < rs.length), m < i + 1 → touch1 id since rs[m] = false) := hid (fun e1 m h hm => by
        by_cases e : m = i
        · subst e; exact e1
        · exact HA.out m h (by omega))
      clear k5 k6 k7
      generalize touch1 id since rs[i] = qb at HT HYES HNEXT
      unfold rwv at HT
      generalize rs[i].1 = id2 at *
      generalize rs[i].2.1 = fr at *
      generalize rs[i].2.2.1 = te at *
      generalize rs[i].2.2.2.1 = kd at *
      generalize rs[i].2.2.2.2.length = np at *
      go_wp2_with fail
      refine HT.out.mono ?_
      rintro e z ⟨rfl, hz⟩
      have HZ := hid (btrans HBW.out hz)
      clear hz
      cases qb
      · have HF := hid (HNEXT.out rfl)
        go_wp2_with fail
        go_roundw
        case rel => exact ⟨i + 1, by go_num, by omega, HF, HZ⟩
        case measure => simp [intOf]; omega
      · have HF := hid (HYES.out rfl)
        go_wp2_with fail
        go_ret
        exact ⟨⟨_, rfl, by constructor <;> intro _ <;> first | exact HF.out | omega⟩, HZ.out⟩
    · have HF := hid (HNO.out (fun m hm1 => HA.out m hm1 (by rw [HN.out] at hm1; omega)))
      have d1 : (n : Int) ≤ (i : Int) := by omega
      go_wp2_with fail
      go_ret
      exact ⟨⟨_, rfl, by rw [HF.out]; simp⟩, HBW.out⟩
set_option maxHeartbeats 1000000 in
theorem contains_touched {N : Nat → Prop} (a : Option Addr) (cap : Nat) (rs : List Rw) (id since : Int) (p q : Nat) (w : World) (hm : rs.length ≤ 1099511627776) (h : Rws N w a rs) (c1 : w.cell? ⟨p, 0, none⟩ = some (.int .i64 id)) (c2 : w.cell? ⟨q, 0, none⟩ = some (.int .i64 since)) : Calls Tryz.prog 97 #[.slice a rs.length cap, .func (.func 98) #[] #[.pointer (some ⟨p, 0, none⟩), .pointer (some ⟨q, 0, none⟩)]] w fun e w' => e = .returned (.bool (rs.any (touch1 id since))) ∧ Below w.heap.size w w' := by
  have HI := hid (index_touched a cap rs id since p q w hm h c1 c2)
  clear h c1 c2
  generalize rs.any (touch1 id since) = ab at *
  generalize rs.length = n at *
  go_enter Tryz.func97, Tryz.ntmps97
  go_wp2_with fail
  refine HI.out.mono ?_
  rintro e z ⟨⟨v, rfl, hv⟩, hz⟩
  have HZ := hid hz
  clear hz
  by_cases h0 : 0 ≤ v
  · have hab := hv.1 h0
    subst hab
    clear hv
    go_wp2_with fail
    go_ret
    exact ⟨by first | rfl | simp [h0], HZ.out⟩
  · have hab : ab = false := by
      cases ab
      · rfl
      · exact absurd (hv.2 rfl) h0
    subst hab
    have h0' : v < 0 := by omega
    clear hv
    go_wp2_with fail
    go_ret
    exact ⟨by first | rfl | simp [h0], HZ.out⟩
set_option maxHeartbeats 1000000 in
theorem rows_touched {N : Nat → Prop} (now : Int) (a : Option Addr) (cap : Nat) (rs : List Rw) (id since : Int) (w : World) (hm : rs.length ≤ 1099511627776) (h : Rws N w a rs) : Calls Tryz.prog 71 #[.agg #[.int .i64 now, .slice a rs.length cap], .int .i64 id, .int .i64 since] w fun e w' => e = .returned (.bool (rs.any (touch1 id since))) ∧ Below w.heap.size w w' := by
  have hB : Below w.heap.size w (((w.alloc (.cells #[.int .i64 now, .slice a rs.length cap] 31)).alloc (.cells #[.int .i64 id] 3)).alloc (.cells #[.int .i64 since] 3)) := balloc (balloc (balloc (Below.refl _ _) _) _) _
  have HI := hid (contains_touched a cap rs id since (w.heap.size + 1) (w.heap.size + 1 + 1) _ hm (h.below hB) (by (repeat (first | with_reducible assumption | (refine newcell _ _ _ _ _ _ ?_ rfl; simp; done) | refine keepalloc ?_ _))) (by (repeat (first | with_reducible assumption | (refine newcell _ _ _ _ _ _ ?_ rfl; simp; done) | refine keepalloc ?_ _))))
  clear h
  generalize rs.any (touch1 id since) = ab at *
  generalize rs.length = n at *
  have hmf := makeFn
  go_enter Tryz.func71, Tryz.ntmps71
  go_wp2_with fail
  refine HI.out.mono ?_
  rintro e z ⟨rfl, hz⟩
  have HZ := hid (btrans hB hz)
  clear hz
  go_wp2_with fail
  go_ret
  exact ⟨rfl, HZ.out⟩
end Go.Proofs.YtkdoigibpaempaaGreatDoor
namespace Go.Proofs.YtkdoigibpaempaaGreatDoor
open Go.RowKit Go.Extern.Stop Go.Stop Go.Extern
theorem ar_valueOfP (t : Addr) (w : World) : (ReflectliteValue.unpack (.iface 123 (.pointer (some t)))).run Tryz.prog w
    = .ok (.agg #[.pointer (some ⟨4, 123, none⟩), .pointer (some ⟨w.heap.size, 0, none⟩), .int .u64 150]) (w.alloc (.cells #[.pointer (some t)] 123)) := by kernel_rfl
theorem ar_typeP (a : Addr) (w : World) : (ReflectliteValue.methodAny (ReflectliteValue.valueError "reflectlite.Value.Type" 0) (fun t _ _ _ => ReflectliteType.toType t) #[.agg #[.pointer (some ⟨4, 123, none⟩), .pointer (some a), .int .u64 150]]).run Tryz.prog w
    = .ok (.iface 148 (.agg #[.pointer (some ⟨4, 123, none⟩)])) w := by kernel_rfl
theorem ar_methodKind (n : Nat) (h : Value) (w : World) : (Go.method (n + 4) 148 (.agg #[h]) "Kind").run Tryz.prog w = .ok (196, h) w := by kernel_rfl
theorem ar_kindP (w : World) : ((ReflectliteType.abiMethod fun t => (fun a : Nat => Value.int IntKind.u8 (a : Int)) <$> Rtype.kind t) #[.pointer (some ⟨4, 123, none⟩)]).run Tryz.prog w = .ok (.int .u8 22) w := by kernel_rfl
theorem ar_kindS (w : World) : ((ReflectliteType.abiMethod fun t => (fun a : Nat => Value.int IntKind.u8 (a : Int)) <$> Rtype.kind t) #[.pointer (some ⟨4, 115, none⟩)]).run Tryz.prog w = .ok (.int .u8 25) w := by kernel_rfl
theorem ar_rlm (z : Sem Value) (f : TypeId → Addr → Nat → Nat → Sem Value) (v : Value) :
    ReflectliteValue.method z f #[v] = (do match ← ReflectliteValue.parts v with | none => z | some (t, a, fl) => f t a fl (fl % 32)) := rfl
theorem ar_partsP (a : Addr) (w : World) : (ReflectliteValue.parts (.agg #[.pointer (some ⟨4, 123, none⟩), .pointer (some a), .int .u64 150])).run Tryz.prog w = .ok (some (123, a, 150)) w := by kernel_rfl
theorem ar_isNilP (a p : Addr) (W : World) (ha : W.cell? a = some (.pointer (some p))) :
    (ReflectliteValue.method (ReflectliteValue.valueError "reflectlite.Value.IsNil" 0) ReflectliteValue.isNil #[.agg #[.pointer (some ⟨4, 123, none⟩), .pointer (some a), .int .u64 150]]).run Tryz.prog W = .ok (.bool false) W := by
  rw [ar_rlm]
  simp only [Sem.run_bind, ar_partsP, Result.andThen]
  simp [ReflectliteValue.isNil, loadVar, isAgg, underlying, Tryz.underlying123, ha, Result.andThen]
theorem ar_methodElem (n : Nat) (h : Value) (w : World) : (Go.method (n + 4) 148 (.agg #[h]) "Elem").run Tryz.prog w = .ok (207, .agg #[h]) w := by kernel_rfl
theorem ar_methodImplements (n : Nat) (h : Value) (w : World) : (Go.method (n + 4) 148 (.agg #[h]) "Implements").run Tryz.prog w = .ok (208, .agg #[h]) w := by kernel_rfl
theorem ar_methodAssignableTo (n : Nat) (h : Value) (w : World) : (Go.method (n + 4) 148 (.agg #[h]) "AssignableTo").run Tryz.prog w = .ok (205, .agg #[h]) w := by kernel_rfl
theorem ar_elemP (w : World) : (ReflectliteType.method ReflectliteType.elem #[.agg #[.pointer (some ⟨4, 123, none⟩)]]).run Tryz.prog w = .ok (.iface 148 (.agg #[.pointer (some ⟨4, 115, none⟩)])) w := by kernel_rfl
theorem ar_implementsS (w : World) : (ReflectliteType.relation "Implements" ReflectliteType.implements_ #[.agg #[.pointer (some ⟨4, 115, none⟩)], .iface 148 (.agg #[.pointer (some ⟨4, 87, none⟩)])]).run Tryz.prog w = .ok (.bool true) w := by kernel_rfl
theorem ar_typeOfS (v : Value) (w : World) : (ReflectliteType.typeOf #[.iface 115 v]).run Tryz.prog w = .ok (.iface 148 (.agg #[.pointer (some ⟨4, 115, none⟩)])) w := by kernel_rfl
theorem ar_assignableS (w : World) : (ReflectliteType.relation "AssignableTo" ReflectliteType.assignableTo #[.agg #[.pointer (some ⟨4, 115, none⟩)], .iface 148 (.agg #[.pointer (some ⟨4, 115, none⟩)])]).run Tryz.prog w = .ok (.bool true) w := by kernel_rfl
theorem ar_valueOfS (c : Int) (u : Value) (w : World) : (ReflectliteValue.unpack (.iface 115 (.agg #[.int .i64 c, u]))).run Tryz.prog w
    = .ok (.agg #[.pointer (some ⟨4, 115, none⟩), .pointer (some ⟨w.heap.size, 0, none⟩), .int .u64 153]) (w.alloc (.cells #[.int .i64 c, u] 115)) := by kernel_rfl
theorem ar_elemOfP (w : World) : (Rtype.elem? 123).run Tryz.prog w = .ok (some 115) w := by kernel_rfl
theorem ar_mkS (p : Addr) (w : World) : (ReflectliteValue.mk 115 p ReflectliteValue.flagAddr).run Tryz.prog w = .ok (.agg #[.pointer (some ⟨4, 115, none⟩), .pointer (some p), .int .u64 409]) w := by kernel_rfl
theorem ar_elemVP (a p : Addr) (W : World) (ha : W.cell? a = some (.pointer (some p))) :
    (ReflectliteValue.method (ReflectliteValue.valueError "reflectlite.Value.Elem" 0) ReflectliteValue.elem #[.agg #[.pointer (some ⟨4, 123, none⟩), .pointer (some a), .int .u64 150]]).run Tryz.prog W
      = .ok (.agg #[.pointer (some ⟨4, 115, none⟩), .pointer (some p), .int .u64 409]) W := by
  rw [ar_rlm]
  simp only [Sem.run_bind, ar_partsP, Result.andThen]
  simp [ReflectliteValue.elem, loadVar, isAgg, underlying, Tryz.underlying123, ha, Result.andThen, ar_elemOfP, ar_mkS]
theorem ar_rls (v x : Value) : ReflectliteValue.set #[v, x] = (do
    let (some (dst, a, fl), some (src, b, _)) := (← ReflectliteValue.parts v, ← ReflectliteValue.parts x)
      | unsupported (.noEntry "extern/(internal/reflectlite.Value).Set.zeroValue")
    if fl / ReflectliteValue.flagAddr % 2 == 0 then unsupported (.noEntry "extern/(internal/reflectlite.Value).Set.unaddressable")
    let val ← loadVar src b
    if ← Rtype.directlyAssignable dst src then storeVar dst a val
    else if ← Rtype.implements dst src then
      if (← Rtype.kind src) == 20 then
        match val with
        | .nilIface => unsupported (.noEntry "extern/reflectlite: a nil value of one interface type handed on as a value of another")
        | _ => storeVar dst a val
      else storeVar dst a (.iface src val)
    else panicString ("reflectlite.Set: value of type " ++ (← Rtype.spelt src) ++ " is not assignable to type " ++ (← Rtype.spelt dst))
    pure (.tuple #[])) := rfl
theorem ar_partsSa (a : Addr) (w : World) : (ReflectliteValue.parts (.agg #[.pointer (some ⟨4, 115, none⟩), .pointer (some a), .int .u64 409])).run Tryz.prog w = .ok (some (115, a, 409)) w := by kernel_rfl
theorem ar_partsS (a : Addr) (w : World) : (ReflectliteValue.parts (.agg #[.pointer (some ⟨4, 115, none⟩), .pointer (some a), .int .u64 153])).run Tryz.prog w = .ok (some (115, a, 153)) w := by kernel_rfl
theorem ar_directS (w : World) : (Rtype.directlyAssignable 115 115).run Tryz.prog w = .ok true w := by kernel_rfl
theorem ar_setS (ta b : Nat) (c : Int) (u old0 old1 : Value) (W : World) (hu : u.oneCell' = true) (hb0 : W.cell? ⟨b, 0, none⟩ = some (.int .i64 c)) (hb1 : W.cell? ⟨b, 1, none⟩ = some u) (ht0 : W.cell? ⟨ta, 0, none⟩ = some old0) (hf0 : W.frozen? ⟨ta, 0, none⟩ = false) (ht1 : W.cell? ⟨ta, 1, none⟩ = some old1) (hf1 : W.frozen? ⟨ta, 1, none⟩ = false) :
    (ReflectliteValue.set #[.agg #[.pointer (some ⟨4, 115, none⟩), .pointer (some ⟨ta, 0, none⟩), .int .u64 409], .agg #[.pointer (some ⟨4, 115, none⟩), .pointer (some ⟨b, 0, none⟩), .int .u64 153]]).run Tryz.prog W
      = .ok (.tuple #[]) ((W.setCell ⟨ta, 0, none⟩ (.int .i64 c)).setCell ⟨ta, 1, none⟩ u) := by
  rw [ar_rls]
  simp only [Sem.run_bind, ar_partsSa, ar_partsS, Result.andThen]
  simp [ReflectliteValue.flagAddr, loadVar, isAgg, underlying, Tryz.underlying115, hb0, hb1, Result.andThen, ar_directS, loadCells, loadCellsFrom, storeVar, Value.cells, storeCells, Addr.add]
  rw [run_store Tryz.prog W ⟨ta, 0, none⟩ _ _ (by rfl)]
  simp [ht0, hf0]
  rw [run_store Tryz.prog _ ⟨ta, 1, none⟩ _ _ hu]
  simp [ht1, hf1, World.cell?_setCell_other, World.frozen?_setCell]
end Go.Proofs.YtkdoigibpaempaaGreatDoor
namespace Go.Proofs.YtkdoigibpaempaaGreatDoor
open Go.RowKit Go.Extern.Stop Go.Stop Go.Extern
set_option maxHeartbeats 4000000 in
theorem ar_hit (c : Int) (u : Value) (tb : Nat) (old0 old1 : Value) (w : World) (hu : u.oneCell' = true) (hg : w.cell? ⟨3, 0, none⟩ = some (.iface 148 (.agg #[.pointer (some ⟨4, 87, none⟩)]))) (ht0 : w.cell? ⟨tb, 0, none⟩ = some old0) (hf0 : w.frozen? ⟨tb, 0, none⟩ = false) (ht1 : w.cell? ⟨tb, 1, none⟩ = some old1) (hf1 : w.frozen? ⟨tb, 1, none⟩ = false) :
    Calls Tryz.prog 68 #[.iface 115 (.agg #[.int .i64 c, u]), .iface 123 (.pointer (some ⟨tb, 0, none⟩))] w fun ev w' => ev = .returned (.bool true) ∧ w' = (((((w.alloc (.cells #[.pointer (some ⟨tb, 0, none⟩)] 123)).alloc (.cells #[.pointer (some ⟨4, 123, none⟩), .pointer (some ⟨w.heap.size, 0, none⟩), .int .u64 150] 160)).alloc (.cells #[.pointer (some ⟨4, 123, none⟩), .pointer (some ⟨w.heap.size, 0, none⟩), .int .u64 150] 160)).alloc (.cells #[.int .i64 c, u] 115)).setCell ⟨tb, 0, none⟩ (.int .i64 c)).setCell ⟨tb, 1, none⟩ u := by
  have x1 := @run_callFunc_extern Tryz.prog 92 _ (fun args => ReflectliteValue.unpack (args.getD 0 (.tuple #[]))) Tryz.func92 (by kernel_rfl) (by kernel_rfl) (by kernel_rfl) (by kernel_rfl)
  have x2 := @run_callFunc_extern Tryz.prog 93 _ (ReflectliteValue.methodAny (ReflectliteValue.valueError "reflectlite.Value.Type" 0) (fun t _ _ _ => ReflectliteType.toType t)) Tryz.func93 (by kernel_rfl) (by kernel_rfl) (by kernel_rfl) (by kernel_rfl)
  have x3 := @run_callFunc_extern Tryz.prog 94 _ (ReflectliteValue.method (ReflectliteValue.valueError "reflectlite.Value.IsNil" 0) ReflectliteValue.isNil) Tryz.func94 (by kernel_rfl) (by kernel_rfl) (by kernel_rfl) (by kernel_rfl)
  have x4 := @run_callFunc_extern Tryz.prog 196 _ (ReflectliteType.abiMethod fun t => do pure (.int .u8 (← Rtype.kind t))) Tryz.func196 (by kernel_rfl) (by kernel_rfl) (by kernel_rfl) (by kernel_rfl)
  have x5 := @run_callFunc_extern Tryz.prog 207 _ (ReflectliteType.method ReflectliteType.elem) Tryz.func207 (by kernel_rfl) (by kernel_rfl) (by kernel_rfl) (by kernel_rfl)
  have x6 := @run_callFunc_extern Tryz.prog 208 _ (ReflectliteType.relation "Implements" ReflectliteType.implements_) Tryz.func208 (by kernel_rfl) (by kernel_rfl) (by kernel_rfl) (by kernel_rfl)
  have x7 := @run_callFunc_extern Tryz.prog 66 _ ReflectliteType.typeOf Tryz.func66 (by kernel_rfl) (by kernel_rfl) (by kernel_rfl) (by kernel_rfl)
  have x8 := @run_callFunc_extern Tryz.prog 205 _ (ReflectliteType.relation "AssignableTo" ReflectliteType.assignableTo) Tryz.func205 (by kernel_rfl) (by kernel_rfl) (by kernel_rfl) (by kernel_rfl)
  have x9 := @run_callFunc_extern Tryz.prog 115 _ (ReflectliteValue.method (ReflectliteValue.valueError "reflectlite.Value.Elem" 0) ReflectliteValue.elem) Tryz.func115 (by kernel_rfl) (by kernel_rfl) (by kernel_rfl) (by kernel_rfl)
  have x10 := @run_callFunc_extern Tryz.prog 116 _ ReflectliteValue.set Tryz.func116 (by kernel_rfl) (by kernel_rfl) (by kernel_rfl) (by kernel_rfl)
  have tO := ar_typeOfS
  have mA := ar_methodAssignableTo
  have a25 := ar_assignableS
  have v25 := ar_valueOfS
  have f6 := ar_valueOfP
  have f7 := ar_typeP
  have mK := ar_methodKind
  have mE := ar_methodElem
  have mI := ar_methodImplements
  have k27 := ar_kindP
  have k25 := ar_kindS
  have e27 := ar_elemP
  have i25 := ar_implementsS
  have n8 := ar_isNilP ⟨w.heap.size, 0, none⟩ ⟨tb, 0, none⟩ ((w.alloc (.cells #[.pointer (some ⟨tb, 0, none⟩)] 123)).alloc (.cells #[.pointer (some ⟨4, 123, none⟩), .pointer (some ⟨w.heap.size, 0, none⟩), .int .u64 150] 160)) (by simp)
  have hlt : 3 < w.heap.size := World.block_lt_of_cell? w ⟨3, 0, none⟩ hg
  have hg2 : ((w.alloc (.cells #[.pointer (some ⟨tb, 0, none⟩)] 123)).alloc (.cells #[.pointer (some ⟨4, 123, none⟩), .pointer (some ⟨w.heap.size, 0, none⟩), .int .u64 150] 160)).cell? ⟨3, 0, none⟩ = some (.iface 148 (.agg #[.pointer (some ⟨4, 87, none⟩)])) := by
    rw [World.cell?_alloc_lt _ _ ⟨3, 0, none⟩ (by simp <;> omega), World.cell?_alloc_lt _ _ ⟨3, 0, none⟩ hlt]; exact hg
  have htl : tb < w.heap.size := World.block_lt_of_cell? w ⟨tb, 0, none⟩ ht0
  have el := ar_elemVP ⟨w.heap.size, 0, none⟩ ⟨tb, 0, none⟩ (((w.alloc (.cells #[.pointer (some ⟨tb, 0, none⟩)] 123)).alloc (.cells #[.pointer (some ⟨4, 123, none⟩), .pointer (some ⟨w.heap.size, 0, none⟩), .int .u64 150] 160)).alloc (.cells #[.pointer (some ⟨4, 123, none⟩), .pointer (some ⟨w.heap.size, 0, none⟩), .int .u64 150] 160)) (by rw [World.cell?_alloc_lt _ _ ⟨w.heap.size, 0, none⟩ (by simp <;> omega)]; simp)
  have st := ar_setS tb (w.heap.size + 1 + 1 + 1) c u old0 old1 ((((w.alloc (.cells #[.pointer (some ⟨tb, 0, none⟩)] 123)).alloc (.cells #[.pointer (some ⟨4, 123, none⟩), .pointer (some ⟨w.heap.size, 0, none⟩), .int .u64 150] 160)).alloc (.cells #[.pointer (some ⟨4, 123, none⟩), .pointer (some ⟨w.heap.size, 0, none⟩), .int .u64 150] 160)).alloc (.cells #[.int .i64 c, u] 115)) hu
    (by rw [World.cell?_alloc_at _ _ _ _ (by simp)]; rfl)
    (by rw [World.cell?_alloc_at _ _ _ _ (by simp)]; rfl)
    (by rw [World.cell?_alloc_lt _ _ ⟨tb, 0, none⟩ (by simp <;> omega), World.cell?_alloc_lt _ _ ⟨tb, 0, none⟩ (by simp <;> omega), World.cell?_alloc_lt _ _ ⟨tb, 0, none⟩ (by simp <;> omega), World.cell?_alloc_lt _ _ ⟨tb, 0, none⟩ htl]; exact ht0)
    (by rw [World.frozen?_alloc_old _ _ ⟨tb, 0, none⟩ (by simp <;> omega), World.frozen?_alloc_old _ _ ⟨tb, 0, none⟩ (by simp <;> omega), World.frozen?_alloc_old _ _ ⟨tb, 0, none⟩ (by simp <;> omega), World.frozen?_alloc_old _ _ ⟨tb, 0, none⟩ (Nat.ne_of_lt htl)]; exact hf0)
    (by rw [World.cell?_alloc_lt _ _ ⟨tb, 1, none⟩ (by simp <;> omega), World.cell?_alloc_lt _ _ ⟨tb, 1, none⟩ (by simp <;> omega), World.cell?_alloc_lt _ _ ⟨tb, 1, none⟩ (by simp <;> omega), World.cell?_alloc_lt _ _ ⟨tb, 1, none⟩ htl]; exact ht1)
    (by rw [World.frozen?_alloc_old _ _ ⟨tb, 1, none⟩ (by simp <;> omega), World.frozen?_alloc_old _ _ ⟨tb, 1, none⟩ (by simp <;> omega), World.frozen?_alloc_old _ _ ⟨tb, 1, none⟩ (by simp <;> omega), World.frozen?_alloc_old _ _ ⟨tb, 1, none⟩ (Nat.ne_of_lt htl)]; exact hf1)
  go_enter Tryz.func68, Tryz.ntmps68
  go_wp2
  refine wp_loop_rounds 1 ?_
  rw [rounds_succ]
  go_wp2
  go_ret
  exact ⟨rfl, rfl⟩
set_option maxHeartbeats 1000000 in
theorem ar_nil (v : Value) (w : World) : Calls Tryz.prog 68 #[.nilIface, v] w fun e w' => e = .returned (.bool false) ∧ w' = w := by
  go_enter Tryz.func68, Tryz.ntmps68
  go_wp2
  go_ret
  exact ⟨rfl, rfl⟩
end Go.Proofs.YtkdoigibpaempaaGreatDoor
