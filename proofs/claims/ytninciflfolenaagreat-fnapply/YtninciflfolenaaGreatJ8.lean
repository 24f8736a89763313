/- Texts of stores, joined: RwJ, Draw, DrawP. -/
import Derived.Test.YtninciflfolenaaGreatJ7
import Derived.Test.YtninciflfolenaaGreatRows
import Derived.WalkKit
import Derived.WalkSpells
import Derived.Handy
import Derived.BigQuiet
import Derived.Deep.QuietTactic
import Derived.Laws.BitsAllLaws
import Derived.Test.YtninciflfolenaaGreatJ2
namespace Go.Proofs.YtninciflfolenaaGreat
open Go.RowKit
set_option linter.unusedSimpArgs false
set_option linter.unusedVariables false
set_option maxRecDepth 100000 in
set_option maxHeartbeats 2000000 in
theorem impl_right (now : Int) (r : Rw) (a : Option Addr) (cap : Nat) (w : World) (hm : r.2.2.2.2.length ≤ 1099511627776) (hc : r.2.2.2.2.length ≤ cap) (h : Pts w a r.2.2.2.2) : Calls Tryz.prog 26 #[rwv r a cap, .int .i64 now] w fun e w' => e = .returned (.bool (rowb now r)) ∧ Below w.heap.size w w' := by
  obtain ⟨id, fr, te, kd, ps⟩ := r
  have HS := hid (fun (W : World) (hb : Below w.heap.size w W) => impl_ShapeOk kd a cap ps W hm hc (h.below hb))
  have HID := hid (fun w => impl_id id w)
  have HRB := hid (show rowb now (id, fr, te, kd, ps) = (idb id && (decide (1 ≤ fr) && decide (fr ≤ now)) && (decide (te = 0) || (decide (fr < te) && decide (te ≤ now))) && shok kd ps) from rfl)
  unfold rwv
  unfold shv at HS
  simp only
  clear h hm hc
  generalize rowb now (id, fr, te, kd, ps) = rb at *
  generalize shok kd ps = so at *
  generalize ps.length = n at *
  generalize idb id = ib at *
  generalize hE : (decide (te = 0) || (decide (fr < te) && decide (te ≤ now))) = E at *
  go_enter Tryz.func26, Tryz.ntmps26
  go_upto_region 1 with fail
  have hBx : Below w.heap.size w (w.alloc (.cells #[.int .i64 id, .int .i64 fr, .int .i64 te, .int .i64 kd, .slice a n cap] 55)) := balloc (Below.refl _ _) _
  have gx := new_alloc w w.heap.size (.cells #[.int .i64 id, .int .i64 fr, .int .i64 te, .int .i64 kd, .slice a n cap] 55) rfl
  generalize w.alloc (.cells #[.int .i64 id, .int .i64 fr, .int .i64 te, .int .i64 kd, .slice a n cap] 55) = W1 at *
  obtain ⟨⟨x0, x1, x2, x3, x4⟩, _⟩ := cell5g gx
  go_cut [5] from 6 to 21 (fun t wx => t = .bool E ∧ wx = W1)
  case first =>
    by_cases h1 : te = 0
    · have q1 : (te == 0) = true := by simpa using h1
      go_wp2_with fail
      go_meet
      exact ⟨by rw [← hE]; simp [h1], rfl⟩
    · have q1 : (te == 0) = false := by simpa using h1
      by_cases h2 : fr < te
      · go_wp2_with fail
        go_meet
        exact ⟨by rw [← hE]; simp [h1, h2], rfl⟩
      · have q2 : decide (fr < te) = false := by simpa using h2
        have q3 : te ≤ fr := by omega
        go_wp2_with fail
        go_meet
        exact ⟨by rw [← hE, q2]; simp [h1], rfl⟩
  case rest =>
    obtain ⟨rfl, rfl⟩ := hcut
    clear hE
    cases ib
    · go_wp2_with fail
      refine (HID.out _).mono ?_
      rintro e z ⟨rfl, hw⟩
      replace hw := hw.symm
      subst hw
      go_wp2_with fail
      go_ret
      exact ⟨by rw [HRB.out]; rfl, hBx⟩
    by_cases h1 : 1 ≤ fr
    · by_cases h2 : fr ≤ now
      · cases E
        · go_wp2_with fail
          refine (HID.out _).mono ?_
          rintro e z ⟨rfl, hw⟩
          replace hw := hw.symm
          subst hw
          go_wp2_with fail
          go_ret
          exact ⟨by rw [HRB.out]; simp [h1, h2], hBx⟩
        · go_wp2_with fail
          refine (HID.out _).mono ?_
          rintro e z ⟨rfl, hw⟩
          replace hw := hw.symm
          subst hw
          go_wp2_with fail
          refine (HS.out _ hBx).mono ?_
          rintro e z ⟨rfl, hz⟩
          go_wp2_with fail
          go_ret
          exact ⟨by rw [HRB.out]; simp [h1, h2], btrans hBx hz⟩
      · have q2 : decide (fr ≤ now) = false := by simpa using h2
        have q3 : now < fr := by omega
        go_wp2_with fail
        refine (HID.out _).mono ?_
        rintro e z ⟨rfl, hw⟩
        replace hw := hw.symm
        subst hw
        go_wp2_with fail
        go_ret
        exact ⟨by rw [HRB.out, q2]; simp, hBx⟩
    · have q2 : decide (1 ≤ fr) = false := by simpa using h1
      have q3 : fr < 1 := by omega
      go_wp2_with fail
      refine (HID.out _).mono ?_
      rintro e z ⟨rfl, hw⟩
      replace hw := hw.symm
      subst hw
      go_wp2_with fail
      go_ret
      exact ⟨by rw [HRB.out, q2]; simp, hBx⟩
theorem els_of_rows {N : Nat → Prop} {w : World} {b o : Nat} (rs : List Rw) (h : RwsAt N w b o rs) : ∃ xs : List El, xs.length = rs.length ∧ xs.map trE = rs.map tr ∧ ElsAt w b o xs := by
  have hex : ∀ j : Nat, ∃ x : El, ∀ (hj : j < rs.length), trE x = tr rs[j] ∧ w.cell? ⟨b, o + j * 5, none⟩ = some (.int .i64 x.1) ∧ w.cell? ⟨b, o + j * 5 + 1, none⟩ = some (.int .i64 x.2.1) ∧ w.cell? ⟨b, o + j * 5 + 2, none⟩ = some (.int .i64 x.2.2.1) ∧ w.cell? ⟨b, o + j * 5 + 3, none⟩ = some (.int .i64 x.2.2.2.1) ∧ w.cell? ⟨b, o + j * 5 + 4, none⟩ = some (.slice x.2.2.2.2.1 x.2.2.2.2.2.1 x.2.2.2.2.2.2) := by
    intro j
    by_cases hj : j < rs.length
    · obtain ⟨a, cap, k0, k1, k2, k3, k4, _⟩ := h j hj
      exact ⟨(rs[j].1, rs[j].2.1, rs[j].2.2.1, rs[j].2.2.2.1, a, rs[j].2.2.2.2.length, cap), fun _ => ⟨rfl, k0, k1, k2, k3, k4⟩⟩
    · exact ⟨(0, 0, 0, 0, none, 0, 0), fun h' => absurd h' hj⟩
  have ⟨f, hf⟩ := Classical.axiomOfChoice hex
  refine ⟨(List.range rs.length).map f, by simp, ?_, ?_⟩
  · apply List.ext_getElem (by simp)
    intro j h1 h2
    simp only [List.length_map] at h2
    simp only [List.getElem_map, List.getElem_range]
    exact (hf j h2).1
  · intro j hj
    simp only [List.length_map, List.length_range] at hj
    have e : ((List.range rs.length).map f)[j]'(by simpa using hj) = f j := by simp
    rw [e]
    exact (hf j hj).2
theorem apart_rows {N : Nat → Prop} (now : Int) (a : Option Addr) (cap : Nat) (rs : List Rw) (w : World) (hl : rs.length ≤ 300) (h : Rws N w a rs) (hr : ∀ m (h : m < rs.length), rowb now rs[m] = true) : Calls Tryz.prog 27 #[.slice a rs.length cap] w fun e w' => e = .returned (.bool (apartR (rs.map tr))) ∧ Below w.heap.size w w' := by
  by_cases h0 : rs.length = 0
  · have e : rs = [] := List.eq_nil_of_length_eq_zero h0
    subst e
    exact rows_apart0 a cap w
  · rcases h with h | ⟨b, o, rfl, hb, hA⟩
    · subst h; exact absurd rfl h0
    · obtain ⟨xs, h1, h2, h3⟩ := els_of_rows rs hA
      rw [← h1, ← h2]
      refine rows_apart b o cap xs w (by omega) (by omega) hb h3 (fun x hx => ?_)
      have hm : trE x ∈ rs.map tr := by rw [← h2]; exact List.mem_map_of_mem hx
      obtain ⟨r, hr1, hr2⟩ := List.mem_map.1 hm
      rw [← hr2]
      obtain ⟨m, hm1, rfl⟩ := List.mem_iff_getElem.1 hr1
      have := hr m hm1
      unfold rowb at this
      simp only [Bool.and_eq_true] at this
      exact rwb_tmb this.1
set_option maxRecDepth 100000 in
set_option maxHeartbeats 4000000 in
theorem impl_RowsOk {N : Nat → Prop} (now : Int) (a : Option Addr) (cap : Nat) (rs : List Rw) (w : World) (hm : rs.length ≤ 1099511627776) (h : Rws N w a rs) : Calls Tryz.prog 9 #[.agg #[.int .i64 now, .slice a rs.length cap]] w fun e w' => e = .returned (.bool (rowsb now rs)) ∧ Below w.heap.size w w' := by
  have HAP := hid (fun (W : World) (hb : Below w.heap.size w W) (hl : rs.length ≤ 300) (hr : ∀ m (h : m < rs.length), rowb now rs[m] = true) => apart_rows now a cap rs W hl (h.below hb) hr)
  have HR := hid h
  clear h
  obtain ⟨n, hn⟩ : ∃ n, n = rs.length := ⟨_, rfl⟩
  have HN := hid hn.symm
  rw [← hn] at hm ⊢
  clear hn
  by_cases h0 : now < 0
  · rw [rowsb_now h0]
    go_enter Tryz.func9, Tryz.ntmps9
    go_wp2_with fail
    go_ret
    exact ⟨rfl, balloc (Below.refl _ _) _⟩
  by_cases hl : 300 < n
  · rw [rowsb_long (by rw [HN.out]; exact hl)]
    have hl' : (300 : Int) < (n : Int) := by omega
    go_enter Tryz.func9, Tryz.ntmps9
    go_wp2_with fail
    go_ret
    exact ⟨rfl, balloc (Below.refl _ _) _⟩
  have hl' : (n : Int) ≤ 300 := by omega
  have hld : decide ((300 : Int) < (n : Int)) = false := by rw [decide_eq_false_iff_not]; omega
  go_enter Tryz.func9, Tryz.ntmps9
  go_wp2_with fail
  have g1 := new_alloc w w.heap.size (.cells #[.int .i64 now, .slice a n cap] 26) rfl
  have hB := balloc (Below.refl w.heap.size w) (.cells #[.int .i64 now, .slice a n cap] 26)
  generalize w.alloc (.cells #[.int .i64 now, .slice a n cap] 26) = W at *
  clear hld
  go_loopw [17] (fun ti wr => ∃ i : Nat, ti = .int .i64 i ∧ i ≤ n ∧ Hid (∀ m (h : m < rs.length), m < i → rowb now rs[m] = true) ∧ Hid (wr.heap[w.heap.size]? = some (.cells #[.int .i64 now, .slice a n cap] 26 (0, 0))) ∧ Hid (Below w.heap.size w wr)) (fun ti _ => n - (intOf ti).toNat)
  case atStart => exact ⟨0, rfl, Nat.zero_le _, hid (fun m h hh => absurd hh (by omega)), hid g1, hid hB⟩
  case round =>
    clear g1 hB
    obtain ⟨i, rfl, hi, HA, G1, HBW⟩ := hrel
    obtain ⟨d0, d1, _, _⟩ := cell2f G1.out
    by_cases hlt : i < n
    · have c1 : (i : Int) < (n : Int) := by omega
      have hir : i < rs.length := by rw [HN.out]; exact hlt
      obtain ⟨b, o, rfl, hbs, a', cap', k0, k1, k2, k3, k4, k5, k6, k7, _⟩ := (HR.out.below HBW.out).at i hir
      have HRI := hid (fun (W : World) (hb : Below wr.heap.size wr W) => impl_right now rs[i] a' cap' W k6 k5 (k7.below hb))
      unfold rwv at HRI
      have HRF := hid (fun (hr : rowb now rs[i] = false) => rowsb_row (now := now) hir hr)
      clear k5 k6 k7
      have HROW : Hid (∀ rb, rowb now rs[i] = rb → rb = true → ∀ m (h : m < rs.length), m < i + 1 → rowb now rs[m] = true) := hid (fun rb e1 e2 m h hm => by
        by_cases e : m = i
        · subst e; rw [e1, e2]
        · exact HA.out m h (by omega))
      have hrow : ∃ rb, rowb now rs[i] = rb := ⟨_, rfl⟩
      obtain ⟨rb, hrb⟩ := hrow
      have HR2 := hid (HROW.out rb hrb)
      have HR3 : Hid (rb = false → rowsb now rs = false) := hid (fun e => HRF.out (by rw [hrb, e]))
      rw [hrb] at HRI
      clear hrb HROW HRF
      generalize rs[i].1 = id at *
      generalize rs[i].2.1 = fr at *
      generalize rs[i].2.2.1 = te at *
      generalize rs[i].2.2.2.1 = kd at *
      generalize rs[i].2.2.2.2.length = np at *
      go_upto_region 6 with fail
      have hBx : Below wr.heap.size wr (wr.alloc (.cells #[.int .i64 id, .int .i64 fr, .int .i64 te, .int .i64 kd, .slice a' np cap'] 55)) := balloc (Below.refl _ _) _
      have gx := new_alloc wr wr.heap.size (.cells #[.int .i64 id, .int .i64 fr, .int .i64 te, .int .i64 kd, .slice a' np cap'] 55) rfl
      have g1 := keepheap2 hBx G1.out
      have hB := btrans HBW.out hBx
      clear d0 d1 k0 k1 k2 k3 k4
      generalize wr.alloc (.cells #[.int .i64 id, .int .i64 fr, .int .i64 te, .int .i64 kd, .slice a' np cap'] 55) = W1 at *
      obtain ⟨⟨x0, x1, x2, x3, x4⟩, _⟩ := cell5g gx
      obtain ⟨d0, d1, _, _⟩ := cell2f g1
      cases rb
      · go_wp2_with fail
        refine (HRI.out _ hBx).mono ?_
        rintro e z ⟨rfl, hz⟩
        have HF := hid (HR3.out trivial)
        go_wp2_with fail
        go_ret
        exact ⟨by rw [HF.out]; rfl, btrans hB hz⟩
      · go_wp2_with fail
        refine (HRI.out _ hBx).mono ?_
        rintro e z ⟨rfl, hz⟩
        have HF := hid (HR2.out trivial)
        have G2 := hid (keepheap2 hz g1)
        have HB2 := hid (btrans hB hz)
        clear hz hB gx g1 x0 x1 x2 x3 x4 d0 d1
        go_wp2_with fail
        go_roundw
        case rel => exact ⟨i + 1, by go_num, by omega, HF, G2, HB2⟩
        case measure => simp [intOf]; omega
    · have hall : ∀ m (h : m < rs.length), rowb now rs[m] = true := fun m h => HA.out m h (by rw [HN.out] at h; omega)
      have HF := hid (show rowsb now rs = apartR (rs.map tr) by
        unfold rowsb
        have e1 : decide (0 ≤ now) = true := by simpa using (show 0 ≤ now by omega)
        have e2 : decide (rs.length ≤ 300) = true := by rw [HN.out]; simpa using (show n ≤ 300 by omega)
        have e3 : rs.all (rowb now) = true := by
          rw [List.all_eq_true]
          intro x hx
          obtain ⟨m, hm1, rfl⟩ := List.mem_iff_getElem.1 hx
          exact hall m hm1
        rw [e1, e2, e3]
        rfl)
      have hcc := HAP.out wr HBW.out (by rw [HN.out]; omega) hall
      rw [HN.out] at hcc
      have HC := hid hcc
      clear hcc
      have c1 : (n : Int) ≤ (i : Int) := by omega
      clear hall
      go_wp2_with fail
      refine HC.out.mono ?_
      rintro e z ⟨rfl, hz⟩
      go_wp2_with fail
      go_ret
      exact ⟨by rw [HF.out]; rfl, btrans HBW.out hz⟩
end Go.Proofs.YtninciflfolenaaGreat
namespace Go.Proofs.YtninciflfolenaaGreat
open Go.RowKit
theorem and255 (x : Int) : 0 ≤ bits .and .i64 x 255 ∧ bits .and .i64 x 255 ≤ 255 := by
  have h : bits .and .i64 x 255 = IntKind.i64.wrap ((BitVec.ofInt 64 x &&& BitVec.ofInt 64 255).toNat : Int) := rfl
  have hle : (BitVec.ofInt 64 x &&& BitVec.ofInt 64 255).toNat ≤ 255 := by
    rw [BitVec.toNat_and]
    exact Nat.le_trans Nat.and_le_right (by decide)
  rw [h, IntWalk.i64_in _ ⟨by omega, by omega⟩]; omega
/-- The bytes of a code that came in lie in a block below B. -/
def CodeAt (w : World) (a : Option Addr) (len B : Nat) : Prop :=
  len ≤ 1048576 ∧ (len = 0 ∨ ∃ b off, a = some ⟨b, off, none⟩ ∧ b < B ∧ ∀ k, k < len → ∃ z : Int, 0 ≤ z ∧ z ≤ 255 ∧ w.cell? ⟨b, off + k, none⟩ = some (.int .u8 z))
/-- A cursor over a code: its block. -/
def CurAt (w : World) (p : Nat) (a : Option Addr) (len cap : Nat) : Prop :=
  ∃ i : Nat, ∃ h : Int, i ≤ len ∧ w.heap[p]? = some (.cells #[.slice a len cap, .int .i64 i, .int .i64 h] 71 (0, 0))
theorem cell3 {w : World} {p : Nat} {x y z : Value} {t : TypeId} (h : w.heap[p]? = some (.cells #[x, y, z] t (0, 0))) :
    w.cell? ⟨p, 0, none⟩ = some x ∧ w.cell? ⟨p, 1, none⟩ = some y ∧ w.cell? ⟨p, 2, none⟩ = some z ∧ w.frozen? ⟨p, 1, none⟩ = false ∧ w.frozen? ⟨p, 2, none⟩ = false := by
  simp [World.cell?, World.frozen?, h]
theorem set3_2 {w : World} {p : Nat} {x y z u : Value} {t : TypeId} (h : w.heap[p]? = some (.cells #[x, y, z] t (0, 0))) : (w.setCell ⟨p, 2, none⟩ u).heap[p]? = some (.cells #[x, y, u] t (0, 0)) := by
  have hlt := lt_of_block h
  have h' : w.heap[p] = .cells #[x, y, z] t (0, 0) := by simpa [Array.getElem?_eq_getElem hlt] using h
  show (w.heap.modify p _)[p]? = _
  rw [Array.getElem?_eq_getElem (by simpa using hlt), Array.getElem_modify_self, h']
  rfl
theorem set3_1 {w : World} {p : Nat} {x y z u : Value} {t : TypeId} (h : w.heap[p]? = some (.cells #[x, y, z] t (0, 0))) : (w.setCell ⟨p, 1, none⟩ u).heap[p]? = some (.cells #[x, u, z] t (0, 0)) := by
  have hlt := lt_of_block h
  have h' : w.heap[p] = .cells #[x, y, z] t (0, 0) := by simpa [Array.getElem?_eq_getElem hlt] using h
  show (w.heap.modify p _)[p]? = _
  rw [Array.getElem?_eq_getElem (by simpa using hlt), Array.getElem_modify_self, h']
  rfl
theorem grown_set (w : World) (p j : Nat) (u : Value) : w.grownBy (w.setCell ⟨p, j, none⟩ u) (some p) :=
  ⟨rfl, rfl, rfl, by simp, fun k _ hk => by
    show (w.heap.modify p _)[k]? = _
    rw [Array.getElem?_modify, if_neg (fun e => hk (by rw [e]))]⟩
theorem grown_drew {w w' : World} {r : Option Nat} (h : w.grownBy w' r) (n : Nat) : w.grownBy (w'.drewN n) r := ⟨h.os, h.tape, h.output, h.size, h.block⟩
theorem grown_trans {w w1 w2 : World} {r : Option Nat} (h : w.grownBy w1 r) (k : w1.grownBy w2 r) : w.grownBy w2 r :=
  ⟨k.os.trans h.os, k.tape.trans h.tape, k.output.trans h.output, Nat.le_trans h.size k.size, fun i hi hne => (k.block i (Nat.lt_of_lt_of_le hi h.size) hne).trans (h.block i hi hne)⟩
theorem grown_same (w : World) (r : Option Nat) : w.grownBy w r := ⟨rfl, rfl, rfl, Nat.le_refl _, fun _ _ _ => rfl⟩
set_option maxRecDepth 100000 in
set_option maxHeartbeats 400000 in
theorem new_c (w : World) (a : Option Addr) (len cap : Nat) (hc : CodeAt w a len w.heap.size) : Calls Tryz.prog 15 #[.slice a len cap] w fun e w' => ∃ h : Int, e = .returned (.pointer (some ⟨w.heap.size, 0, none⟩)) ∧ w' = w.alloc (.cells #[.slice a len cap, .int .i64 0, .int .i64 h] 71) := by
  obtain ⟨hl, hc⟩ := hc
  go_enter Tryz.func15, Tryz.ntmps15
  go_wp2
  go_loop [3, 4] (fun th ti => ∃ h : Int, ∃ i : Nat, th = .int .i64 h ∧ ti = .int .i64 i ∧ i ≤ len) (fun _ ti => len - (intOf ti).toNat)
  case atStart => exact ⟨_, 0, rfl, rfl, by omega⟩
  case round =>
    obtain ⟨h, i, rfl, rfl, hi⟩ := hrel
    by_cases hlt : i < len ∧ i < 4000
    · obtain ⟨h1, h2⟩ := hlt
      have c1 : (i : Int) < (len : Int) := by omega
      have c2 : (i : Int) < 4000 := by omega
      rcases hc with hc | ⟨b, off, rfl, hb, hc⟩
      · omega
      · obtain ⟨z, z0, z1, hz⟩ := hc i h1
        clear hc
        go_wp2
        go_round
        case rel => exact ⟨_, i + 1, rfl, by go_num, by omega⟩
        case measure => simp [intOf]; omega
    · clear hc
      by_cases h1 : i < len
      · have c1 : (i : Int) < (len : Int) := by omega
        have c2 : 4000 ≤ (i : Int) := by omega
        go_wp2
        go_ret
        exact ⟨rfl, h, rfl⟩
      · have c1 : (len : Int) ≤ (i : Int) := by omega
        go_wp2
        go_ret
        exact ⟨rfl, h, rfl⟩
set_option maxHeartbeats 1000000 in
theorem byte_c (w : World) (p : Nat) (a : Option Addr) (len cap : Nat) (hcur : CurAt w p a len cap) (hc : CodeAt w a len p) : Calls Tryz.prog 42 #[.pointer (some ⟨p, 0, none⟩)] w fun e w' => ∃ x : Int, e = .returned (.int .i64 x) ∧ 0 ≤ x ∧ x ≤ 255 ∧ CurAt w' p a len cap ∧ w.grownBy w' (some p) := by
  obtain ⟨i, h, hi, hblk⟩ := hcur
  obtain ⟨hl, hc⟩ := hc
  obtain ⟨k0, k1, k2, f1, f2⟩ := cell3 hblk
  by_cases hlt : i < len
  · have c1 : (i : Int) < (len : Int) := by omega
    rcases hc with hc | ⟨b, off, rfl, hb, hc⟩
    · omega
    · obtain ⟨z, z0, z1, hz⟩ := hc i hlt
      clear hc
      go_enter Tryz.func42, Tryz.ntmps42
      go_wp2
      go_quiet (fail)
      go_wp2
      go_quiet (fail)
      go_wp2
      go_quiet (fail)
      go_wp2
      go_ret
      refine ⟨_, rfl, (and255 _).1, (and255 _).2, ?_, ?_⟩
      · exact ⟨i + 1, _, by omega, set3_1 (set3_2 hblk)⟩
      · exact grown_trans (grown_drew (grown_set _ _ _ _) _) (grown_set _ _ _ _)
  · have c1 : (len : Int) ≤ (i : Int) := by omega
    clear hc
    go_enter Tryz.func42, Tryz.ntmps42
    go_wp2
    go_quiet (fail)
    go_wp2
    go_quiet (fail)
    go_wp2
    go_ret
    refine ⟨_, rfl, (and255 _).1, (and255 _).2, ?_, ?_⟩
    · exact ⟨i, _, by omega, set3_2 hblk⟩
    · exact grown_drew (grown_drew (grown_set _ _ _ _) _) _
theorem CodeAt.grown {w w' : World} {a : Option Addr} {len p : Nat} (h : CodeAt w a len p) (hg : w.grownBy w' (some p)) : CodeAt w' a len p := by
  obtain ⟨hl, h⟩ := h
  refine ⟨hl, ?_⟩
  rcases h with h | ⟨b, off, rfl, hb, h⟩
  · exact .inl h
  · refine .inr ⟨b, off, rfl, hb, fun k hk => ?_⟩
    obtain ⟨z, z0, z1, hz⟩ := h k hk
    exact ⟨z, z0, z1, hg.cell hz (fun e => by simp at e; omega)⟩
theorem CodeAt.below {w w' : World} {a : Option Addr} {len B : Nat} (h : CodeAt w a len B) (hb : Below B w w') : CodeAt w' a len B := by
  obtain ⟨hl, h⟩ := h
  refine ⟨hl, ?_⟩
  rcases h with h | ⟨b, off, rfl, hbb, h⟩
  · exact .inl h
  · refine .inr ⟨b, off, rfl, hbb, fun k hk => ?_⟩
    obtain ⟨z, z0, z1, hz⟩ := h k hk
    exact ⟨z, z0, z1, (hb.cell (p := ⟨b, off + k, none⟩) hbb).trans hz⟩
theorem CodeAt.mono {w : World} {a : Option Addr} {len B B' : Nat} (h : CodeAt w a len B) (hB : B ≤ B') : CodeAt w a len B' := by
  obtain ⟨hl, h⟩ := h
  refine ⟨hl, ?_⟩
  rcases h with h | ⟨b, off, rfl, hbb, h⟩
  · exact .inl h
  · exact .inr ⟨b, off, rfl, by omega, h⟩
/-- A cursor that can be drawn from. -/
def Ready (w : World) (p : Nat) (a : Option Addr) (len cap : Nat) : Prop := CurAt w p a len cap ∧ CodeAt w a len p
theorem Ready.lt {w : World} {p : Nat} {a : Option Addr} {len cap : Nat} (h : Ready w p a len cap) : p < w.heap.size := by
  obtain ⟨⟨i, x, _, hb⟩, _⟩ := h
  exact lt_of_block hb
theorem CurAt.alloc {w : World} {p : Nat} {a : Option Addr} {len cap : Nat} (h : CurAt w p a len cap) (o : Obj) : CurAt (w.alloc o) p a len cap := by
  obtain ⟨i, x, hi, hb⟩ := h
  exact ⟨i, x, hi, (Below.heap_alloc w o p (lt_of_block hb)).trans hb⟩
theorem Ready.alloc {w : World} {p : Nat} {a : Option Addr} {len cap : Nat} (h : Ready w p a len cap) (o : Obj) : Ready (w.alloc o) p a len cap :=
  ⟨h.1.alloc o, h.2.below ((Below.refl _ _).alloc (Nat.le_of_lt h.lt) o)⟩
theorem byte_r (w : World) (p : Nat) (a : Option Addr) (len cap : Nat) (h : Ready w p a len cap) : Calls Tryz.prog 42 #[.pointer (some ⟨p, 0, none⟩)] w fun e w' => ∃ x : Int, e = .returned (.int .i64 x) ∧ 0 ≤ x ∧ x ≤ 255 ∧ Ready w' p a len cap ∧ w.grownBy w' (some p) := by
  refine (byte_c w p a len cap h.1 h.2).mono ?_
  rintro e w' ⟨x, he, x0, x1, hc, hg⟩
  exact ⟨x, he, x0, x1, ⟨hc, h.2.grown hg⟩, hg⟩
set_option maxRecDepth 100000 in
set_option maxHeartbeats 400000 in
theorem below_r (w : World) (p : Nat) (a : Option Addr) (len cap : Nat) (n : Int) (h0 : 0 < n) (h1 : n ≤ 1000000) (h : Ready w p a len cap) : Calls Tryz.prog 18 #[.pointer (some ⟨p, 0, none⟩), .int .i64 n] w fun e w' => ∃ x : Int, e = .returned (.int .i64 x) ∧ 0 ≤ x ∧ x < n ∧ Ready w' p a len cap ∧ w.grownBy w' (some p) := by
  have hn : ¬ n = 0 := by omega
  by_cases h2 : n ≤ 256
  · go_enter Tryz.func18, Tryz.ntmps18
    go_wp2_with fail
    refine (byte_r _ p a len cap h).mono ?_
    rintro e w1 ⟨x, rfl, x0, x1, hr, hg⟩
    go_wp2_with fail
    go_ret
    exact ⟨_, rfl, Int.emod_nonneg _ hn, Int.emod_lt_of_pos _ h0, hr, hg⟩
  · have h3 : 256 < n := by omega
    go_enter Tryz.func18, Tryz.ntmps18
    go_wp2_with fail
    refine (byte_r _ p a len cap h).mono ?_
    rintro e w1 ⟨x, rfl, x0, x1, hr, hg⟩
    clear h
    go_wp2_with fail
    refine (byte_r _ p a len cap hr).mono ?_
    rintro e w2 ⟨y, rfl, y0, y1, hr2, hg2⟩
    replace hg := grown_trans hg hg2
    clear hr hg2
    go_wp2_with fail
    refine (byte_r _ p a len cap hr2).mono ?_
    rintro e w3 ⟨z, rfl, z0, z1, hr3, hg3⟩
    replace hg := grown_trans hg hg3
    clear hr2 hg3
    go_wp2_with fail
    refine (byte_r _ p a len cap hr3).mono ?_
    rintro e w4 ⟨u, rfl, u0, u1, hr4, hg4⟩
    replace hg := grown_trans hg hg4
    clear hr3 hg4
    go_wp2_with fail
    go_ret
    exact ⟨_, rfl, Int.emod_nonneg _ hn, Int.emod_lt_of_pos _ h0, hr4, hg⟩
theorem once_r (w : World) (p : Nat) (a : Option Addr) (len cap : Nat) (n : Int) (h0 : 0 < n) (h1 : n ≤ 1000000) (h : Ready w p a len cap) : Calls Tryz.prog 41 #[.pointer (some ⟨p, 0, none⟩), .int .i64 n] w fun e w' => ∃ b : Bool, e = .returned (.bool b) ∧ Ready w' p a len cap ∧ w.grownBy w' (some p) := by
  go_enter Tryz.func41, Tryz.ntmps41
  go_wp2_with fail
  refine (below_r _ p a len cap n h0 h1 h).mono ?_
  rintro e w1 ⟨x, rfl, x0, x1, hr, hg⟩
  go_wp2_with fail
  go_ret
  exact ⟨_, rfl, hr, hg⟩
theorem grown_alloc (w : World) (o : Obj) (r : Option Nat) : w.grownBy (w.alloc o) r := World.grownBy_alloc w o r
/-- A cursor that was just made. -/
theorem ready_new (w : World) (a : Option Addr) (len cap : Nat) (h : Int) (hc : CodeAt w a len w.heap.size) : Ready (w.alloc (.cells #[.slice a len cap, .int .i64 0, .int .i64 h] 71)) w.heap.size a len cap :=
  ⟨⟨0, h, Nat.zero_le _, heap_alloc_new w _⟩, hc.below ((Below.refl _ _).alloc (Nat.le_refl _) _)⟩
end Go.Proofs.YtninciflfolenaaGreat
namespace Go.Proofs.YtninciflfolenaaGreat
open Go.RowKit
set_option linter.unusedVariables false
theorem keepset3 {w : World} {p q : Addr} {v u : Value} (h : w.cell? p = some v) (hne : q.block ≠ p.block) : (w.setCell q u).cell? p = some v := by
  rw [World.cell?_setCell_far _ _ _ _ hne]; exact h
theorem cell2g {w : World} {p : Nat} {a b : Value} {t : TypeId} (h : w.heap[p]? = some (.cells #[a, b] t (0, 0))) : w.cell? ⟨p, 0, none⟩ = some a ∧ w.cell? ⟨p, 1, none⟩ = some b ∧ w.frozen? ⟨p, 0, none⟩ = false ∧ w.frozen? ⟨p, 1, none⟩ = false := by
  refine ⟨?_, ?_, ?_, ?_⟩ <;> simp [World.cell?, World.frozen?, h]
/-- A coordinate that is drawn. -/
def Cd (z : Int) : Prop := -40000 ≤ z ∧ z ≤ 40000
def IntsP (P : Int → Prop) (w : World) (q m : Nat) : Prop := ∀ k, k < m → ∃ z : Int, P z ∧ w.cell? ⟨q, k, none⟩ = some (.int .i64 z)
theorem intsP_new (P : Int → Prop) (w : World) (zs : List Int) (t : TypeId) (hz : ∀ z ∈ zs, P z) : IntsP P (w.alloc (.cells (zs.map (Value.int .i64)).toArray t)) w.heap.size zs.length := by
  intro k hk
  refine ⟨zs[k], hz _ (List.getElem_mem hk), ?_⟩
  have h := heap_alloc_new w (.cells (zs.map (Value.int .i64)).toArray t)
  rw [cell_of_row _ w.heap.size k _ t (0, 0) h]
  simp [hk]
set_option maxHeartbeats 400000 in
theorem pick_p (P : Int → Prop) (w : World) (p : Nat) (a : Option Addr) (len cap : Nat) (q m : Nat) (h0 : 0 < m) (h1 : m ≤ 1000) (hq : q ≠ p) (hi : IntsP P w q m) (h : Ready w p a len cap) : Calls Tryz.prog 39 #[.pointer (some ⟨p, 0, none⟩), .slice (some ⟨q, 0, none⟩) m m] w fun e w' => ∃ z : Int, e = .returned (.int .i64 z) ∧ P z ∧ Ready w' p a len cap ∧ w.grownBy w' (some p) := by
  go_enter Tryz.func39, Tryz.ntmps39
  go_wp2_with fail
  refine (below_r _ p a len cap (m : Int) (by omega) (by omega) h).mono ?_
  rintro e w1 ⟨x, rfl, x0, x1, hr, hg⟩
  obtain ⟨k, rfl⟩ := Int.eq_ofNat_of_zero_le x0
  obtain ⟨z, hz, hc⟩ := hi k (by omega)
  have hc1 := hg.cell hc (fun e => by simp at e; exact hq e)
  clear hc hi h
  go_wp2_with fail
  go_ret
  exact ⟨z, rfl, hz, hr, hg⟩
theorem CurAt.set {w : World} {p : Nat} {a : Option Addr} {len cap : Nat} (h : CurAt w p a len cap) {n k : Nat} (hn : p < n) (u : Value) : CurAt (w.setCell ⟨n, k, none⟩ u) p a len cap := by
  obtain ⟨i, x, hi, hb⟩ := h
  exact ⟨i, x, hi, set_far hb (by omega)⟩
theorem CodeAt.set {w : World} {a : Option Addr} {len p : Nat} (h : CodeAt w a len p) {n k : Nat} (hn : p ≤ n) (u : Value) : CodeAt (w.setCell ⟨n, k, none⟩ u) a len p := by
  obtain ⟨hl, h⟩ := h
  refine ⟨hl, ?_⟩
  rcases h with h | ⟨b, off, rfl, hb, h⟩
  · exact .inl h
  · refine .inr ⟨b, off, rfl, hb, fun k hk => ?_⟩
    obtain ⟨z, z0, z1, hz⟩ := h k hk
    exact ⟨z, z0, z1, keepset3 hz (by simp; omega)⟩
theorem Ready.set {w : World} {p : Nat} {a : Option Addr} {len cap : Nat} (h : Ready w p a len cap) {n k : Nat} (hn : p < n) (u : Value) : Ready (w.setCell ⟨n, k, none⟩ u) p a len cap := ⟨h.1.set hn u, h.2.set (by omega) u⟩
theorem grown_setn {w w1 : World} {r : Option Nat} (h : w.grownBy w1 r) {n k : Nat} (hn : w.heap.size ≤ n) (u : Value) : w.grownBy (w1.setCell ⟨n, k, none⟩ u) r :=
  ⟨h.os, h.tape, h.output, by simpa using h.size, fun i hi hne => by
    rw [← h.block i hi hne]
    show (w1.heap.modify n _)[i]? = _
    rw [Array.getElem?_modify, if_neg (by omega)]⟩
theorem grown_blk {w w1 : World} {p n : Nat} {o : Obj} (h : w.grownBy w1 (some p)) (hb : w.heap[n]? = some o) (hne : n ≠ p) : w1.heap[n]? = some o :=
  (h.block n (lt_of_block hb) (by simp; omega)).trans hb
theorem bgrown {w a b : World} {p : Nat} (h : Below w.heap.size w a) (hg : a.grownBy b (some p)) (hp : w.heap.size ≤ p) : Below w.heap.size w b :=
  h.grown hg h.size (fun k hk => by simp at hk; omega)
theorem set2 {w1 : World} {B : Nat} {o0 o1 : Value} {t : TypeId} (gz : w1.heap[B]? = some (.cells #[o0, o1] t (0, 0))) (a b : Value) :
    ((w1.setCell ⟨B, 0, none⟩ a).setCell ⟨B, 1, none⟩ b).heap[B]? = some (.cells #[a, b] t (0, 0)) ∧ (∀ C o, C ≠ B → w1.heap[C]? = some o → ((w1.setCell ⟨B, 0, none⟩ a).setCell ⟨B, 1, none⟩ b).heap[C]? = some o) :=
  ⟨set_at (set_at gz), fun C o hC h => set_far (set_far h hC) hC⟩
set_option maxRecDepth 100000 in
set_option maxHeartbeats 1000000 in
theorem coord_r (w : World) (p : Nat) (a : Option Addr) (len cap : Nat) (h : Ready w p a len cap) : Calls Tryz.prog 113 #[.pointer (some ⟨p, 0, none⟩)] w fun e w' => ∃ z : Int, e = .returned (.int .i64 z) ∧ Cd z ∧ Ready w' p a len cap ∧ w.grownBy w' (some p) := by
  go_enter Tryz.func113, Tryz.ntmps113
  go_wp2_with fail
  refine (once_r _ p a len cap 40 (by omega) (by omega) h).mono ?_
  rintro e w1 ⟨b, rfl, hr, hg⟩
  clear h
  cases b
  · go_wp2_with fail
    refine (below_r _ p a len cap 21 (by omega) (by omega) hr).mono ?_
    rintro e w2 ⟨z, rfl, z0, z1, hr2, hg2⟩
    replace hg := grown_trans hg hg2
    clear hg2 hr
    go_wp2_with fail
    go_ret
    exact ⟨_, rfl, by unfold Cd; omega, hr2, hg⟩
  · go_wp2_with fail
    refine (pick_p Cd _ p a len cap _ 4 (by omega) (by omega) ?_ (intsP_new Cd w1 [30000, -30000, 30001, -30001] 3 (by unfold Cd; decide)) (hr.alloc _)).mono ?_
    · have := hr.lt; omega
    · rintro e w2 ⟨z, rfl, hz, hr2, hg2⟩
      replace hg := grown_trans (grown_trans hg (grown_alloc _ _ _)) hg2
      clear hg2 hr
      go_wp2_with fail
      go_ret
      exact ⟨z, rfl, hz, hr2, hg⟩
set_option maxRecDepth 100000 in
set_option maxHeartbeats 1000000 in
theorem point_r (w : World) (p : Nat) (a : Option Addr) (len cap : Nat) (h : Ready w p a len cap) : Calls Tryz.prog 102 #[.pointer (some ⟨p, 0, none⟩)] w fun e w' => ∃ x y : Int, e = .returned (.agg #[.int .i64 x, .int .i64 y]) ∧ Cd x ∧ Cd y ∧ Ready w' p a len cap ∧ w.grownBy w' (some p) := by
  have hlt := h.lt
  go_enter Tryz.func102, Tryz.ntmps102
  go_wp2_with fail
  refine (coord_r _ p a len cap (h.alloc _)).mono ?_
  rintro e w1 ⟨x, rfl, hx, hr, hg⟩
  have hb := grown_blk hg (heap_alloc_new w _) (by omega)
  replace hg := grown_trans (grown_alloc _ _ _) hg
  go_wp2_with fail
  refine (coord_r _ p a len cap hr).mono ?_
  rintro e w2 ⟨y, rfl, hy, hr2, hg2⟩
  have hb2 := grown_blk hg2 hb (by omega)
  replace hg := grown_trans hg hg2
  clear hg2 hr hb
  obtain ⟨k0, k1, f0, f1⟩ := cell2g hb2
  have Hb2 := hid hb2
  clear hb2
  go_wp2_with fail
  have gF := (set2 Hb2.out (.int .i64 x) (.int .i64 y)).1
  have rF := (hr2.set (n := w.heap.size) (k := 0) hlt (.int .i64 x)).set (n := w.heap.size) (k := 1) hlt (.int .i64 y)
  have wF := grown_setn (grown_setn hg (n := w.heap.size) (k := 0) (Nat.le_refl _) (.int .i64 x)) (n := w.heap.size) (k := 1) (Nat.le_refl _) (.int .i64 y)
  generalize (w2.setCell ⟨w.heap.size, 0, none⟩ (.int .i64 x)).setCell ⟨w.heap.size, 1, none⟩ (.int .i64 y) = wf at gF rF wF ⊢
  obtain ⟨z0, z1, _, _⟩ := cell2g gF
  exact bodyPost_ret (v := .agg #[.int .i64 x, .int .i64 y]) (by simp [results, Tryz.results102, go_sem, z0, z1]) rfl ⟨x, y, rfl, hx, hy, rF, wF⟩
end Go.Proofs.YtninciflfolenaaGreat
