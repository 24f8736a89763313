/- Rows as a law is given them: counted, opened. -/
import Derived.Test.YtdhdfgobefapiaaDoorRwE
import Derived.Deep.SlicePairs
namespace Go.Proofs.YtdhdfgobefapiaaDoor
open Go.RowKit
set_option linter.unusedSimpArgs false
set_option linter.unusedVariables false
/-- A row at a place, of any length. -/
def RwL (w : World) (b o : Nat) (r : Rw) : Prop :=
  ∃ a cap, w.cell? ⟨b, o, none⟩ = some (.int .i64 r.1) ∧ w.cell? ⟨b, o + 1, none⟩ = some (.int .i64 r.2.1) ∧ w.cell? ⟨b, o + 2, none⟩ = some (.int .i64 r.2.2.1) ∧ w.cell? ⟨b, o + 3, none⟩ = some (.int .i64 r.2.2.2.1) ∧ w.cell? ⟨b, o + 4, none⟩ = some (.slice a r.2.2.2.2.length cap) ∧ r.2.2.2.2.length ≤ cap ∧ r.2.2.2.2.length ≤ 9223372036854775807 ∧ Pts w a r.2.2.2.2
def RwsL (w : World) (a : Option Addr) (rs : List Rw) : Prop := rs = [] ∨ ∃ b o, a = some ⟨b, o, none⟩ ∧ b < w.heap.size ∧ ∀ j (h : j < rs.length), RwL w b (o + j * 5) rs[j]
theorem RwL.below {w w' : World} {b o : Nat} {r : Rw} (hb : b < w.heap.size) (h : RwL w b o r) (H : Below w.heap.size w w') : RwL w' b o r := by
  obtain ⟨a, cap, h0, h1, h2, h3, h4, h5, h6, h7⟩ := h
  exact ⟨a, cap, keepcell H h0, keepcell H h1, keepcell H h2, keepcell H h3, keepcell H h4, h5, h6, h7.below H⟩
theorem RwsL.below {w w' : World} {a : Option Addr} {rs : List Rw} (h : RwsL w a rs) (H : Below w.heap.size w w') : RwsL w' a rs := by
  rcases h with h | ⟨b, o, h1, h2, h3⟩
  · exact .inl h
  · exact .inr ⟨b, o, h1, Nat.lt_of_lt_of_le h2 H.size, fun j hj => (h3 j hj).below h2 H⟩
theorem RwsL.at {w : World} {a : Option Addr} {rs : List Rw} (h : RwsL w a rs) (j : Nat) (hj : j < rs.length) : ∃ b o, a = some ⟨b, o, none⟩ ∧ b < w.heap.size ∧ RwL w b (o + j * 5) rs[j] := by
  rcases h with h | ⟨b, o, h1, h2, h3⟩
  · subst h; exact absurd hj (by simp)
  · exact ⟨b, o, h1, h2, h3 j hj⟩
theorem RwsL.rws {w : World} {a : Option Addr} {rs : List Rw} (h : RwsL w a rs) (hl : ∀ m (h : m < rs.length), rs[m].2.2.2.2.length ≤ 1048576) : Rws (fun _ => True) w a rs := by
  rcases h with h | ⟨b, o, h1, h2, h3⟩
  · exact .inl h
  · refine .inr ⟨b, o, h1, h2, fun j hj => ?_⟩
    obtain ⟨a, cap, k0, k1, k2, k3, k4, k5, k6, k7⟩ := h3 j hj
    have := hl j hj
    exact ⟨a, cap, k0, k1, k2, k3, k4, k5, by omega, k7, fun _ _ _ => trivial⟩
set_option maxHeartbeats 1000000 in
theorem sz_rowL (r : Rw) (a : Option Addr) (cap : Nat) (left : Int) (w : World) (hm : r.2.2.2.2.length ≤ 9223372036854775807) (h0 : 0 ≤ left) (h1 : left ≤ 1048576) : Calls Tryd.prog 51 #[rwv r a cap, .int .i64 left] w fun e w' => (∃ v : Int, e = .returned (.int .i64 v) ∧ (v = -1 ∨ (0 ≤ v ∧ v ≤ 1048576 ∧ r.2.2.2.2.length ≤ 1048576))) ∧ Below w.heap.size w w' := by
  obtain ⟨id, fr, te, kd, ps⟩ := r
  unfold rwv
  simp only at *
  by_cases h : left < (ps.length : Int)
  · go_enter Tryd.func51, Tryd.ntmps51
    go_wp2_with fail
    refine (szs_big kd a ps.length cap left _ (by omega) h0 h1 h).mono ?_
    rintro e w1 ⟨rfl, hb⟩
    go_wp2_with fail
    go_ret
    exact ⟨⟨_, rfl, .inl rfl⟩, btrans (balloc (Below.refl _ _) _) hb⟩
  · have h2 : ¬ (left - (ps.length : Int) < 0) := by omega
    go_enter Tryd.func51, Tryd.ntmps51
    go_wp2_with fail
    refine (szs_ok kd a ps.length cap left _ h0 h1 (by omega)).mono ?_
    rintro e w1 ⟨rfl, hb⟩
    go_wp2_with fail
    go_ret
    exact ⟨⟨_, rfl, .inr ⟨by omega, by omega, by omega⟩⟩, btrans (balloc (Below.refl _ _) _) hb⟩
set_option maxHeartbeats 1000000 in
theorem sz_rowsL (a : Option Addr) (cap : Nat) (rs : List Rw) (left : Int) (w : World) (hm : rs.length ≤ 9223372036854775807) (h0 : 0 ≤ left) (h1 : left ≤ 1048576) (h : RwsL w a rs) : Calls Tryd.prog 44 #[.slice a rs.length cap, .int .i64 left] w fun e w' => (∃ v : Int, e = .returned (.int .i64 v) ∧ (v = -1 ∨ (0 ≤ v ∧ v ≤ 1048576 ∧ Hid (rs.length ≤ 1048576 ∧ ∀ m (h : m < rs.length), rs[m].2.2.2.2.length ≤ 1048576)))) ∧ Below w.heap.size w w' := by
  have HR := hid h
  clear h
  by_cases hb : left < (rs.length : Int)
  · have h2 : left - (rs.length : Int) < 0 := by omega
    go_enter Tryd.func44, Tryd.ntmps44
    go_wp2_with fail
    go_ret
    exact ⟨⟨_, rfl, .inl rfl⟩, Below.refl _ _⟩
  · have h2 : ¬ (left - (rs.length : Int) < 0) := by omega
    go_enter Tryd.func44, Tryd.ntmps44
    go_wp2_with fail
    go_loopw [5, 1] (fun ti tl wr => ∃ j : Nat, ∃ l : Int, ti = .int .i64 j ∧ tl = .int .i64 l ∧ j ≤ rs.length ∧ 0 ≤ l ∧ l ≤ 1048576 ∧ Hid (∀ m (h : m < rs.length), m < j → rs[m].2.2.2.2.length ≤ 1048576) ∧ Hid (Below w.heap.size w wr)) (fun ti _ _ => rs.length - (intOf ti).toNat)
    case atStart => exact ⟨0, _, rfl, rfl, Nat.zero_le _, by omega, by omega, hid (fun m h hh => absurd hh (by omega)), hid (Below.refl _ _)⟩
    case round =>
      obtain ⟨j, l, rfl, rfl, hj, hl0, hl1, HM, HB⟩ := hrel
      by_cases hlt : j < rs.length
      · have c1 : (j : Int) < (rs.length : Int) := by omega
        obtain ⟨b, o, rfl, hbs, hr⟩ := (HR.out.below HB.out).at j hlt
        have hmr : rs[j].2.2.2.2.length ≤ 9223372036854775807 := by obtain ⟨_, _, _, _, _, _, _, _, h6, _⟩ := hr; exact h6
        have HX : Hid (rs[j].2.2.2.2.length ≤ 1048576 → ∀ m (h : m < rs.length), m < j + 1 → rs[m].2.2.2.2.length ≤ 1048576) := hid (fun hx m h hm => by
          by_cases e : m = j
          · subst e; exact hx
          · exact HM.out m h (by omega))
        obtain ⟨a', cap', k0, k1, k2, k3, k4, k5, k6, k7⟩ := hr
        have S := hid (fun w' => sz_rowL rs[j] a' cap' l w' hmr hl0 hl1)
        unfold rwv at S
        generalize rs[j].1 = id at *
        generalize rs[j].2.1 = fr at *
        generalize rs[j].2.2.1 = te at *
        generalize rs[j].2.2.2.1 = kd at *
        generalize rs[j].2.2.2.2 = ps at *
        clear k7 k5 k6 hmr
        go_wp2_with fail
        refine (S.out _).mono ?_
        rintro e w1 ⟨⟨v, rfl, hv⟩, hb1⟩
        have hB := btrans HB.out hb1
        rcases hv with rfl | ⟨hv0, hv1, hv3⟩
        · go_wp2_with fail
          go_ret
          exact ⟨⟨_, rfl, .inl rfl⟩, hB⟩
        · have hv2 : ¬ v < 0 := by omega
          have HX2 := hid (HX.out hv3)
          clear hv3
          go_wp2_with fail
          go_roundw
          case rel => exact ⟨j + 1, v, by go_num, rfl, by omega, hv0, hv1, HX2, hid hB⟩
          case measure => simp [intOf]; omega
      · have c1 : (rs.length : Int) ≤ (j : Int) := by omega
        go_wp2_with fail
        go_ret
        exact ⟨⟨_, rfl, .inr ⟨hl0, hl1, hid ⟨by omega, fun m h => HM.out m h (by omega)⟩⟩⟩, HB.out⟩
set_option maxHeartbeats 1000000 in
theorem sz_allL (now : Int) (a : Option Addr) (cap : Nat) (rs : List Rw) (w : World) (hm : rs.length ≤ 9223372036854775807) (h : RwsL w a rs) : Calls Tryd.prog 32 #[.agg #[.int .i64 now, .slice a rs.length cap], .int .i64 1048576] w fun e w' => (∃ v : Int, e = .returned (.int .i64 v) ∧ (v = -1 ∨ (0 ≤ v ∧ v ≤ 1048576 ∧ Hid (rs.length ≤ 1048576 ∧ ∀ m (h : m < rs.length), rs[m].2.2.2.2.length ≤ 1048576)))) ∧ Below w.heap.size w w' := by
  have HR := hid (fun (W : World) (hb : Below w.heap.size w W) => sz_rowsL a cap rs 1048576 W hm (by omega) (by omega) (h.below hb))
  clear h
  obtain ⟨G, hG⟩ : ∃ G : Prop, G = (rs.length ≤ 1048576 ∧ ∀ m (h : m < rs.length), rs[m].2.2.2.2.length ≤ 1048576) := ⟨_, rfl⟩
  have HR2 : Hid (∀ (W : World), Below w.heap.size w W → Calls Tryd.prog 44 #[.slice a rs.length cap, .int .i64 1048576] W fun e w' => (∃ v : Int, e = .returned (.int .i64 v) ∧ (v = -1 ∨ (0 ≤ v ∧ v ≤ 1048576 ∧ Hid G))) ∧ Below W.heap.size W w') := hid (by rw [hG]; exact HR.out)
  rw [← hG]
  clear hG HR
  generalize rs.length = n at *
  go_enter Tryd.func32, Tryd.ntmps32
  go_wp2_with fail
  refine (HR2.out _ (balloc (Below.refl _ _) _)).mono ?_
  rintro e w1 ⟨⟨v, rfl, hv⟩, hb⟩
  have hB := btrans (balloc (Below.refl _ w) _) hb
  rcases hv with rfl | ⟨hv0, hv1, HV⟩
  · go_wp2_with fail
    go_ret
    exact ⟨⟨_, rfl, .inl rfl⟩, hB⟩
  · have hv2 : ¬ v < 0 := by omega
    go_wp2_with fail
    go_ret
    exact ⟨⟨_, rfl, .inr ⟨hv0, hv1, HV⟩⟩, hB⟩
theorem cellsRow : Tryd.prog.cellsOf 111 = 5 := by kernel_rfl
theorem cellsShape : Tryd.prog.cellsOf 109 = 2 := by kernel_rfl
theorem cellsPoint : Tryd.prog.cellsOf 138 = 2 := by kernel_rfl
theorem open_points {H : Type} {enc : TypeId × Value → H} {W : World} {base fuel : Nat} {v : Value} {x : DataW H × List MemPlace} (h : DataW.trod enc Tryd.prog W base (fun _ => true) true fuel 107 [v] = some x) : ∃ (a : Option Addr) (cap : Nat) (ps : List (Int × Int)), v = .slice a ps.length cap ∧ PtsIn W a cap ps := by
  rcases Go.Deep.open_slice_pairs Tryd.underlying107 Tryd.underlying138 cellsPoint rfl rfl (by kernel_rfl) (by kernel_rfl) h with ⟨hcs, _⟩ | ⟨x, l, c, m, n, V0, V1, D0, D1, P0, P1, hcs, _, hl, hm, hmm, _, hall⟩
  · simp at hcs
    exact ⟨none, 0, [], hcs, ptsIn_nil _ _⟩
  · simp at hcs
    obtain ⟨ps, hp, hw⟩ := ptsIn_of hl hm (fun j hj => by
      obtain ⟨h1, h2, h3, h4⟩ := hall j (by rw [hmm]; simp; omega)
      obtain ⟨z0, e0, _, y0⟩ := DataW.trod_int Tryd.underlying3 h3
      obtain ⟨z1, e1, _, y1⟩ := DataW.trod_int Tryd.underlying3 h4
      simp at e0 e1
      exact ⟨z0, z1, by rw [h1, e0], by rw [h2, e1], y0, y1⟩)
    exact ⟨some x, c, ps, by rw [hcs, hp], hw⟩
set_option maxRecDepth 100000 in
theorem open_row {H : Type} {enc : TypeId × Value → H} {W : World} {base fuel : Nat} {cs : List Value} {x : DataW H × List MemPlace} (h : DataW.trod enc Tryd.prog W base (fun _ => true) true fuel 111 cs = some x) : ∃ (r : Rw) (a : Option Addr) (cap : Nat), cs = [.int .i64 r.1, .int .i64 r.2.1, .int .i64 r.2.2.1, .int .i64 r.2.2.2.1, .slice a r.2.2.2.2.length cap] ∧ PtsIn W a cap r.2.2.2.2 := by
  obtain ⟨xs, n, _, _, hlen, hxl, hf⟩ := DataW.trod_struct Tryd.underlying111 h
  rw [cellsRow] at hlen
  match xs, hxl, cs, hlen with
  | [y0, y1, y2, y3], _, [v0, v1, v2, v3, v4], _ =>
    have g0 : DataW.trod enc Tryd.prog W base (fun _ => true) true n 3 (([v0, v1, v2, v3, v4].drop 0).take (Tryd.prog.cellsOf 3)) = some y0 := hf 0 _ rfl
    have g1 : DataW.trod enc Tryd.prog W base (fun _ => true) true n 3 (([v0, v1, v2, v3, v4].drop 1).take (Tryd.prog.cellsOf 3)) = some y1 := hf 1 _ rfl
    have g2 : DataW.trod enc Tryd.prog W base (fun _ => true) true n 3 (([v0, v1, v2, v3, v4].drop 2).take (Tryd.prog.cellsOf 3)) = some y2 := hf 2 _ rfl
    have g3 : DataW.trod enc Tryd.prog W base (fun _ => true) true n 109 (([v0, v1, v2, v3, v4].drop 3).take (Tryd.prog.cellsOf 109)) = some y3 := hf 3 _ rfl
    rw [show Tryd.prog.cellsOf 3 = 1 by kernel_rfl] at g0 g1 g2
    rw [cellsShape] at g3
    simp at g0 g1 g2 g3
    obtain ⟨z0, e0, _, _⟩ := DataW.trod_int Tryd.underlying3 g0
    obtain ⟨z1, e1, _, _⟩ := DataW.trod_int Tryd.underlying3 g1
    obtain ⟨z2, e2, _, _⟩ := DataW.trod_int Tryd.underlying3 g2
    obtain ⟨xs', n', _, _, _, hxl', hf'⟩ := DataW.trod_struct Tryd.underlying109 g3
    match xs', hxl' with
    | [u0, u1], _ =>
      have q0 : DataW.trod enc Tryd.prog W base (fun _ => true) true n' 3 (([v3, v4].drop 0).take (Tryd.prog.cellsOf 3)) = some u0 := hf' 0 _ rfl
      have q1 : DataW.trod enc Tryd.prog W base (fun _ => true) true n' 107 (([v3, v4].drop 1).take (Tryd.prog.cellsOf 107)) = some u1 := hf' 1 _ rfl
      rw [show Tryd.prog.cellsOf 3 = 1 by kernel_rfl] at q0
      rw [show Tryd.prog.cellsOf 107 = 1 by kernel_rfl] at q1
      simp at q0 q1
      obtain ⟨z3, e3, _, _⟩ := DataW.trod_int Tryd.underlying3 q0
      obtain ⟨a, cap, ps, e4, hp⟩ := open_points q1
      simp at e0 e1 e2 e3
      exact ⟨(z0, z1, z2, z3, ps), a, cap, by simp [e0, e1, e2, e3, e4], hp⟩
theorem open_rows {H : Type} {enc : TypeId × Value → H} {W : World} {base fuel : Nat} {v : Value} {x : DataW H × List MemPlace} (h : DataW.trod enc Tryd.prog W base (fun _ => true) true fuel 22 [v] = some x) : ∃ (a : Option Addr) (cap : Nat) (rs : List Rw), v = .slice a rs.length cap ∧ rs.length ≤ 9223372036854775807 ∧ RwsL W a rs := by
  rcases Go.Deep.open_slice Tryd.underlying22 h with ⟨hcs, _⟩ | ⟨a, len, cap, m, n, D, Pl, hcs, _, hl, hm, hmm, _, hall⟩
  · simp at hcs
    exact ⟨none, 0, [], hcs, by simp, .inl rfl⟩
  · simp at hcs
    have hlm : len ≤ m := by rw [hmm]; simp; exact hl
    have hM : len ≤ 9223372036854775807 := Nat.le_trans hl hm
    by_cases h0 : len = 0
    · subst h0
      exact ⟨some a, cap, [], hcs, by simp, .inl rfl⟩
    rw [cellsRow] at hall
    have each : ∀ j : Nat, ∃ r : Rw, j < len → ∃ (a' : Option Addr) (cap' : Nat), W.cells? base (a.add (j * 5)) 5 = some [.int .i64 r.1, .int .i64 r.2.1, .int .i64 r.2.2.1, .int .i64 r.2.2.2.1, .slice a' r.2.2.2.2.length cap'] ∧ PtsIn W a' cap' r.2.2.2.2 := by
      intro j
      by_cases hj : j < len
      · obtain ⟨cs', h1, h2⟩ := hall j (by omega)
        obtain ⟨r, a', cap', e, hp⟩ := open_row h2
        subst e
        exact ⟨r, fun _ => ⟨a', cap', h1, hp⟩⟩
      · exact ⟨(0, 0, 0, 0, []), fun h' => absurd h' hj⟩
    have ⟨f, hf⟩ := Classical.axiomOfChoice each
    have hspot : a.spot = none := by
      obtain ⟨_, _, h1, _⟩ := hf 0 (by omega)
      have h00 := (World.cells?_some h1).2.2 0 (by omega)
      simp only [Nat.zero_mul, Addr.add, if_true] at h00
      unfold World.cell? at h00
      split at h00
      · split at h00
        · cases h00
        · rename_i q; simpa using q
      · cases h00
    obtain ⟨b, o, s⟩ := a
    simp only at hspot
    subst hspot
    have hblk : b < W.heap.size := by
      obtain ⟨_, _, h1, _⟩ := hf 0 (by omega)
      have h00 := (World.cells?_some h1).2.2 0 (by omega)
      rw [Go.Deep.add_add, Addr.add_mid] at h00
      exact World.block_lt_of_cell? W _ (h00.trans rfl)
    refine ⟨some ⟨b, o, none⟩, cap, (List.range len).map f, by simpa using hcs, by simpa using hM, .inr ⟨b, o, rfl, hblk, fun j hj => ?_⟩⟩
    simp only [List.length_map, List.length_range] at hj
    have e : ((List.range len).map f)[j]'(by simpa using hj) = f j := by simp
    rw [e]
    obtain ⟨a', cap', h1, hp⟩ := hf j hj
    have hc := (World.cells?_some h1).2.2
    have c0 := hc 0 (by omega)
    have c1 := hc 1 (by omega)
    have c2 := hc 2 (by omega)
    have c3 := hc 3 (by omega)
    have c4 := hc 4 (by omega)
    rw [Go.Deep.add_add, Addr.add_mid] at c0 c1 c2 c3 c4
    exact ⟨a', cap', c0, c1, c2, c3, c4, hp.2.1, Nat.le_trans hp.2.1 hp.2.2, hp.1⟩
end Go.Proofs.YtdhdfgobefapiaaDoor
