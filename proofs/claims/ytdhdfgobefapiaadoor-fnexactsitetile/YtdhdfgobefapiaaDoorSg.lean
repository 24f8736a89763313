/- A store as a law is given it: opened, copied. -/
import Derived.Test.YtdhdfgobefapiaaDoorSf
namespace Go.Proofs.YtdhdfgobefapiaaDoor
open Go.RowKit
set_option linter.unusedSimpArgs false
set_option linter.unusedVariables false
theorem cellsCh : Tryd.prog.cellsOf 125 = 4 := by kernel_rfl
theorem cellsTx : Tryd.prog.cellsOf 94 = 3 := by kernel_rfl
theorem cellsSt : Tryd.prog.cellsOf 27 = 3 := by kernel_rfl
theorem cellsRws : Tryd.prog.cellsOf 24 = 2 := by kernel_rfl
set_option maxRecDepth 100000 in
theorem open_ch {H : Type} {enc : TypeId × Value → H} {W : World} {base fuel : Nat} {cs : List Value} {x : DataW H × List MemPlace} (h : DataW.trod enc Tryd.prog W base (fun _ => true) true fuel 125 cs = some x) : ∃ (r : Ch) (a : Option Addr) (cap : Nat), cs = [.int .i64 r.1, .bool r.2.1, .int .i64 r.2.2.1, .slice a r.2.2.2.length cap] ∧ PtsIn W a cap r.2.2.2 := by
  obtain ⟨xs, n, _, _, hlen, hxl, hf⟩ := DataW.trod_struct Tryd.underlying125 h
  rw [cellsCh] at hlen
  match xs, hxl, cs, hlen with
  | [y0, y1, y2], _, [v0, v1, v2, v3], _ =>
    have g0 : DataW.trod enc Tryd.prog W base (fun _ => true) true n 3 (([v0, v1, v2, v3].drop 0).take (Tryd.prog.cellsOf 3)) = some y0 := hf 0 _ rfl
    have g1 : DataW.trod enc Tryd.prog W base (fun _ => true) true n 4 (([v0, v1, v2, v3].drop 1).take (Tryd.prog.cellsOf 4)) = some y1 := hf 1 _ rfl
    have g2 : DataW.trod enc Tryd.prog W base (fun _ => true) true n 109 (([v0, v1, v2, v3].drop 2).take (Tryd.prog.cellsOf 109)) = some y2 := hf 2 _ rfl
    rw [show Tryd.prog.cellsOf 3 = 1 by kernel_rfl] at g0
    rw [show Tryd.prog.cellsOf 4 = 1 by kernel_rfl] at g1
    rw [cellsShape] at g2
    simp at g0 g1 g2
    obtain ⟨z0, e0, _, _⟩ := DataW.trod_int Tryd.underlying3 g0
    obtain ⟨z1, e1, _⟩ := DataW.trod_bool Tryd.underlying4 g1
    obtain ⟨xs', n', _, _, _, hxl', hf'⟩ := DataW.trod_struct Tryd.underlying109 g2
    match xs', hxl' with
    | [u0, u1], _ =>
      have q0 : DataW.trod enc Tryd.prog W base (fun _ => true) true n' 3 (([v2, v3].drop 0).take (Tryd.prog.cellsOf 3)) = some u0 := hf' 0 _ rfl
      have q1 : DataW.trod enc Tryd.prog W base (fun _ => true) true n' 107 (([v2, v3].drop 1).take (Tryd.prog.cellsOf 107)) = some u1 := hf' 1 _ rfl
      rw [show Tryd.prog.cellsOf 3 = 1 by kernel_rfl] at q0
      rw [show Tryd.prog.cellsOf 107 = 1 by kernel_rfl] at q1
      simp at q0 q1
      obtain ⟨z3, e3, _, _⟩ := DataW.trod_int Tryd.underlying3 q0
      obtain ⟨a, cap, ps, e4, hp⟩ := open_points q1
      simp at e0 e1 e3
      exact ⟨(z0, z1, z3, ps), a, cap, by simp [e0, e1, e3, e4], hp⟩
theorem open_chs {H : Type} {enc : TypeId × Value → H} {W : World} {base fuel : Nat} {v : Value} {x : DataW H × List MemPlace} (h : DataW.trod enc Tryd.prog W base (fun _ => true) true fuel 92 [v] = some x) : ∃ (a : Option Addr) (cap : Nat) (xs : List Ch), v = .slice a xs.length cap ∧ xs.length ≤ cap ∧ xs.length ≤ 9223372036854775807 ∧ Chs (fun _ => True) 9223372036854775807 W a xs := by
  rcases Go.Deep.open_slice Tryd.underlying92 h with ⟨hcs, _⟩ | ⟨a, len, cap, m, n, D, Pl, hcs, _, hl, hm, hmm, _, hall⟩
  · simp at hcs
    exact ⟨none, 0, [], hcs, by simp, by simp, .inl rfl⟩
  · simp at hcs
    have hlm : len ≤ m := by rw [hmm]; simp; exact hl
    have hM : len ≤ 9223372036854775807 := Nat.le_trans hl hm
    by_cases h0 : len = 0
    · subst h0
      exact ⟨some a, cap, [], hcs, by simp, by simp, .inl rfl⟩
    rw [cellsCh] at hall
    have each : ∀ j : Nat, ∃ r : Ch, j < len → ∃ (a' : Option Addr) (cap' : Nat), W.cells? base (a.add (j * 4)) 4 = some [.int .i64 r.1, .bool r.2.1, .int .i64 r.2.2.1, .slice a' r.2.2.2.length cap'] ∧ PtsIn W a' cap' r.2.2.2 := by
      intro j
      by_cases hj : j < len
      · obtain ⟨cs', h1, h2⟩ := hall j (by omega)
        obtain ⟨r, a', cap', e, hp⟩ := open_ch h2
        subst e
        exact ⟨r, fun _ => ⟨a', cap', h1, hp⟩⟩
      · exact ⟨(0, false, 0, []), fun h' => absurd h' hj⟩
    have ⟨f, hf⟩ := Classical.axiomOfChoice each
    have hspot : a.spot = none := by
      obtain ⟨_, _, h1, _⟩ := hf 0 (by omega)
      have h00 := (World.cells?_some h1).2.2 0 (by omega)
      simp only [Nat.zero_mul, Addr.add, if_true] at h00
      unfold World.cell? at h00
      split at h00
      · split at h00
        · cases h00
        · rename_i q; simpa using q
      · cases h00
    obtain ⟨b, o, s⟩ := a
    simp only at hspot
    subst hspot
    have hblk : b < W.heap.size := by
      obtain ⟨_, _, h1, _⟩ := hf 0 (by omega)
      have h00 := (World.cells?_some h1).2.2 0 (by omega)
      rw [Go.Deep.add_add, Addr.add_mid] at h00
      exact World.block_lt_of_cell? W _ (h00.trans rfl)
    refine ⟨some ⟨b, o, none⟩, cap, (List.range len).map f, by simpa using hcs, by simpa using hl, by simpa using hM, .inr ⟨b, o, rfl, hblk, fun j hj => ?_⟩⟩
    simp only [List.length_map, List.length_range] at hj
    have e : ((List.range len).map f)[j]'(by simpa using hj) = f j := by simp
    rw [e]
    obtain ⟨a', cap', h1, hp⟩ := hf j hj
    have hc := (World.cells?_some h1).2.2
    have c0 := hc 0 (by omega)
    have c1 := hc 1 (by omega)
    have c2 := hc 2 (by omega)
    have c3 := hc 3 (by omega)
    rw [Go.Deep.add_add, Addr.add_mid] at c0 c1 c2 c3
    exact ⟨a', cap', c0, c1, c2, c3, hp.2.1, Nat.le_trans hp.2.1 hp.2.2, hp.1, fun _ _ _ => trivial⟩
set_option maxRecDepth 100000 in
theorem open_tx {H : Type} {enc : TypeId × Value → H} {W : World} {base fuel : Nat} {cs : List Value} {x : DataW H × List MemPlace} (h : DataW.trod enc Tryd.prog W base (fun _ => true) true fuel 94 cs = some x) : ∃ (r : Tx) (a : Option Addr) (cap : Nat), cs = [.int .i64 r.1, .bool r.2.1, .slice a r.2.2.length cap] ∧ (r.2.2.length ≤ cap ∧ r.2.2.length ≤ 9223372036854775807 ∧ Chs (fun _ => True) 9223372036854775807 W a r.2.2) := by
  obtain ⟨xs, n, _, _, hlen, hxl, hf⟩ := DataW.trod_struct Tryd.underlying94 h
  rw [cellsTx] at hlen
  match xs, hxl, cs, hlen with
  | [y0, y1, y2], _, [v0, v1, v2], _ =>
    have g0 : DataW.trod enc Tryd.prog W base (fun _ => true) true n 3 (([v0, v1, v2].drop 0).take (Tryd.prog.cellsOf 3)) = some y0 := hf 0 _ rfl
    have g1 : DataW.trod enc Tryd.prog W base (fun _ => true) true n 4 (([v0, v1, v2].drop 1).take (Tryd.prog.cellsOf 4)) = some y1 := hf 1 _ rfl
    have g2 : DataW.trod enc Tryd.prog W base (fun _ => true) true n 92 (([v0, v1, v2].drop 2).take (Tryd.prog.cellsOf 92)) = some y2 := hf 2 _ rfl
    rw [show Tryd.prog.cellsOf 3 = 1 by kernel_rfl] at g0
    rw [show Tryd.prog.cellsOf 4 = 1 by kernel_rfl] at g1
    rw [show Tryd.prog.cellsOf 92 = 1 by kernel_rfl] at g2
    simp at g0 g1 g2
    obtain ⟨z0, e0, _, _⟩ := DataW.trod_int Tryd.underlying3 g0
    obtain ⟨z1, e1, _⟩ := DataW.trod_bool Tryd.underlying4 g1
    obtain ⟨a, cap, ps, e4, h1, h2, hp⟩ := open_chs g2
    simp at e0 e1
    exact ⟨(z0, z1, ps), a, cap, by simp [e0, e1, e4], h1, h2, hp⟩
theorem open_txs {H : Type} {enc : TypeId × Value → H} {W : World} {base fuel : Nat} {v : Value} {x : DataW H × List MemPlace} (h : DataW.trod enc Tryd.prog W base (fun _ => true) true fuel 25 [v] = some x) : ∃ (a : Option Addr) (cap : Nat) (xs : List Tx), v = .slice a xs.length cap ∧ xs.length ≤ cap ∧ xs.length ≤ 9223372036854775807 ∧ Txs (fun _ => True) 9223372036854775807 W a xs := by
  rcases Go.Deep.open_slice Tryd.underlying25 h with ⟨hcs, _⟩ | ⟨a, len, cap, m, n, D, Pl, hcs, _, hl, hm, hmm, _, hall⟩
  · simp at hcs
    exact ⟨none, 0, [], hcs, by simp, by simp, .inl rfl⟩
  · simp at hcs
    have hlm : len ≤ m := by rw [hmm]; simp; exact hl
    have hM : len ≤ 9223372036854775807 := Nat.le_trans hl hm
    by_cases h0 : len = 0
    · subst h0
      exact ⟨some a, cap, [], hcs, by simp, by simp, .inl rfl⟩
    rw [cellsTx] at hall
    have each : ∀ j : Nat, ∃ r : Tx, j < len → ∃ (a' : Option Addr) (cap' : Nat), W.cells? base (a.add (j * 3)) 3 = some [.int .i64 r.1, .bool r.2.1, .slice a' r.2.2.length cap'] ∧ (r.2.2.length ≤ cap' ∧ r.2.2.length ≤ 9223372036854775807 ∧ Chs (fun _ => True) 9223372036854775807 W a' r.2.2) := by
      intro j
      by_cases hj : j < len
      · obtain ⟨cs', h1, h2⟩ := hall j (by omega)
        obtain ⟨r, a', cap', e, hp⟩ := open_tx h2
        subst e
        exact ⟨r, fun _ => ⟨a', cap', h1, hp⟩⟩
      · exact ⟨(0, false, []), fun h' => absurd h' hj⟩
    have ⟨f, hf⟩ := Classical.axiomOfChoice each
    have hspot : a.spot = none := by
      obtain ⟨_, _, h1, _⟩ := hf 0 (by omega)
      have h00 := (World.cells?_some h1).2.2 0 (by omega)
      simp only [Nat.zero_mul, Addr.add, if_true] at h00
      unfold World.cell? at h00
      split at h00
      · split at h00
        · cases h00
        · rename_i q; simpa using q
      · cases h00
    obtain ⟨b, o, s⟩ := a
    simp only at hspot
    subst hspot
    have hblk : b < W.heap.size := by
      obtain ⟨_, _, h1, _⟩ := hf 0 (by omega)
      have h00 := (World.cells?_some h1).2.2 0 (by omega)
      rw [Go.Deep.add_add, Addr.add_mid] at h00
      exact World.block_lt_of_cell? W _ (h00.trans rfl)
    refine ⟨some ⟨b, o, none⟩, cap, (List.range len).map f, by simpa using hcs, by simpa using hl, by simpa using hM, .inr ⟨b, o, rfl, hblk, fun j hj => ?_⟩⟩
    simp only [List.length_map, List.length_range] at hj
    have e : ((List.range len).map f)[j]'(by simpa using hj) = f j := by simp
    rw [e]
    obtain ⟨a', cap', h1, hp⟩ := hf j hj
    have hc := (World.cells?_some h1).2.2
    have c0 := hc 0 (by omega)
    have c1 := hc 1 (by omega)
    have c2 := hc 2 (by omega)
    rw [Go.Deep.add_add, Addr.add_mid] at c0 c1 c2
    exact ⟨a', cap', c0, c1, c2, hp.1, hp.2.1, hp.2.2, fun _ _ _ => trivial⟩
set_option maxRecDepth 100000 in
theorem open_store {H : Type} {enc : TypeId × Value → H} {W : World} {base fuel : Nat} {cs : List Value} {x : DataW H × List MemPlace} (h : DataW.trod enc Tryd.prog W base (fun _ => true) true fuel 27 cs = some x) : ∃ (now : Int) (a : Option Addr) (cap : Nat) (rs : List Rw) (ta : Option Addr) (tcap : Nat) (ts : List Tx), cs = [.int .i64 now, .slice a rs.length cap, .slice ta ts.length tcap] ∧ rs.length ≤ 9223372036854775807 ∧ RwsL W a rs ∧ ts.length ≤ 9223372036854775807 ∧ Txs (fun _ => True) 9223372036854775807 W ta ts := by
  obtain ⟨xs, n, _, _, hlen, hxl, hf⟩ := DataW.trod_struct Tryd.underlying27 h
  rw [cellsSt] at hlen
  match xs, hxl, cs, hlen with
  | [y0, y1], _, [v0, v1, v2], _ =>
    have g0 : DataW.trod enc Tryd.prog W base (fun _ => true) true n 24 (([v0, v1, v2].drop 0).take (Tryd.prog.cellsOf 24)) = some y0 := hf 0 _ rfl
    have g1 : DataW.trod enc Tryd.prog W base (fun _ => true) true n 25 (([v0, v1, v2].drop 2).take (Tryd.prog.cellsOf 25)) = some y1 := hf 1 _ rfl
    rw [cellsRws] at g0
    rw [show Tryd.prog.cellsOf 25 = 1 by kernel_rfl] at g1
    simp at g0 g1
    obtain ⟨xs', n', _, _, _, hxl', hf'⟩ := DataW.trod_struct Tryd.underlying24 g0
    match xs', hxl' with
    | [u0, u1], _ =>
      have q0 : DataW.trod enc Tryd.prog W base (fun _ => true) true n' 3 (([v0, v1].drop 0).take (Tryd.prog.cellsOf 3)) = some u0 := hf' 0 _ rfl
      have q1 : DataW.trod enc Tryd.prog W base (fun _ => true) true n' 22 (([v0, v1].drop 1).take (Tryd.prog.cellsOf 22)) = some u1 := hf' 1 _ rfl
      rw [show Tryd.prog.cellsOf 3 = 1 by kernel_rfl] at q0
      rw [show Tryd.prog.cellsOf 22 = 1 by kernel_rfl] at q1
      simp at q0 q1
      obtain ⟨z0, e0, _, _⟩ := DataW.trod_int Tryd.underlying3 q0
      obtain ⟨a, cap, rs, e1, hl, hr⟩ := open_rows q1
      obtain ⟨ta, tcap, ts, e2, _, htl, htx⟩ := open_txs g1
      simp at e0
      exact ⟨z0, a, cap, rs, ta, tcap, ts, by simp [e0, e1, e2], hl, hr, htl, htx⟩
theorem setk3a {w : World} {p : Nat} {o0 o1 o2 : Value} {t : TypeId} (h : w.heap[p]? = some (.cells #[o0, o1, o2] t (0, 0))) (a b : Value) : ((w.setCell ⟨p, 0, none⟩ a).setCell ⟨p, 1, none⟩ b).heap[p]? = some (.cells #[a, b, o2] t (0, 0)) := by
  have st : ∀ (W : World) (cs : Array Value) (k : Nat) (u : Value), W.heap[p]? = some (.cells cs t (0, 0)) → (W.setCell ⟨p, k, none⟩ u).heap[p]? = some (.cells (cs.setIfInBounds k u) t (0, 0)) := by
    intro W cs k u h
    have hlt := lt_of_block h
    have h' : W.heap[p] = .cells cs t (0, 0) := by simpa [Array.getElem?_eq_getElem hlt] using h
    show (W.heap.modify p _)[p]? = _
    rw [Array.getElem?_eq_getElem (by simpa using hlt), Array.getElem_modify_self, h']
    rfl
  have e4 := st _ _ 1 b (st _ _ 0 a h)
  simpa using e4
end Go.Proofs.YtdhdfgobefapiaaDoor
