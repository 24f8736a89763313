/- Texts of stores, joined: Sg, RwA1, RwA2, Sk, Oa, Sw, RwD, RwF. -/
import Derived.Test.YtiocelhnmfadnaaGreatD2
import Derived.Test.YtiocelhnmfadnaaGreatRwA0
import Derived.Test.YtiocelhnmfadnaaGreatRwB
import Derived.Test.YtiocelhnmfadnaaGreatD1
import Derived.Test.YtiocelhnmfadnaaGreatRwH
import Derived.Test.YtiocelhnmfadnaaGreatShelfI
namespace Go.Proofs.YtiocelhnmfadnaaGreat
open Go.RowKit
set_option linter.unusedSimpArgs false
set_option linter.unusedVariables false
theorem cellsCh : Tryz.prog.cellsOf 140 = 4 := by kernel_rfl
theorem cellsTx : Tryz.prog.cellsOf 75 = 3 := by kernel_rfl
theorem cellsSt : Tryz.prog.cellsOf 27 = 3 := by kernel_rfl
theorem cellsRws : Tryz.prog.cellsOf 24 = 2 := by kernel_rfl
set_option maxRecDepth 100000 in
theorem open_ch {H : Type} {enc : TypeId × Value → H} {W : World} {base fuel : Nat} {cs : List Value} {x : DataW H × List MemPlace} (h : DataW.trod enc Tryz.prog W base (fun _ => true) true fuel 140 cs = some x) : ∃ (r : Ch) (a : Option Addr) (cap : Nat), cs = [.int .i64 r.1, .bool r.2.1, .int .i64 r.2.2.1, .slice a r.2.2.2.length cap] ∧ PtsIn W a cap r.2.2.2 := by
  obtain ⟨xs, n, _, _, hlen, hxl, hf⟩ := DataW.trod_struct Tryz.underlying140 h
  rw [cellsCh] at hlen
  match xs, hxl, cs, hlen with
  | [y0, y1, y2], _, [v0, v1, v2, v3], _ =>
    have g0 : DataW.trod enc Tryz.prog W base (fun _ => true) true n 3 (([v0, v1, v2, v3].drop 0).take (Tryz.prog.cellsOf 3)) = some y0 := hf 0 _ rfl
    have g1 : DataW.trod enc Tryz.prog W base (fun _ => true) true n 4 (([v0, v1, v2, v3].drop 1).take (Tryz.prog.cellsOf 4)) = some y1 := hf 1 _ rfl
    have g2 : DataW.trod enc Tryz.prog W base (fun _ => true) true n 100 (([v0, v1, v2, v3].drop 2).take (Tryz.prog.cellsOf 100)) = some y2 := hf 2 _ rfl
    rw [show Tryz.prog.cellsOf 3 = 1 by kernel_rfl] at g0
    rw [show Tryz.prog.cellsOf 4 = 1 by kernel_rfl] at g1
    rw [cellsShape] at g2
    simp at g0 g1 g2
    obtain ⟨z0, e0, _, _⟩ := DataW.trod_int Tryz.underlying3 g0
    obtain ⟨z1, e1, _⟩ := DataW.trod_bool Tryz.underlying4 g1
    obtain ⟨xs', n', _, _, _, hxl', hf'⟩ := DataW.trod_struct Tryz.underlying100 g2
    match xs', hxl' with
    | [u0, u1], _ =>
      have q0 : DataW.trod enc Tryz.prog W base (fun _ => true) true n' 3 (([v2, v3].drop 0).take (Tryz.prog.cellsOf 3)) = some u0 := hf' 0 _ rfl
      have q1 : DataW.trod enc Tryz.prog W base (fun _ => true) true n' 98 (([v2, v3].drop 1).take (Tryz.prog.cellsOf 98)) = some u1 := hf' 1 _ rfl
      rw [show Tryz.prog.cellsOf 3 = 1 by kernel_rfl] at q0
      rw [show Tryz.prog.cellsOf 98 = 1 by kernel_rfl] at q1
      simp at q0 q1
      obtain ⟨z3, e3, _, _⟩ := DataW.trod_int Tryz.underlying3 q0
      obtain ⟨a, cap, ps, e4, hp⟩ := open_points q1
      simp at e0 e1 e3
      exact ⟨(z0, z1, z3, ps), a, cap, by simp [e0, e1, e3, e4], hp⟩
theorem open_chs {H : Type} {enc : TypeId × Value → H} {W : World} {base fuel : Nat} {v : Value} {x : DataW H × List MemPlace} (h : DataW.trod enc Tryz.prog W base (fun _ => true) true fuel 73 [v] = some x) : ∃ (a : Option Addr) (cap : Nat) (xs : List Ch), v = .slice a xs.length cap ∧ xs.length ≤ cap ∧ xs.length ≤ 9223372036854775807 ∧ Chs (fun _ => True) 9223372036854775807 W a xs := by
  rcases Go.Deep.open_slice Tryz.underlying73 h with ⟨hcs, _⟩ | ⟨a, len, cap, m, n, D, Pl, hcs, _, hl, hm, hmm, _, hall⟩
  · simp at hcs
    exact ⟨none, 0, [], hcs, by simp, by simp, .inl rfl⟩
  · simp at hcs
    have hlm : len ≤ m := by rw [hmm]; simp; exact hl
    have hM : len ≤ 9223372036854775807 := Nat.le_trans hl hm
    by_cases h0 : len = 0
    · subst h0
      exact ⟨some a, cap, [], hcs, by simp, by simp, .inl rfl⟩
    rw [cellsCh] at hall
    have each : ∀ j : Nat, ∃ r : Ch, j < len → ∃ (a' : Option Addr) (cap' : Nat), W.cells? base (a.add (j * 4)) 4 = some [.int .i64 r.1, .bool r.2.1, .int .i64 r.2.2.1, .slice a' r.2.2.2.length cap'] ∧ PtsIn W a' cap' r.2.2.2 := by
      intro j
      by_cases hj : j < len
      · obtain ⟨cs', h1, h2⟩ := hall j (by omega)
        obtain ⟨r, a', cap', e, hp⟩ := open_ch h2
        subst e
        exact ⟨r, fun _ => ⟨a', cap', h1, hp⟩⟩
      · exact ⟨(0, false, 0, []), fun h' => absurd h' hj⟩
    have ⟨f, hf⟩ := Classical.axiomOfChoice each
    have hspot : a.spot = none := by
      obtain ⟨_, _, h1, _⟩ := hf 0 (by omega)
      have h00 := (World.cells?_some h1).2.2 0 (by omega)
      simp only [Nat.zero_mul, Addr.add, if_true] at h00
      unfold World.cell? at h00
      split at h00
      · split at h00
        · cases h00
        · rename_i q; simpa using q
      · cases h00
    obtain ⟨b, o, s⟩ := a
    simp only at hspot
    subst hspot
    have hblk : b < W.heap.size := by
      obtain ⟨_, _, h1, _⟩ := hf 0 (by omega)
      have h00 := (World.cells?_some h1).2.2 0 (by omega)
      rw [Go.Deep.add_add, Addr.add_mid] at h00
      exact World.block_lt_of_cell? W _ (h00.trans rfl)
    refine ⟨some ⟨b, o, none⟩, cap, (List.range len).map f, by simpa using hcs, by simpa using hl, by simpa using hM, .inr ⟨b, o, rfl, hblk, fun j hj => ?_⟩⟩
    simp only [List.length_map, List.length_range] at hj
    have e : ((List.range len).map f)[j]'(by simpa using hj) = f j := by simp
    rw [e]
    obtain ⟨a', cap', h1, hp⟩ := hf j hj
    have hc := (World.cells?_some h1).2.2
    have c0 := hc 0 (by omega)
    have c1 := hc 1 (by omega)
    have c2 := hc 2 (by omega)
    have c3 := hc 3 (by omega)
    rw [Go.Deep.add_add, Addr.add_mid] at c0 c1 c2 c3
    exact ⟨a', cap', c0, c1, c2, c3, hp.2.1, Nat.le_trans hp.2.1 hp.2.2, hp.1, fun _ _ _ => trivial⟩
set_option maxRecDepth 100000 in
theorem open_tx {H : Type} {enc : TypeId × Value → H} {W : World} {base fuel : Nat} {cs : List Value} {x : DataW H × List MemPlace} (h : DataW.trod enc Tryz.prog W base (fun _ => true) true fuel 75 cs = some x) : ∃ (r : Tx) (a : Option Addr) (cap : Nat), cs = [.int .i64 r.1, .bool r.2.1, .slice a r.2.2.length cap] ∧ (r.2.2.length ≤ cap ∧ r.2.2.length ≤ 9223372036854775807 ∧ Chs (fun _ => True) 9223372036854775807 W a r.2.2) := by
  obtain ⟨xs, n, _, _, hlen, hxl, hf⟩ := DataW.trod_struct Tryz.underlying75 h
  rw [cellsTx] at hlen
  match xs, hxl, cs, hlen with
  | [y0, y1, y2], _, [v0, v1, v2], _ =>
    have g0 : DataW.trod enc Tryz.prog W base (fun _ => true) true n 3 (([v0, v1, v2].drop 0).take (Tryz.prog.cellsOf 3)) = some y0 := hf 0 _ rfl
    have g1 : DataW.trod enc Tryz.prog W base (fun _ => true) true n 4 (([v0, v1, v2].drop 1).take (Tryz.prog.cellsOf 4)) = some y1 := hf 1 _ rfl
    have g2 : DataW.trod enc Tryz.prog W base (fun _ => true) true n 73 (([v0, v1, v2].drop 2).take (Tryz.prog.cellsOf 73)) = some y2 := hf 2 _ rfl
    rw [show Tryz.prog.cellsOf 3 = 1 by kernel_rfl] at g0
    rw [show Tryz.prog.cellsOf 4 = 1 by kernel_rfl] at g1
    rw [show Tryz.prog.cellsOf 73 = 1 by kernel_rfl] at g2
    simp at g0 g1 g2
    obtain ⟨z0, e0, _, _⟩ := DataW.trod_int Tryz.underlying3 g0
    obtain ⟨z1, e1, _⟩ := DataW.trod_bool Tryz.underlying4 g1
    obtain ⟨a, cap, ps, e4, h1, h2, hp⟩ := open_chs g2
    simp at e0 e1
    exact ⟨(z0, z1, ps), a, cap, by simp [e0, e1, e4], h1, h2, hp⟩
theorem open_txs {H : Type} {enc : TypeId × Value → H} {W : World} {base fuel : Nat} {v : Value} {x : DataW H × List MemPlace} (h : DataW.trod enc Tryz.prog W base (fun _ => true) true fuel 25 [v] = some x) : ∃ (a : Option Addr) (cap : Nat) (xs : List Tx), v = .slice a xs.length cap ∧ xs.length ≤ cap ∧ xs.length ≤ 9223372036854775807 ∧ Txs (fun _ => True) 9223372036854775807 W a xs := by
  rcases Go.Deep.open_slice Tryz.underlying25 h with ⟨hcs, _⟩ | ⟨a, len, cap, m, n, D, Pl, hcs, _, hl, hm, hmm, _, hall⟩
  · simp at hcs
    exact ⟨none, 0, [], hcs, by simp, by simp, .inl rfl⟩
  · simp at hcs
    have hlm : len ≤ m := by rw [hmm]; simp; exact hl
    have hM : len ≤ 9223372036854775807 := Nat.le_trans hl hm
    by_cases h0 : len = 0
    · subst h0
      exact ⟨some a, cap, [], hcs, by simp, by simp, .inl rfl⟩
    rw [cellsTx] at hall
    have each : ∀ j : Nat, ∃ r : Tx, j < len → ∃ (a' : Option Addr) (cap' : Nat), W.cells? base (a.add (j * 3)) 3 = some [.int .i64 r.1, .bool r.2.1, .slice a' r.2.2.length cap'] ∧ (r.2.2.length ≤ cap' ∧ r.2.2.length ≤ 9223372036854775807 ∧ Chs (fun _ => True) 9223372036854775807 W a' r.2.2) := by
      intro j
      by_cases hj : j < len
      · obtain ⟨cs', h1, h2⟩ := hall j (by omega)
        obtain ⟨r, a', cap', e, hp⟩ := open_tx h2
        subst e
        exact ⟨r, fun _ => ⟨a', cap', h1, hp⟩⟩
      · exact ⟨(0, false, []), fun h' => absurd h' hj⟩
    have ⟨f, hf⟩ := Classical.axiomOfChoice each
    have hspot : a.spot = none := by
      obtain ⟨_, _, h1, _⟩ := hf 0 (by omega)
      have h00 := (World.cells?_some h1).2.2 0 (by omega)
      simp only [Nat.zero_mul, Addr.add, if_true] at h00
      unfold World.cell? at h00
      split at h00
      · split at h00
        · cases h00
        · rename_i q; simpa using q
      · cases h00
    obtain ⟨b, o, s⟩ := a
    simp only at hspot
    subst hspot
    have hblk : b < W.heap.size := by
      obtain ⟨_, _, h1, _⟩ := hf 0 (by omega)
      have h00 := (World.cells?_some h1).2.2 0 (by omega)
      rw [Go.Deep.add_add, Addr.add_mid] at h00
      exact World.block_lt_of_cell? W _ (h00.trans rfl)
    refine ⟨some ⟨b, o, none⟩, cap, (List.range len).map f, by simpa using hcs, by simpa using hl, by simpa using hM, .inr ⟨b, o, rfl, hblk, fun j hj => ?_⟩⟩
    simp only [List.length_map, List.length_range] at hj
    have e : ((List.range len).map f)[j]'(by simpa using hj) = f j := by simp
    rw [e]
    obtain ⟨a', cap', h1, hp⟩ := hf j hj
    have hc := (World.cells?_some h1).2.2
    have c0 := hc 0 (by omega)
    have c1 := hc 1 (by omega)
    have c2 := hc 2 (by omega)
    rw [Go.Deep.add_add, Addr.add_mid] at c0 c1 c2
    exact ⟨a', cap', c0, c1, c2, hp.1, hp.2.1, hp.2.2, fun _ _ _ => trivial⟩
set_option maxRecDepth 100000 in
theorem open_store {H : Type} {enc : TypeId × Value → H} {W : World} {base fuel : Nat} {cs : List Value} {x : DataW H × List MemPlace} (h : DataW.trod enc Tryz.prog W base (fun _ => true) true fuel 27 cs = some x) : ∃ (now : Int) (a : Option Addr) (cap : Nat) (rs : List Rw) (ta : Option Addr) (tcap : Nat) (ts : List Tx), cs = [.int .i64 now, .slice a rs.length cap, .slice ta ts.length tcap] ∧ rs.length ≤ 9223372036854775807 ∧ RwsL W a rs ∧ ts.length ≤ 9223372036854775807 ∧ Txs (fun _ => True) 9223372036854775807 W ta ts := by
  obtain ⟨xs, n, _, _, hlen, hxl, hf⟩ := DataW.trod_struct Tryz.underlying27 h
  rw [cellsSt] at hlen
  match xs, hxl, cs, hlen with
  | [y0, y1], _, [v0, v1, v2], _ =>
    have g0 : DataW.trod enc Tryz.prog W base (fun _ => true) true n 24 (([v0, v1, v2].drop 0).take (Tryz.prog.cellsOf 24)) = some y0 := hf 0 _ rfl
    have g1 : DataW.trod enc Tryz.prog W base (fun _ => true) true n 25 (([v0, v1, v2].drop 2).take (Tryz.prog.cellsOf 25)) = some y1 := hf 1 _ rfl
    rw [cellsRws] at g0
    rw [show Tryz.prog.cellsOf 25 = 1 by kernel_rfl] at g1
    simp at g0 g1
    obtain ⟨xs', n', _, _, _, hxl', hf'⟩ := DataW.trod_struct Tryz.underlying24 g0
    match xs', hxl' with
    | [u0, u1], _ =>
      have q0 : DataW.trod enc Tryz.prog W base (fun _ => true) true n' 3 (([v0, v1].drop 0).take (Tryz.prog.cellsOf 3)) = some u0 := hf' 0 _ rfl
      have q1 : DataW.trod enc Tryz.prog W base (fun _ => true) true n' 22 (([v0, v1].drop 1).take (Tryz.prog.cellsOf 22)) = some u1 := hf' 1 _ rfl
      rw [show Tryz.prog.cellsOf 3 = 1 by kernel_rfl] at q0
      rw [show Tryz.prog.cellsOf 22 = 1 by kernel_rfl] at q1
      simp at q0 q1
      obtain ⟨z0, e0, _, _⟩ := DataW.trod_int Tryz.underlying3 q0
      obtain ⟨a, cap, rs, e1, hl, hr⟩ := open_rows q1
      obtain ⟨ta, tcap, ts, e2, _, htl, htx⟩ := open_txs g1
      simp at e0
      exact ⟨z0, a, cap, rs, ta, tcap, ts, by simp [e0, e1, e2], hl, hr, htl, htx⟩
theorem setk3a {w : World} {p : Nat} {o0 o1 o2 : Value} {t : TypeId} (h : w.heap[p]? = some (.cells #[o0, o1, o2] t (0, 0))) (a b : Value) : ((w.setCell ⟨p, 0, none⟩ a).setCell ⟨p, 1, none⟩ b).heap[p]? = some (.cells #[a, b, o2] t (0, 0)) := by
  have st : ∀ (W : World) (cs : Array Value) (k : Nat) (u : Value), W.heap[p]? = some (.cells cs t (0, 0)) → (W.setCell ⟨p, k, none⟩ u).heap[p]? = some (.cells (cs.setIfInBounds k u) t (0, 0)) := by
    intro W cs k u h
    have hlt := lt_of_block h
    have h' : W.heap[p] = .cells cs t (0, 0) := by simpa [Array.getElem?_eq_getElem hlt] using h
    show (W.heap.modify p _)[p]? = _
    rw [Array.getElem?_eq_getElem (by simpa using hlt), Array.getElem_modify_self, h']
    rfl
  have e4 := st _ _ 1 b (st _ _ 0 a h)
  simpa using e4
set_option maxRecDepth 100000 in
set_option maxHeartbeats 2000000 in
theorem to_store {N1 N2 : Nat → Prop} (now : Int) (a ta : Option Addr) (cap tcap : Nat) (rs : List Rw) (ts : List Tx) (w : World) (hm : rs.length ≤ 1099511627776) (htm : ts.length ≤ 1099511627776) (hr : Rws N1 w a rs) (ht : Txs N2 1099511627776 w ta ts) : Calls Tryz.prog 7 #[.agg #[.int .i64 now, .slice a rs.length cap, .slice ta ts.length tcap]] w fun e w' => ∃ B T, e = .returned (.agg #[.int .i64 now, .slice (some ⟨B, 0, none⟩) rs.length rs.length, .slice (some ⟨T, 0, none⟩) ts.length ts.length]) ∧ Rws (fun c => B < c) w' (some ⟨B, 0, none⟩) rs ∧ Txs (fun c => T < c) 1099511627776 w' (some ⟨T, 0, none⟩) ts ∧ Below w.heap.size w w' := by
  have HR := hid (fun (W : World) (hb : Below w.heap.size w W) => to_rows now a cap rs W hm (hr.below hb))
  have HT := hid (fun (W : World) (hb : Below w.heap.size w W) => to_txs ta tcap ts W htm (ht.below hb))
  clear hr ht
  obtain ⟨n, hn⟩ : ∃ n, n = rs.length := ⟨_, rfl⟩
  obtain ⟨tn, htn⟩ : ∃ tn, tn = ts.length := ⟨_, rfl⟩
  rw [← hn] at HR ⊢
  rw [← htn] at HT ⊢
  clear hn htn
  have hB0 : Below w.heap.size w (((w.alloc (.cells #[.int .i64 now, .slice a n cap, .slice ta tn tcap] 27)).alloc (.cells #[.int .i64 0, .slice none 0 0, .slice none 0 0] 34)).alloc (.cells #[.int .i64 0, .slice none 0 0, .slice none 0 0] 34)) := balloc (balloc (balloc (Below.refl _ _) _) _) _
  have g0 := old_alloc (o' := .cells #[.int .i64 0, .slice none 0 0, .slice none 0 0] 34) (old_alloc (o' := .cells #[.int .i64 0, .slice none 0 0, .slice none 0 0] 34) (new_alloc w w.heap.size (.cells #[.int .i64 now, .slice a n cap, .slice ta tn tcap] 27) rfl))
  have g1 := old_alloc (o' := .cells #[.int .i64 0, .slice none 0 0, .slice none 0 0] 34) (new_alloc (w.alloc (.cells #[.int .i64 now, .slice a n cap, .slice ta tn tcap] 27)) (w.heap.size + 1) (.cells #[.int .i64 0, .slice none 0 0, .slice none 0 0] 34) (by simp))
  have g2 := new_alloc ((w.alloc (.cells #[.int .i64 now, .slice a n cap, .slice ta tn tcap] 27)).alloc (.cells #[.int .i64 0, .slice none 0 0, .slice none 0 0] 34)) (w.heap.size + 1 + 1) (.cells #[.int .i64 0, .slice none 0 0, .slice none 0 0] 34) (by simp)
  go_enter Tryz.func7, Tryz.ntmps7
  go_upto_region 2 with fail
  generalize ((w.alloc (.cells #[.int .i64 now, .slice a n cap, .slice ta tn tcap] 27)).alloc (.cells #[.int .i64 0, .slice none 0 0, .slice none 0 0] 34)).alloc (.cells #[.int .i64 0, .slice none 0 0, .slice none 0 0] 34) = W at *
  have hlW := lt_of_block g2
  obtain ⟨⟨d0, d1, d2⟩, _⟩ := cellk3 g0
  go_wp2_with fail
  refine (HR.out _ hB0).mono ?_
  rintro e w1 ⟨B, rfl, hbb, hbl, ho, hb1⟩
  replace g0 := keepheap2 hb1 g0
  replace g1 := keepheap2 hb1 g1
  replace g2 := keepheap2 hb1 g2
  have hB1 := btrans hB0 hb1
  have HO := hid ho
  have hs1 := hb1.size
  clear hB0 hb1 ho d0 d1 d2 HR
  obtain ⟨⟨f0, f1, f2⟩, p0, p1, p2⟩ := cellk3 g2
  go_upto_region 3 with fail
  have g2' : ((w1.setCell ⟨w.heap.size + 1 + 1, 0, none⟩ (.int .i64 now)).setCell ⟨w.heap.size + 1 + 1, 1, none⟩ (.slice (some ⟨B, 0, none⟩) n n)).heap[w.heap.size + 1 + 1]? = some (.cells #[.int .i64 now, .slice (some ⟨B, 0, none⟩) n n, .slice none 0 0] 34 (0, 0)) := setk3a g2 _ _
  have hfar : ∀ c, c ≠ w.heap.size + 1 + 1 → ((w1.setCell ⟨w.heap.size + 1 + 1, 0, none⟩ (.int .i64 now)).setCell ⟨w.heap.size + 1 + 1, 1, none⟩ (.slice (some ⟨B, 0, none⟩) n n)).heap[c]? = w1.heap[c]? := fun c hc => by rw [Below.heap_setCell _ _ _ _ (by dsimp only; omega), Below.heap_setCell _ _ _ _ (by dsimp only; omega)]
  have g0' := (hfar w.heap.size (by omega)).trans g0
  have g1' := (hfar (w.heap.size + 1) (by omega)).trans g1
  have HO2 := hid ((HO.out.setR (q := w.heap.size + 1 + 1) (k := 0) (u := .int .i64 now) (by omega) (by omega)).setR (q := w.heap.size + 1 + 1) (k := 1) (u := (.slice (some ⟨B, 0, none⟩) n n)) (by omega) (by omega))
  have hB2 := bset (bset hB1 (q := w.heap.size + 1 + 1) (k := 0) (by omega) (.int .i64 now)) (q := w.heap.size + 1 + 1) (k := 1) (by omega) (.slice (some ⟨B, 0, none⟩) n n)
  have hbl2 : B < ((w1.setCell ⟨w.heap.size + 1 + 1, 0, none⟩ (.int .i64 now)).setCell ⟨w.heap.size + 1 + 1, 1, none⟩ (.slice (some ⟨B, 0, none⟩) n n)).heap.size := by simpa using hbl
  clear hfar g0 g1 g2 HO hB1 f0 f1 f2 p0 p1 p2 hbl
  generalize (w1.setCell ⟨w.heap.size + 1 + 1, 0, none⟩ (.int .i64 now)).setCell ⟨w.heap.size + 1 + 1, 1, none⟩ (.slice (some ⟨B, 0, none⟩) n n) = V at *
  have hlV := lt_of_block g2'
  obtain ⟨⟨d0, d1, d2⟩, _⟩ := cellk3 g0'
  go_wp2_with fail
  refine (HT.out _ hB2).mono ?_
  rintro e w2 ⟨T, rfl, htt, htx, hb2⟩
  replace g1' := keepheap2 hb2 g1'
  replace g2' := keepheap2 hb2 g2'
  have hB3 := btrans hB2 hb2
  have HO3 := hid (fun j (hj : j < rs.length) => (HO2.out j hj).below hb2)
  have HTX := hid htx
  have hs2 := hb2.size
  clear hB2 hb2 htx d0 d1 d2 HT HO2 g0'
  obtain ⟨⟨f0, f1, f2⟩, p0, p1, p2⟩ := cellk3 g2'
  obtain ⟨⟨v0, v1, v2⟩, u0, u1, u2⟩ := cellk3 g1'
  go_wp2_with fail
  have gF := setk3 (set_far (q := w.heap.size + 1 + 1) (k := 2) (u := (.slice (some ⟨T, 0, none⟩) tn tn)) g1' (by omega)) (.int .i64 now) (.slice (some ⟨B, 0, none⟩) n n) (.slice (some ⟨T, 0, none⟩) tn tn)
  have bF := bset (bset (bset (bset hB3 (q := w.heap.size + 1 + 1) (k := 2) (by omega) (.slice (some ⟨T, 0, none⟩) tn tn)) (q := w.heap.size + 1) (k := 0) (by omega) (.int .i64 now)) (q := w.heap.size + 1) (k := 1) (by omega) (.slice (some ⟨B, 0, none⟩) n n)) (q := w.heap.size + 1) (k := 2) (by omega) (.slice (some ⟨T, 0, none⟩) tn tn)
  have hfar : ∀ c, w.heap.size + 1 + 1 < c → ((((w2.setCell ⟨w.heap.size + 1 + 1, 2, none⟩ (.slice (some ⟨T, 0, none⟩) tn tn)).setCell ⟨w.heap.size + 1, 0, none⟩ (.int .i64 now)).setCell ⟨w.heap.size + 1, 1, none⟩ (.slice (some ⟨B, 0, none⟩) n n)).setCell ⟨w.heap.size + 1, 2, none⟩ (.slice (some ⟨T, 0, none⟩) tn tn)).heap[c]? = w2.heap[c]? := fun c hc => by rw [Below.heap_setCell _ _ _ _ (by dsimp only; omega), Below.heap_setCell _ _ _ _ (by dsimp only; omega), Below.heap_setCell _ _ _ _ (by dsimp only; omega), Below.heap_setCell _ _ _ _ (by dsimp only; omega)]
  have hsz : w2.heap.size ≤ ((((w2.setCell ⟨w.heap.size + 1 + 1, 2, none⟩ (.slice (some ⟨T, 0, none⟩) tn tn)).setCell ⟨w.heap.size + 1, 0, none⟩ (.int .i64 now)).setCell ⟨w.heap.size + 1, 1, none⟩ (.slice (some ⟨B, 0, none⟩) n n)).setCell ⟨w.heap.size + 1, 2, none⟩ (.slice (some ⟨T, 0, none⟩) tn tn)).heap.size := by simp
  have oF : RwsAt (fun c => B < c) ((((w2.setCell ⟨w.heap.size + 1 + 1, 2, none⟩ (.slice (some ⟨T, 0, none⟩) tn tn)).setCell ⟨w.heap.size + 1, 0, none⟩ (.int .i64 now)).setCell ⟨w.heap.size + 1, 1, none⟩ (.slice (some ⟨B, 0, none⟩) n n)).setCell ⟨w.heap.size + 1, 2, none⟩ (.slice (some ⟨T, 0, none⟩) tn tn)) B 0 rs := fun j hj => ((((HO3.out j hj).setR (q := w.heap.size + 1 + 1) (k := 2) (u := (.slice (some ⟨T, 0, none⟩) tn tn)) (by omega) (fun c hc => by omega)).setR (q := w.heap.size + 1) (k := 0) (u := .int .i64 now) (by omega) (fun c hc => by omega)).setR (q := w.heap.size + 1) (k := 1) (u := (.slice (some ⟨B, 0, none⟩) n n)) (by omega) (fun c hc => by omega)).setR (q := w.heap.size + 1) (k := 2) (u := (.slice (some ⟨T, 0, none⟩) tn tn)) (by omega) (fun c hc => by omega)
  have tF : TxsAt (fun c => T < c) 1099511627776 ((((w2.setCell ⟨w.heap.size + 1 + 1, 2, none⟩ (.slice (some ⟨T, 0, none⟩) tn tn)).setCell ⟨w.heap.size + 1, 0, none⟩ (.int .i64 now)).setCell ⟨w.heap.size + 1, 1, none⟩ (.slice (some ⟨B, 0, none⟩) n n)).setCell ⟨w.heap.size + 1, 2, none⟩ (.slice (some ⟨T, 0, none⟩) tn tn)) T 0 ts := fun j hj => (HTX.out.2 j hj).blk (fun i _ => by simp only [World.cell?, hfar T (by omega)]) (fun c hc => hfar c (by omega)) hsz
  generalize ((((w2.setCell ⟨w.heap.size + 1 + 1, 2, none⟩ (.slice (some ⟨T, 0, none⟩) tn tn)).setCell ⟨w.heap.size + 1, 0, none⟩ (.int .i64 now)).setCell ⟨w.heap.size + 1, 1, none⟩ (.slice (some ⟨B, 0, none⟩) n n)).setCell ⟨w.heap.size + 1, 2, none⟩ (.slice (some ⟨T, 0, none⟩) tn tn)) = wf at *
  have hTs := HTX.out.1
  obtain ⟨⟨z0, z1, z2⟩, _⟩ := cellk3 gF
  exact bodyPost_ret (v := .agg #[.int .i64 now, .slice (some ⟨B, 0, none⟩) n n, .slice (some ⟨T, 0, none⟩) tn tn]) (by simp [results, Tryz.results7, go_sem, z0, z1, z2]) rfl ⟨B, T, rfl, .inr ⟨B, 0, rfl, by omega, oF⟩, .inr ⟨T, 0, rfl, by omega, tF⟩, bF⟩
end Go.Proofs.YtiocelhnmfadnaaGreat
namespace Go.Proofs.YtiocelhnmfadnaaGreat
open Go.RowKit
set_option linter.unusedSimpArgs false
set_option linter.unusedVariables false
theorem keepheapA {w w' : World} (hb : Below w.heap.size w w') {b : Nat} {o : Obj} (h : w.heap[b]? = some o) : w'.heap[b]? = some o := by
  rw [hb.block b (lt_of_block h)]; exact h
def atb (id t : Int) (r : Rw) : Bool := decide (r.1 = id) && thr (tr r) t
def rat (rs : List Rw) (id t : Int) : Option Rw := rs.find? (atb id t)
def raK (o : Option Rw) : Int := match o with
  | some r => r.2.2.2.1
  | none => 0
def raP (o : Option Rw) : List (Int × Int) := match o with
  | some r => r.2.2.2.2
  | none => []
theorem rat_some {rs : List Rw} {id t : Int} {i : Nat} (h : i < rs.length) (hb : ∀ m (h : m < rs.length), m < i → atb id t rs[m] = false) (hi : atb id t rs[i] = true) : rat rs id t = some rs[i] := by
  unfold rat
  rw [List.find?_eq_some_iff_getElem]
  exact ⟨hi, i, h, rfl, fun j hj => by simp [hb j (by omega) hj]⟩
theorem rat_none {rs : List Rw} {id t : Int} (hb : ∀ m (h : m < rs.length), atb id t rs[m] = false) : rat rs id t = none := by
  unfold rat
  rw [List.find?_eq_none]
  intro x hx
  obtain ⟨m, hm, rfl⟩ := List.mem_iff_getElem.1 hx
  rw [hb m hm]; simp
/-- What RowAt tells, in memory of its own. -/
def RA (w : World) (rk : Int) (rp : List (Int × Int)) (rb : Bool) (e : Ending) (w' : World) : Prop :=
  ∃ a' cap', e = .returned (.tuple #[.agg #[.int .i64 rk, .slice a' rp.length cap'], .bool rb]) ∧ rp.length ≤ cap' ∧ ((a' = none ∧ rp = []) ∨ ∃ b, a' = some ⟨b, 0, none⟩ ∧ PtsOwn w' b rp) ∧ (∀ b off, a' = some ⟨b, off, none⟩ → w.heap.size ≤ b) ∧ Below w.heap.size w w'
theorem ra_no {w w' : World} {rk : Int} {rp : List (Int × Int)} {rb : Bool} (h1 : rk = 0) (h2 : rp = []) (h3 : rb = false) (hb : Below w.heap.size w w') : RA w rk rp rb (.returned (.tuple #[.agg #[.int .i64 0, .slice none 0 0], .bool false])) w' := by
  subst h1; subst h2; subst h3
  exact ⟨none, 0, rfl, Nat.le_refl _, .inl ⟨rfl, rfl⟩, fun _ _ e => (by cases e), hb⟩
theorem ra_yes {w w' : World} {rk kd : Int} {rp ps : List (Int × Int)} {rb : Bool} {g cap : Nat} (h1 : rk = kd) (h2 : rp = ps) (h3 : rb = true) (hc : ps.length ≤ cap) (hg : w.heap.size ≤ g) (ho : PtsOwn w' g ps) (hb : Below w.heap.size w w') : RA w rk rp rb (.returned (.tuple #[.agg #[.int .i64 kd, .slice (some ⟨g, 0, none⟩) ps.length cap], .bool true])) w' := by
  subst h1; subst h2; subst h3
  exact ⟨_, cap, rfl, hc, .inr ⟨g, rfl, ho⟩, fun _ _ e => (by cases e; exact hg), hb⟩
/-- What shapeAt tells, in memory of the rows. -/
def SA (w : World) (rk : Int) (rp : List (Int × Int)) (rb : Bool) (e : Ending) (w' : World) : Prop :=
  ∃ a' cap', e = .returned (.tuple #[.agg #[.int .i64 rk, .slice a' rp.length cap'], .bool rb]) ∧ ((rb = false ∧ a' = none ∧ cap' = 0 ∧ rp = []) ∨ (rb = true ∧ 0 < rp.length ∧ rp.length ≤ 1099511627776 ∧ Pts w' a' rp)) ∧ Below w.heap.size w w'
end Go.Proofs.YtiocelhnmfadnaaGreat
namespace Go.Proofs.YtiocelhnmfadnaaGreat
open Go.RowKit
set_option linter.unusedSimpArgs false
set_option linter.unusedVariables false
def ratb (now : Int) (rs : List Rw) (id t : Int) : Option Rw := if rowsb now rs = true then rat rs id t else none
theorem shok_pos {k : Int} {ps : List (Int × Int)} (h : shok k ps = true) : 0 < ps.length := by
  unfold shok at h
  split at h
  · simp only [Bool.and_eq_true, decide_eq_true_eq] at h; omega
  split at h
  · simp only [lineb, Bool.and_eq_true, decide_eq_true_eq] at h; omega
  split at h
  · simp only [rectb, Bool.and_eq_true, decide_eq_true_eq] at h; omega
  split at h
  · simp only [ringOk, Bool.and_eq_true, decide_eq_true_eq] at h; omega
  · cases h
theorem rowsb_pos {now : Int} {rs : List Rw} (h : rowsb now rs = true) : ∀ m (h : m < rs.length), 0 < rs[m].2.2.2.2.length := by
  intro m hm
  unfold rowsb at h
  simp only [Bool.and_eq_true, List.all_eq_true] at h
  have := h.2.1 rs[m] (List.getElem_mem hm)
  unfold rowb at this
  simp only [Bool.and_eq_true] at this
  exact shok_pos this.2
end Go.Proofs.YtiocelhnmfadnaaGreat
namespace Go.Proofs.YtiocelhnmfadnaaGreat
open Go.RowKit
set_option linter.unusedSimpArgs false
set_option linter.unusedVariables false
def txn (ts : List Tx) (n : Int) : Tx := ts.getD n.toNat (0, false, [])
theorem txn_at {ts : List Tx} {m : Nat} (h : m < ts.length) : txn ts (m : Int) = ts[m] := by
  unfold txn
  rw [show ((m : Int)).toNat = m by omega, List.getD_eq_getElem?_getD, List.getElem?_eq_getElem h]; rfl
def opn (now : Int) (rs : List Rw) (ts : List Tx) (n : Int) : Bool := storeb now rs ts && ((decide (0 ≤ n) && decide (n ≤ (ts.length : Int) - 1)) && (txn ts n).2.1)
def chf (cs : List Ch) (id : Int) : Option Ch := cs.find? (fun c => decide (c.1 = id))
theorem chf_some {cs : List Ch} {id : Int} {i : Nat} (h : i < cs.length) (hb : ∀ m (h : m < cs.length), m < i → cs[m].1 ≠ id) (hi : cs[i].1 = id) : chf cs id = some cs[i] := by
  unfold chf
  rw [List.find?_eq_some_iff_getElem]
  exact ⟨by simpa using hi, i, h, rfl, fun j hj => by simpa using hb j (by omega) hj⟩
theorem chf_none {cs : List Ch} {id : Int} (hb : ∀ m (h : m < cs.length), cs[m].1 ≠ id) : chf cs id = none := by
  unfold chf
  rw [List.find?_eq_none]
  intro x hx
  obtain ⟨m, hm, rfl⟩ := List.getElem_of_mem hx
  simpa using hb m hm
def seK (rs : List Rw) (cs : List Ch) (id t : Int) : Int := match chf cs id with
  | some c => if c.2.1 then 0 else c.2.2.1
  | none => raK (rat rs id t)
def seP (rs : List Rw) (cs : List Ch) (id t : Int) : List (Int × Int) := match chf cs id with
  | some c => if c.2.1 then [] else c.2.2.2
  | none => raP (rat rs id t)
def seB (rs : List Rw) (cs : List Ch) (id t : Int) : Bool := match chf cs id with
  | some c => !c.2.1
  | none => (rat rs id t).isSome
theorem se_some {rs : List Rw} {cs : List Ch} {id t : Int} {i : Nat} (h : i < cs.length) (hb : ∀ m (h : m < cs.length), m < i → cs[m].1 ≠ id) (hi : cs[i].1 = id) : (cs[i].2.1 = true → seK rs cs id t = 0 ∧ seP rs cs id t = [] ∧ seB rs cs id t = false) ∧ (cs[i].2.1 = false → seK rs cs id t = cs[i].2.2.1 ∧ seP rs cs id t = cs[i].2.2.2 ∧ seB rs cs id t = true) := by
  unfold seK seP seB
  rw [chf_some h hb hi]
  exact ⟨fun e => by simp [e], fun e => by simp [e]⟩
theorem se_none {rs : List Rw} {cs : List Ch} {id t : Int} (hb : ∀ m (h : m < cs.length), cs[m].1 ≠ id) : seK rs cs id t = raK (rat rs id t) ∧ seP rs cs id t = raP (rat rs id t) ∧ seB rs cs id t = (rat rs id t).isSome := by
  unfold seK seP seB
  rw [chf_none hb]
  exact ⟨rfl, rfl, rfl⟩
set_option maxRecDepth 100000 in
set_option maxHeartbeats 2000000 in
theorem spec_open {N1 N2 : Nat → Prop} (now : Int) (a ta : Option Addr) (cap tcap : Nat) (rs : List Rw) (ts : List Tx) (n : Int) (w : World) (hm : rs.length ≤ 1099511627776) (htm : ts.length ≤ 1099511627776) (hr : Rws N1 w a rs) (ht : Txs N2 1099511627776 w ta ts) : Calls Tryz.prog 33 #[.agg #[.int .i64 now, .slice a rs.length cap, .slice ta ts.length tcap], .int .i64 n] w fun e w' => e = .returned (.bool (opn now rs ts n)) ∧ Below w.heap.size w w' := by
  have HOK := hid (fun (W : World) (hb : Below w.heap.size w W) => spec_StoreOk now a ta cap tcap rs ts W hm htm (hr.below hb) (ht.below hb))
  have HTX := hid ht
  have HOP := hid (show opn now rs ts n = (storeb now rs ts && ((decide (0 ≤ n) && decide (n ≤ (ts.length : Int) - 1)) && (txn ts n).2.1)) from rfl)
  clear hr ht
  generalize opn now rs ts n = q at *
  generalize storeb now rs ts = ob at *
  obtain ⟨tn, hn⟩ : ∃ tn, tn = ts.length := ⟨_, rfl⟩
  have HN := hid hn.symm
  rw [← hn] at htm HOK HOP ⊢
  clear hn
  generalize rs.length = rn at *
  have hB0 : Below w.heap.size w (w.alloc (.cells #[.int .i64 now, .slice a rn cap, .slice ta tn tcap] 34)) := balloc (Below.refl _ _) _
  have g0 := new_alloc w w.heap.size (.cells #[.int .i64 now, .slice a rn cap, .slice ta tn tcap] 34) rfl
  go_enter Tryz.func33, Tryz.ntmps33
  go_upto_region 1 with fail
  generalize w.alloc (.cells #[.int .i64 now, .slice a rn cap, .slice ta tn tcap] 34) = W0 at *
  obtain ⟨⟨d0, d1, d2⟩, _⟩ := cellk3 g0
  go_wp2_with fail
  refine (HOK.out _ hB0).mono ?_
  rintro e z ⟨rfl, hz⟩
  replace g0 := keepheapA hz g0
  have HB := hid (btrans hB0 hz)
  clear hB0 hz HOK d0 d1 d2
  obtain ⟨⟨d0, d1, d2⟩, _⟩ := cellk3 g0
  clear g0
  cases ob
  · go_wp2_with fail
    go_ret
    exact ⟨by rw [HOP.out]; rfl, HB.out⟩
  · have HI := hid (fun W => in_r n 0 ((tn : Int) - 1) W)
    by_cases hin : 0 ≤ n ∧ n ≤ (tn : Int) - 1
    · have hq : (decide (0 ≤ n) && decide (n ≤ (tn : Int) - 1)) = true := by simp [hin.1, hin.2]
      have HQ := hid (show q = (txn ts n).2.1 by rw [HOP.out, hq]; simp)
      rw [hq] at HI
      obtain ⟨m, rfl⟩ : ∃ m : Nat, n = (m : Int) := ⟨n.toNat, by omega⟩
      have hmn : m < tn := by omega
      have hmr : m < ts.length := by rw [HN.out]; exact hmn
      obtain ⟨b, o, rfl, hbs, a', cap', k0, k1, k2, _, _, _, _⟩ := (HTX.out.below HB.out).at m hmr
      have HQ2 := hid (show ts[m].2.1 = q by rw [HQ.out, txn_at hmr])
      generalize ts[m].2.1 = q2 at *
      clear HQ hq hin HOP
      go_wp2_with fail
      refine (HI.out _).mono ?_
      rintro e z2 ⟨rfl, hz2⟩
      replace hz2 := hz2.symm
      subst hz2
      go_wp2_with fail
      go_ret
      exact ⟨by rw [HQ2.out]; rfl, HB.out⟩
    · have hq : (decide (0 ≤ n) && decide (n ≤ (tn : Int) - 1)) = false := by
        by_cases h1 : 0 ≤ n
        · have : ¬ n ≤ (tn : Int) - 1 := fun h => hin ⟨h1, h⟩
          simp [this]
        · simp [h1]
      have HQ := hid (show q = false by rw [HOP.out, hq]; simp)
      rw [hq] at HI
      go_wp2_with fail
      refine (HI.out _).mono ?_
      rintro e z2 ⟨rfl, hz2⟩
      replace hz2 := hz2.symm
      subst hz2
      go_wp2_with fail
      go_ret
      exact ⟨by rw [HQ.out]; rfl, HB.out⟩
def gtK (now : Int) (rs : List Rw) (ts : List Tx) (n id : Int) : Int := if opn now rs ts n = true then seK rs (txn ts n).2.2 id (txn ts n).1 else 0
def gtP (now : Int) (rs : List Rw) (ts : List Tx) (n id : Int) : List (Int × Int) := if opn now rs ts n = true then seP rs (txn ts n).2.2 id (txn ts n).1 else []
def gtB (now : Int) (rs : List Rw) (ts : List Tx) (n id : Int) : Bool := if opn now rs ts n = true then seB rs (txn ts n).2.2 id (txn ts n).1 else false
/-- What an open transaction has. -/
theorem opn_yes {now : Int} {rs : List Rw} {ts : List Tx} {n : Int} (h : opn now rs ts n = true) : ∃ m : Nat, n = (m : Int) ∧ ∃ hm : m < ts.length, rowsb now rs = true ∧ txn ts n = ts[m] ∧ edb ts[m].2.2 = true ∧ ts[m].2.1 = true := by
  unfold opn storeb at h
  simp only [Bool.and_eq_true, decide_eq_true_eq, List.all_eq_true] at h
  obtain ⟨⟨h1, _, h2⟩, ⟨h3, h4⟩, h5⟩ := h
  obtain ⟨m, rfl⟩ : ∃ m : Nat, n = (m : Int) := ⟨n.toNat, by omega⟩
  have hm : m < ts.length := by omega
  have hx := h2 ts[m] (List.getElem_mem hm)
  unfold txb at hx
  simp only [Bool.and_eq_true] at hx
  refine ⟨m, rfl, hm, h1, txn_at hm, hx.2, ?_⟩
  rw [txn_at hm] at h5; exact h5
theorem edb_pos {cs : List Ch} (h : edb cs = true) : ∀ i (h : i < cs.length), cs[i].2.1 = false → 0 < cs[i].2.2.2.length := by
  intro i hi hg
  unfold edb at h
  rw [List.all_eq_true] at h
  have := h i (List.mem_range.2 hi)
  unfold edi chb at this
  rw [getD_ch hi, hg] at this
  simp at this
  exact shok_pos this.1.2
end Go.Proofs.YtiocelhnmfadnaaGreat
namespace Go.Proofs.YtiocelhnmfadnaaGreat
open Go.RowKit
set_option linter.unusedSimpArgs false
set_option linter.unusedVariables false
/-- Whole numbers in memory. -/
def InI (w : World) (a : Option Addr) (zs : List Int) : Prop := zs = [] ∨ ∃ b o, a = some ⟨b, o, none⟩ ∧ b < w.heap.size ∧ ∀ k, k < zs.length → w.cell? ⟨b, o + k, none⟩ = some (.int .i64 (zs.getD k 0))
theorem InI.below {w w' : World} {a : Option Addr} {zs : List Int} (h : InI w a zs) (H : Below w.heap.size w w') : InI w' a zs := by
  rcases h with h | ⟨b, o, e, hb, h⟩
  · exact .inl h
  · exact .inr ⟨b, o, e, by have := H.size; omega, fun k hk => keepcell H (h k hk)⟩
theorem InI.at {w : World} {a : Option Addr} {zs : List Int} (h : InI w a zs) {k : Nat} (hk : k < zs.length) : ∃ b o, a = some ⟨b, o, none⟩ ∧ b < w.heap.size ∧ w.cell? ⟨b, o + k, none⟩ = some (.int .i64 (zs.getD k 0)) := by
  rcases h with h | ⟨b, o, e, hb, h⟩
  · subst h; simp at hk
  · exact ⟨b, o, e, hb, h k hk⟩
theorem OwnI.inI {w : World} {a : Option Addr} {zs : List Int} (h : OwnI w a zs) : InI w a zs := by
  rcases h with ⟨_, h⟩ | ⟨b, e, hb, h, _⟩
  · exact .inl h
  · exact .inr ⟨b, 0, e, hb, h⟩
theorem keepheapO {w w' : World} (hb : Below w.heap.size w w') {b : Nat} {o : Obj} (h : w.heap[b]? = some o) : w'.heap[b]? = some o := (hb.block b (by by_cases q : b < w.heap.size; exact q; rw [Array.getElem?_eq_none (by omega)] at h; cases h)).trans h
theorem make_nO (n : Nat) (hn : n ≤ 1099511627776) (w : World) : (Instr.makeSlice 41 (.int .i64 n) (.int .i64 n)).run Tryz.prog w = .ok (.slice (some ⟨w.heap.size, 0, none⟩) n n) (w.alloc (.cells (madeCells #[.int .i64 0] n) 3)) := by
  obtain ⟨i0, hi, hz0, hz1, hz2⟩ := info_parts Tryz.infoI
  have := run_make (P := Tryz.prog) w 41 3 i0 _ Tryz.underlying41 hi hz0 .i64 .i64 n n (by omega) (by omega) (by rw [hz2]; omega) (by omega)
  rw [hz1, Nat.mul_one] at this
  exact this
theorem made_there (w : World) (n : Nat) : (w.alloc (.cells (madeCells #[.int .i64 0] n) 3)).there w.heap.size 0 n := by
  intro j hj
  have g := new_alloc w w.heap.size (.cells (madeCells #[.int .i64 0] n) 3) rfl
  have hs : (madeCells #[Value.int .i64 0] n).size = n := by simp [madeCells]
  refine ⟨?_, ?_⟩
  · simp only [World.cell?, g]
    simp [hs, hj]
  · simp only [World.frozen?, g]
    simp
set_option maxRecDepth 100000 in
set_option maxHeartbeats 2000000 in
theorem to_ints (a : Option Addr) (cap : Nat) (zs : List Int) (w : World) (hm : zs.length ≤ 1099511627776) (h : InI w a zs) : Calls Tryz.prog 34 #[.slice a zs.length cap] w fun e w' => e = .returned (.slice (some ⟨w.heap.size, 0, none⟩) zs.length zs.length) ∧ OwnI w' (some ⟨w.heap.size, 0, none⟩) zs ∧ Below w.heap.size w w' := by
  have HI := hid h
  clear h
  have hmk := make_nO zs.length hm
  obtain ⟨n, hn⟩ : ∃ n, n = zs.length := ⟨_, rfl⟩
  have HN := hid hn.symm
  rw [← hn] at hm hmk ⊢
  clear hn
  have hB0 : Below w.heap.size w (w.alloc (.cells (madeCells #[.int .i64 0] n) 3)) := balloc (Below.refl _ _) _
  have ht0 := made_there w n
  have hl0 : w.heap.size < (w.alloc (.cells (madeCells #[.int .i64 0] n) 3)).heap.size := by simp
  go_enter Tryz.func34, Tryz.ntmps34
  go_upto_region 2 with fail
  generalize w.alloc (.cells (madeCells #[.int .i64 0] n) 3) = W0 at *
  clear hmk
  go_wp2_with fail
  go_loopw [4] (fun ti wr => ∃ i : Nat, ti = .int .i64 i ∧ i ≤ n ∧ Hid (∀ k, k < i → wr.cell? ⟨w.heap.size, k, none⟩ = some (.int .i64 (zs.getD k 0))) ∧ Hid (wr.there w.heap.size 0 n) ∧ Hid (Below w.heap.size w wr) ∧ w.heap.size < wr.heap.size) (fun ti _ => n - (intOf ti).toNat)
  case atStart => exact ⟨0, rfl, Nat.zero_le _, hid (fun k hk => absurd hk (by omega)), hid ht0, hid hB0, hl0⟩
  case round =>
    clear ht0 hB0 hl0
    obtain ⟨i, rfl, hi, HA, HT, HB, hl⟩ := hrel
    by_cases hlt : i < n
    · have c1 : (i : Int) < (n : Int) := by omega
      obtain ⟨b, o, rfl, hb, k0⟩ := (HI.out.below HB.out).at (k := i) (by rw [HN.out]; exact hlt)
      obtain ⟨u, q0, q1⟩ := there_at HT.out hlt
      have HZ : Hid (∀ k, k < i + 1 → (wr.setCell ⟨w.heap.size, i, none⟩ (.int .i64 (zs.getD i 0))).cell? ⟨w.heap.size, k, none⟩ = some (.int .i64 (zs.getD k 0))) := hid (fun k hk => by
        by_cases e : k = i
        · subst e; exact World.cell?_setCell_same _ _ _ q0
        · rw [World.cell?_setCell_other _ _ _ _ (by intro q; injection q; omega)]; exact HA.out k (by omega))
      generalize zs.getD i 0 = z at *
      go_wp2_with fail
      go_roundw
      case rel => exact ⟨i + 1, by go_num, by omega, HZ, hid (there_set HT.out _), hid (bset HB.out (q := w.heap.size) (k := i) (Nat.le_refl _) _), by simp; omega⟩
      case measure => simp [intOf]; omega
    · have c1 : (n : Int) ≤ (i : Int) := by omega
      have hin : i = n := by omega
      subst hin
      have HF : Hid (OwnI wr (some ⟨w.heap.size, 0, none⟩) zs) := hid (.inr ⟨w.heap.size, rfl, hl, fun k hk => by rw [Nat.zero_add]; exact HA.out k (by rw [← HN.out]; exact hk), by rw [HN.out]; exact HT.out⟩)
      go_wp2_with fail
      go_ret
      exact ⟨rfl, HF.out, HB.out⟩
set_option maxHeartbeats 1000000 in
theorem sz_ints (a : Option Addr) (cap n : Nat) (v : Int) (w : World) (hn : n ≤ 9223372036854775807) (h0 : 0 ≤ v) (h1 : v ≤ 1048576) : Calls Tryz.prog 32 #[.slice a n cap, .int .i64 v] w fun e w' => (∃ u : Int, e = .returned (.int .i64 u) ∧ (u = -1 ∨ (0 ≤ u ∧ n ≤ 1048576))) ∧ Below w.heap.size w w' := by
  have s0 : IntKind.i64.wrap (v - (n : Int)) = v - (n : Int) := by rw [IntKind.wrap_i64]; omega
  go_enter Tryz.func32, Tryz.ntmps32
  by_cases h2 : v - (n : Int) < 0
  · go_wp2_with fail
    go_ret
    exact ⟨⟨-1, rfl, .inl rfl⟩, Below.refl _ _⟩
  · go_wp2_with fail
    go_ret
    exact ⟨⟨v - (n : Int), rfl, .inr ⟨by omega, by omega⟩⟩, Below.refl _ _⟩
set_option maxHeartbeats 2000000 in
theorem sz_db {N : Nat → Prop} (now : Int) (a ta sa : Option Addr) (cap tcap scap sn : Nat) (rs : List Rw) (ts : List Tx) (w : World) (hm : rs.length ≤ 9223372036854775807) (htm : ts.length ≤ 9223372036854775807) (hsn : sn ≤ 9223372036854775807) (hr : RwsL w a rs) (ht : Txs N 9223372036854775807 w ta ts) : Calls Tryz.prog 12 #[.agg #[.int .i64 now, .slice a rs.length cap, .slice ta ts.length tcap, .slice sa sn scap], .int .i64 1048576] w fun e w' => (∃ v : Int, e = .returned (.int .i64 v) ∧ (v = -1 ∨ (0 ≤ v ∧ Hid (((rs.length ≤ 1048576 ∧ ∀ m (h : m < rs.length), rs[m].2.2.2.2.length ≤ 1048576) ∧ txS ts) ∧ sn ≤ 1048576)))) ∧ Below w.heap.size w w' := by
  have HS := hid (fun (W : World) (hb : Below w.heap.size w W) => sz_store now a ta cap tcap rs ts W hm htm (hr.below hb) (ht.below hb))
  clear hr ht
  generalize ((rs.length ≤ 1048576 ∧ ∀ m (h : m < rs.length), rs[m].2.2.2.2.length ≤ 1048576) ∧ txS ts) = R at *
  generalize rs.length = rn at *
  generalize ts.length = tn at *
  have hB : Below w.heap.size w (w.alloc (.cells #[.int .i64 now, .slice a rn cap, .slice ta tn tcap, .slice sa sn scap] 43)) := balloc (Below.refl _ _) _
  have g0 := new_alloc w w.heap.size (.cells #[.int .i64 now, .slice a rn cap, .slice ta tn tcap, .slice sa sn scap] 43) rfl
  go_enter Tryz.func12, Tryz.ntmps12
  go_upto_region 1 with fail
  generalize w.alloc (.cells #[.int .i64 now, .slice a rn cap, .slice ta tn tcap, .slice sa sn scap] 43) = W at *
  obtain ⟨⟨d0, d1, d2, d3⟩, _⟩ := cellk4 g0
  go_wp2_with fail
  refine (HS.out _ hB).mono ?_
  rintro e z ⟨⟨v, rfl, hv⟩, hz⟩
  replace g0 := keepheapO hz g0
  replace hB := btrans hB hz
  clear hz d0 d1 d2 d3
  obtain ⟨⟨d0, d1, d2, d3⟩, _⟩ := cellk4 g0
  rcases hv with rfl | ⟨hv0, hv1, HV⟩
  · go_wp2_with fail
    go_ret
    exact ⟨⟨-1, rfl, .inl rfl⟩, hB⟩
  · have hv2 : ¬ v < 0 := by omega
    go_wp2_with fail
    refine (sz_ints sa scap sn v _ hsn hv0 hv1).mono ?_
    rintro e y ⟨⟨u, rfl, hu⟩, hy⟩
    replace hB := btrans hB hy
    rcases hu with rfl | ⟨hu0, hu1⟩
    · go_wp2_with fail
      go_ret
      exact ⟨⟨-1, rfl, .inl rfl⟩, hB⟩
    · have hu2 : ¬ u < 0 := by omega
      go_wp2_with fail
      go_ret
      exact ⟨⟨u, rfl, .inr ⟨hu0, hid ⟨HV.out, hu1⟩⟩⟩, hB⟩
end Go.Proofs.YtiocelhnmfadnaaGreat
namespace Go.Proofs.YtiocelhnmfadnaaGreat
open Go.RowKit
set_option linter.unusedSimpArgs false
set_option linter.unusedVariables false
theorem keepheapW {w w' : World} (hb : Below w.heap.size w w') {b : Nat} {o : Obj} (h : w.heap[b]? = some o) : w'.heap[b]? = some o := (hb.block b (by by_cases q : b < w.heap.size; exact q; rw [Array.getElem?_eq_none (by omega)] at h; cases h)).trans h
/-- There is a transaction of the number, and it is open. -/
def gob (ts : List Tx) (n : Int) : Bool := decide (0 ≤ n) && (decide (n < (ts.length : Int)) && (txn ts n).2.1)
theorem gob_opn {now : Int} {rs : List Rw} {ts : List Tx} {n : Int} : opn now rs ts n = (storeb now rs ts && gob ts n) := by
  unfold opn gob
  have : decide (n ≤ (ts.length : Int) - 1) = decide (n < (ts.length : Int)) := by
    by_cases h : n < (ts.length : Int)
    · rw [decide_eq_true h, decide_eq_true (by omega)]
    · rw [decide_eq_false h, decide_eq_false (by omega)]
  rw [this, Bool.and_assoc]
set_option maxRecDepth 100000 in
set_option maxHeartbeats 2000000 in
theorem goes_c {N : Nat → Prop} (now : Int) (a ta : Option Addr) (rn cap tcap : Nat) (ts : List Tx) (n : Int) (w : World) (htm : ts.length ≤ 1099511627776) (ht : Txs N 1099511627776 w ta ts) : Calls Tryz.prog 62 #[.agg #[.int .i64 now, .slice a rn cap, .slice ta ts.length tcap], .int .i64 n] w fun e w' => e = .returned (.bool (gob ts n)) ∧ Below w.heap.size w w' := by
  have HTX := hid ht
  have HG := hid (show gob ts n = (decide (0 ≤ n) && (decide (n < (ts.length : Int)) && (txn ts n).2.1)) from rfl)
  clear ht
  generalize gob ts n = gb at *
  obtain ⟨tn, hn⟩ : ∃ tn, tn = ts.length := ⟨_, rfl⟩
  have HN := hid hn.symm
  rw [← hn] at htm HG ⊢
  clear hn
  have hB : Below w.heap.size w (w.alloc (.cells #[.int .i64 now, .slice a rn cap, .slice ta tn tcap] 34)) := balloc (Below.refl _ _) _
  have g0 := new_alloc w w.heap.size (.cells #[.int .i64 now, .slice a rn cap, .slice ta tn tcap] 34) rfl
  go_enter Tryz.func62, Tryz.ntmps62
  go_upto_region 1 with fail
  generalize w.alloc (.cells #[.int .i64 now, .slice a rn cap, .slice ta tn tcap] 34) = W at *
  obtain ⟨⟨d0, d1, d2⟩, _⟩ := cellk3 g0
  by_cases h1 : 0 ≤ n
  · by_cases h2 : n < (tn : Int)
    · obtain ⟨m, rfl⟩ : ∃ m : Nat, n = (m : Int) := ⟨n.toNat, by omega⟩
      have hmr : m < ts.length := by rw [HN.out]; omega
      obtain ⟨b, o, rfl, hbs, a', cap', k0, k1, k2, _, _, _, _⟩ := (HTX.out.below hB).at m hmr
      have HQ : Hid (gb = ts[m].2.1) := hid (by rw [HG.out, txn_at hmr]; simp [h1, h2])
      clear HG k0 k2
      generalize ts[m].2.1 = op at *
      go_wp2_with fail
      go_ret
      exact ⟨by rw [HQ.out]; rfl, hB⟩
    · have HQ : Hid (gb = false) := hid (by rw [HG.out]; simp [h2])
      have h2' : (tn : Int) ≤ n := by omega
      clear HG
      go_wp2_with fail
      go_ret
      exact ⟨by rw [HQ.out]; rfl, hB⟩
  · have HQ : Hid (gb = false) := hid (by rw [HG.out]; simp [h1])
    clear HG
    go_wp2_with fail
    go_ret
    exact ⟨by rw [HQ.out]; rfl, hB⟩
end Go.Proofs.YtiocelhnmfadnaaGreat
namespace Go.Proofs.YtiocelhnmfadnaaGreat
open Go.RowKit
set_option linter.unusedSimpArgs false
set_option linter.unusedVariables false
def idsT (rs : List Rw) (t : Int) : List Int := (rs.filter (fun r => thr (tr r) t)).map (fun r => r.1)
def srt (zs : List Int) : List Int := zs.mergeSort (fun x y => decide (x ≤ y))
def idsb (now : Int) (rs : List Rw) (t : Int) : List Int := if rowsb now rs = true then srt (idsT rs t) else []
theorem srt_len (zs : List Int) : (srt zs).length = zs.length := (List.mergeSort_perm zs _).length_eq
theorem srt_of {zs ys : List Int} (hp : ys.Perm zs) (hs : ys.Pairwise (· ≤ ·)) : ys = srt zs := by
  have h1 := List.pairwise_mergeSort (le := fun (x y : Int) => decide (x ≤ y)) (by intro a b c; simp; omega) (by intro a b; simp; omega) zs
  refine List.Perm.eq_of_pairwise (le := (· ≤ ·)) (fun a b _ _ h k => by omega) hs (h1.imp (fun h => by simpa using h)) (hp.trans (List.mergeSort_perm zs _).symm)
theorem ids_next {rs : List Rw} {t : Int} {i : Nat} (hi : i < rs.length) : idsT (rs.take (i + 1)) t = if thr (tr rs[i]) t = true then idsT (rs.take i) t ++ [rs[i].1] else idsT (rs.take i) t := by
  unfold idsT
  rw [List.take_add_one, List.getElem?_eq_getElem hi, List.filter_append, List.map_append]
  by_cases h : thr (tr rs[i]) t = true
  · simp [h]
  · simp [h]
theorem ids_len (rs : List Rw) (t : Int) : (idsT rs t).length ≤ rs.length := by
  unfold idsT
  rw [List.length_map]
  exact List.length_filter_le _ _
theorem ins_perm (zs : List Int) (x : Int) (j : Nat) : (zs.take j ++ x :: zs.drop j).Perm (x :: zs) := by
  have := List.perm_middle (a := x) (l₁ := zs.take j) (l₂ := zs.drop j)
  rw [List.take_append_drop] at this
  exact this
theorem ins_sorted {zs : List Int} {x : Int} {j : Nat} (hs : zs.Pairwise (· ≤ ·)) (h1 : ∀ k, k < j → zs.getD k 0 < x) (h2 : j < zs.length → x ≤ zs.getD j 0) : (zs.take j ++ x :: zs.drop j).Pairwise (· ≤ ·) := by
  have hx : ∀ y ∈ zs.drop j, x ≤ y := by
    intro y hy
    obtain ⟨m, hm, rfl⟩ := List.mem_iff_getElem.1 hy
    simp only [List.length_drop] at hm
    have hj : j < zs.length := by omega
    have h3 := h2 hj
    rw [List.getD_eq_getElem?_getD, List.getElem?_eq_getElem hj] at h3
    simp only [Option.getD_some] at h3
    rw [List.getElem_drop]
    by_cases e : m = 0
    · subst e; simpa using h3
    · have := List.pairwise_iff_getElem.1 hs j (j + m) hj (by omega) (by omega)
      omega
  have hl : ∀ y ∈ zs.take j, y < x := by
    intro y hy
    obtain ⟨m, hm, rfl⟩ := List.mem_iff_getElem.1 hy
    simp only [List.length_take] at hm
    have := h1 m (by omega)
    rw [List.getD_eq_getElem?_getD, List.getElem?_eq_getElem (by omega)] at this
    simp only [Option.getD_some] at this
    rw [List.getElem_take]; exact this
  rw [List.pairwise_append]
  refine ⟨hs.sublist (List.take_sublist _ _), ?_, ?_⟩
  · rw [List.pairwise_cons]
    exact ⟨hx, hs.sublist (List.drop_sublist _ _)⟩
  · intro y hy z hz
    have a1 := hl y hy
    simp at hz
    rcases hz with rfl | hz
    · omega
    · have := hx z hz; omega
def IA (w : World) (zs : List Int) (e : Ending) (w' : World) : Prop :=
  ∃ a' cap', e = .returned (.slice a' zs.length cap') ∧ OwnI w' a' zs ∧ (∀ b off, a' = some ⟨b, off, none⟩ → w.heap.size ≤ b) ∧ Below w.heap.size w w'
/-- A list of whole numbers that the call has made. -/
def IRow (B : Nat) (w : World) (v : Value) (zs : List Int) : Prop := ∃ g cap, v = .slice (some ⟨g, 0, none⟩) zs.length cap ∧ g < w.heap.size ∧ zs.length ≤ cap ∧ w.ownsRow B 3 1 (.slice (some ⟨g, 0, none⟩) zs.length cap) zs.length (fli zs)
theorem own_mono {B B' : Nat} {w : World} {e : TypeId} {sz : Nat} {v : Value} {n : Nat} {xs : List Value} (h : w.ownsRow B e sz v n xs) (hb : B' ≤ B) : w.ownsRow B' e sz v n xs := by
  refine ⟨h.1, ?_⟩
  rcases h.2 with q | ⟨g, c, cur, e1, q1, q2, q3⟩
  · exact .inl q
  · exact .inr ⟨g, c, cur, e1, by omega, q2, q3⟩
theorem irow_of {B g cap n : Nat} {w : World} {zs : List Int} (h : w.ownsRow B 3 1 (.slice (some ⟨g, 0, none⟩) n cap) n (fli zs)) (hn : zs.length = n) : IRow B w (.slice (some ⟨g, 0, none⟩) n cap) zs := by
  subst hn
  obtain ⟨h1, h2, h3⟩ := own_I h rfl
  exact ⟨g, cap, rfl, h3.lt g 0 rfl, h2, h⟩
theorem IRow.below {B : Nat} {w w' : World} {v : Value} {zs : List Int} (h : IRow B w v zs) (H : Below w.heap.size w w') : IRow B w' v zs := by
  obtain ⟨g, cap, rfl, h1, h2, h3⟩ := h
  refine ⟨g, cap, rfl, Nat.lt_of_lt_of_le h1 H.size, h2, h3.1, ?_⟩
  rcases h3.2 with ⟨q, _⟩ | ⟨g', c', cur, e, q1, q2, q3⟩
  · cases q
  · cases e
    exact .inr ⟨g, cap, cur, rfl, q1, by rw [H.block g h1]; exact q2, q3⟩
theorem make_ints (n : Nat) (hn : n ≤ 1099511627776) (w : World) : (Instr.makeSlice 41 (.int .i64 0) (.int .i64 n)).run Tryz.prog w = .ok (.slice (some ⟨w.heap.size, 0, none⟩) 0 n) (w.alloc (.cells (madeCells #[.int .i64 0] n) 3)) := by
  obtain ⟨i0, hi, hz0, hz1, hz2⟩ := info_parts Tryz.infoI
  have := run_make (P := Tryz.prog) w 41 3 i0 _ Tryz.underlying41 hi hz0 .i64 .i64 0 n (by omega) (by omega) (by rw [hz2]; omega) (by omega)
  rw [hz1, Nat.mul_one] at this
  exact this
end Go.Proofs.YtiocelhnmfadnaaGreat
namespace Go.Proofs.YtiocelhnmfadnaaGreat
open Go.RowKit
set_option linter.unusedSimpArgs false
set_option linter.unusedVariables false
theorem sort_ids (B g c : Nat) (zs : List Int) (w : World) (hm : zs.length ≤ 1099511627776) (hgl : g < w.heap.size) (h : w.ownsRow B 3 1 (.slice (some ⟨g, 0, none⟩) zs.length c) zs.length (fli zs)) : Calls Tryz.prog 63 #[.slice (some ⟨g, 0, none⟩) zs.length c] w fun e w' => e = .returned (.tuple #[]) ∧ OwnI w' (some ⟨g, 0, none⟩) (srt zs) ∧ w.grownBy w' (some g) := by
  obtain ⟨_, _, hI⟩ := own_I h rfl
  obtain ⟨b, e, h1, h2, h3⟩ : ∃ b, some (⟨g, 0, none⟩ : Addr) = some ⟨b, 0, none⟩ ∧ b < w.heap.size ∧ IAt w b 0 zs ∧ w.there b 0 zs.length := by
    rcases hI with ⟨q, _⟩ | h
    · cases q
    · exact h
  cases e
  have hH : Go.Sort.Holds (Value.int .i64) w g 0 zs.toArray := by
    intro j hj
    simp at hj
    refine ⟨?_, ?_⟩
    · have := h2 j hj
      rw [this]
      simp [List.getD_eq_getElem?_getD, List.getElem?_eq_getElem hj, getElem!_pos, hj]
    · exact (h3 j hj).2
  have hc := AnyM.slices_Sort_int Tryz.sortInt g 0 c zs w hH hgl (by omega)
  change Calls Tryz.prog 63 _ _ _ at hc
  refine hc.mono ?_
  rintro e w' ⟨rfl, q, os, rfl⟩
  have hl : (srt zs).toArray.size = zs.toArray.size := by simp [srt_len]
  have hK := Go.Sort.holds_grow (Value.int .i64) _ os g 0 _ (by simpa [Go.Sort.putRow, Go.Sort.mapBlock, Go.Sort.ahead] using hgl) (Go.Sort.holds_putRow (Value.int .i64) (Go.Sort.ahead w q) g 0 zs.toArray (srt zs).toArray (Go.Sort.holds_ahead _ w q g 0 _ hH) hl)
  have hgr : w.grownBy (Go.Sort.grow (Go.Sort.putRow (Value.int .i64) (Go.Sort.ahead w q) g 0 (srt zs).toArray) os) (some g) := by
    refine ⟨rfl, rfl, rfl, by simp [Go.Sort.putRow, Go.Sort.mapBlock, Go.Sort.ahead, Go.Sort.grow], fun k hk hne => ?_⟩
    rw [Go.Sort.heap_grow_old _ _ (by simpa [Go.Sort.putRow, Go.Sort.mapBlock, Go.Sort.ahead] using hk)]
    have : g ≠ k := fun e => hne (by rw [e])
    simp [Go.Sort.putRow, Go.Sort.mapBlock, Go.Sort.ahead, Array.getElem?_modify, this]
  refine ⟨rfl, .inr ⟨g, rfl, Nat.lt_of_lt_of_le hgl hgr.size, fun k hk => ?_, fun j hj => ?_⟩, hgr⟩
  · have := (hK k (by simpa using hk)).1
    rw [show (zs.mergeSort fun x y => decide (x ≤ y)) = srt zs from rfl]
    rw [this]
    simp [List.getD_eq_getElem?_getD, List.getElem?_eq_getElem hk, getElem!_pos, hk]
  · obtain ⟨q1, q2⟩ := hK j (by simpa using hj)
    exact ⟨by rw [show (zs.mergeSort fun x y => decide (x ≤ y)) = srt zs from rfl, q1]; rfl, q2⟩
end Go.Proofs.YtiocelhnmfadnaaGreat
