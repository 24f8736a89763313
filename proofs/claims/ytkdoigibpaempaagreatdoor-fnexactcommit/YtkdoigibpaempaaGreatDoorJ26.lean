/- Texts of stores, joined: Vh, Sg. -/
import Derived.Test.YtkdoigibpaempaaGreatDoorJ15
import Derived.Test.YtkdoigibpaempaaGreatDoorJ18
set_option linter.unusedSimpArgs false
set_option linter.unusedVariables false
namespace Go.Proofs.YtkdoigibpaempaaGreatDoor
open Go.RowKit
def BS (Y w : World) : Prop := Below Y.heap.size Y w
theorem BS.below {Y a b : World} (h : BS Y a) (H : Below a.heap.size a b) : BS Y b := btrans h H
def SizeLe (Y : World) (n : Nat) : Prop := Y.heap.size ≤ n
theorem bs_mid {Y a b : World} {lo hi : Nat} (h : BS Y a) (m : Mid lo hi a b) (hl : SizeLe Y lo) : BS Y b := mid_B h m hl h.size
end Go.Proofs.YtkdoigibpaempaaGreatDoor
namespace Go.Proofs.YtkdoigibpaempaaGreatDoor
open Go.RowKit
theorem cellsCh : Tryz.prog.cellsOf 134 = 4 := by kernel_rfl
theorem cellsTx : Tryz.prog.cellsOf 71 = 3 := by kernel_rfl
theorem cellsSt : Tryz.prog.cellsOf 27 = 3 := by kernel_rfl
theorem cellsRws : Tryz.prog.cellsOf 24 = 2 := by kernel_rfl
set_option maxRecDepth 100000 in
theorem open_ch {H : Type} {enc : TypeId × Value → H} {W : World} {base fuel : Nat} {cs : List Value} {x : DataW H × List MemPlace} (h : DataW.trod enc Tryz.prog W base (fun _ => true) true fuel 134 cs = some x) : ∃ (r : Ch) (a : Option Addr) (cap : Nat), cs = [.int .i64 r.1, .bool r.2.1, .int .i64 r.2.2.1, .slice a r.2.2.2.length cap] ∧ PtsIn W a cap r.2.2.2 := by
  obtain ⟨xs, n, _, _, hlen, hxl, hf⟩ := DataW.trod_struct Tryz.underlying134 h
  rw [cellsCh] at hlen
  match xs, hxl, cs, hlen with
  | [y0, y1, y2], _, [v0, v1, v2, v3], _ =>
    have g0 : DataW.trod enc Tryz.prog W base (fun _ => true) true n 3 (([v0, v1, v2, v3].drop 0).take (Tryz.prog.cellsOf 3)) = some y0 := hf 0 _ rfl
    have g1 : DataW.trod enc Tryz.prog W base (fun _ => true) true n 4 (([v0, v1, v2, v3].drop 1).take (Tryz.prog.cellsOf 4)) = some y1 := hf 1 _ rfl
    have g2 : DataW.trod enc Tryz.prog W base (fun _ => true) true n 100 (([v0, v1, v2, v3].drop 2).take (Tryz.prog.cellsOf 100)) = some y2 := hf 2 _ rfl
    rw [show Tryz.prog.cellsOf 3 = 1 by kernel_rfl] at g0
    rw [show Tryz.prog.cellsOf 4 = 1 by kernel_rfl] at g1
    rw [cellsShape] at g2
    simp at g0 g1 g2
    obtain ⟨z0, e0, _, _⟩ := DataW.trod_int Tryz.underlying3 g0
    obtain ⟨z1, e1, _⟩ := DataW.trod_bool Tryz.underlying4 g1
    obtain ⟨xs', n', _, _, _, hxl', hf'⟩ := DataW.trod_struct Tryz.underlying100 g2
    match xs', hxl' with
    | [u0, u1], _ =>
      have q0 : DataW.trod enc Tryz.prog W base (fun _ => true) true n' 3 (([v2, v3].drop 0).take (Tryz.prog.cellsOf 3)) = some u0 := hf' 0 _ rfl
      have q1 : DataW.trod enc Tryz.prog W base (fun _ => true) true n' 98 (([v2, v3].drop 1).take (Tryz.prog.cellsOf 98)) = some u1 := hf' 1 _ rfl
      rw [show Tryz.prog.cellsOf 3 = 1 by kernel_rfl] at q0
      rw [show Tryz.prog.cellsOf 98 = 1 by kernel_rfl] at q1
      simp at q0 q1
      obtain ⟨z3, e3, _, _⟩ := DataW.trod_int Tryz.underlying3 q0
      obtain ⟨a, cap, ps, e4, hp⟩ := open_points q1
      simp at e0 e1 e3
      exact ⟨(z0, z1, z3, ps), a, cap, by simp [e0, e1, e3, e4], hp⟩
theorem open_chs {H : Type} {enc : TypeId × Value → H} {W : World} {base fuel : Nat} {v : Value} {x : DataW H × List MemPlace} (h : DataW.trod enc Tryz.prog W base (fun _ => true) true fuel 69 [v] = some x) : ∃ (a : Option Addr) (cap : Nat) (xs : List Ch), v = .slice a xs.length cap ∧ xs.length ≤ cap ∧ xs.length ≤ 9223372036854775807 ∧ Chs (fun _ => True) 9223372036854775807 W a xs := by
  rcases Go.Deep.open_slice Tryz.underlying69 h with ⟨hcs, _⟩ | ⟨a, len, cap, m, n, D, Pl, hcs, _, hl, hm, hmm, _, hall⟩
  · simp at hcs
    exact ⟨none, 0, [], hcs, by simp, by simp, .inl rfl⟩
  · simp at hcs
    have hlm : len ≤ m := by rw [hmm]; simp; exact hl
    have hM : len ≤ 9223372036854775807 := Nat.le_trans hl hm
    by_cases h0 : len = 0
    · subst h0
      exact ⟨some a, cap, [], hcs, by simp, by simp, .inl rfl⟩
    rw [cellsCh] at hall
    have each : ∀ j : Nat, ∃ r : Ch, j < len → ∃ (a' : Option Addr) (cap' : Nat), W.cells? base (a.add (j * 4)) 4 = some [.int .i64 r.1, .bool r.2.1, .int .i64 r.2.2.1, .slice a' r.2.2.2.length cap'] ∧ PtsIn W a' cap' r.2.2.2 := by
      intro j
      by_cases hj : j < len
      · obtain ⟨cs', h1, h2⟩ := hall j (by omega)
        obtain ⟨r, a', cap', e, hp⟩ := open_ch h2
        subst e
        exact ⟨r, fun _ => ⟨a', cap', h1, hp⟩⟩
      · exact ⟨(0, false, 0, []), fun h' => absurd h' hj⟩
    have ⟨f, hf⟩ := Classical.axiomOfChoice each
    have hspot : a.spot = none := by
      obtain ⟨_, _, h1, _⟩ := hf 0 (by omega)
      have h00 := (World.cells?_some h1).2.2 0 (by omega)
      simp only [Nat.zero_mul, Addr.add, if_true] at h00
      unfold World.cell? at h00
      split at h00
      · split at h00
        · cases h00
        · rename_i q; simpa using q
      · cases h00
    obtain ⟨b, o, s⟩ := a
    simp only at hspot
    subst hspot
    have hblk : b < W.heap.size := by
      obtain ⟨_, _, h1, _⟩ := hf 0 (by omega)
      have h00 := (World.cells?_some h1).2.2 0 (by omega)
      rw [Go.Deep.add_add, Addr.add_mid] at h00
      exact World.block_lt_of_cell? W _ (h00.trans rfl)
    refine ⟨some ⟨b, o, none⟩, cap, (List.range len).map f, by simpa using hcs, by simpa using hl, by simpa using hM, .inr ⟨b, o, rfl, hblk, fun j hj => ?_⟩⟩
    simp only [List.length_map, List.length_range] at hj
    have e : ((List.range len).map f)[j]'(by simpa using hj) = f j := by simp
    rw [e]
    obtain ⟨a', cap', h1, hp⟩ := hf j hj
    have hc := (World.cells?_some h1).2.2
    have c0 := hc 0 (by omega)
    have c1 := hc 1 (by omega)
    have c2 := hc 2 (by omega)
    have c3 := hc 3 (by omega)
    rw [Go.Deep.add_add, Addr.add_mid] at c0 c1 c2 c3
    exact ⟨a', cap', c0, c1, c2, c3, hp.2.1, Nat.le_trans hp.2.1 hp.2.2, hp.1, fun _ _ _ => trivial⟩
set_option maxRecDepth 100000 in
theorem open_tx {H : Type} {enc : TypeId × Value → H} {W : World} {base fuel : Nat} {cs : List Value} {x : DataW H × List MemPlace} (h : DataW.trod enc Tryz.prog W base (fun _ => true) true fuel 71 cs = some x) : ∃ (r : Tx) (a : Option Addr) (cap : Nat), cs = [.int .i64 r.1, .bool r.2.1, .slice a r.2.2.length cap] ∧ (r.2.2.length ≤ cap ∧ r.2.2.length ≤ 9223372036854775807 ∧ Chs (fun _ => True) 9223372036854775807 W a r.2.2) := by
  obtain ⟨xs, n, _, _, hlen, hxl, hf⟩ := DataW.trod_struct Tryz.underlying71 h
  rw [cellsTx] at hlen
  match xs, hxl, cs, hlen with
  | [y0, y1, y2], _, [v0, v1, v2], _ =>
    have g0 : DataW.trod enc Tryz.prog W base (fun _ => true) true n 3 (([v0, v1, v2].drop 0).take (Tryz.prog.cellsOf 3)) = some y0 := hf 0 _ rfl
    have g1 : DataW.trod enc Tryz.prog W base (fun _ => true) true n 4 (([v0, v1, v2].drop 1).take (Tryz.prog.cellsOf 4)) = some y1 := hf 1 _ rfl
    have g2 : DataW.trod enc Tryz.prog W base (fun _ => true) true n 69 (([v0, v1, v2].drop 2).take (Tryz.prog.cellsOf 69)) = some y2 := hf 2 _ rfl
    rw [show Tryz.prog.cellsOf 3 = 1 by kernel_rfl] at g0
    rw [show Tryz.prog.cellsOf 4 = 1 by kernel_rfl] at g1
    rw [show Tryz.prog.cellsOf 69 = 1 by kernel_rfl] at g2
    simp at g0 g1 g2
    obtain ⟨z0, e0, _, _⟩ := DataW.trod_int Tryz.underlying3 g0
    obtain ⟨z1, e1, _⟩ := DataW.trod_bool Tryz.underlying4 g1
    obtain ⟨a, cap, ps, e4, h1, h2, hp⟩ := open_chs g2
    simp at e0 e1
    exact ⟨(z0, z1, ps), a, cap, by simp [e0, e1, e4], h1, h2, hp⟩
theorem open_txs {H : Type} {enc : TypeId × Value → H} {W : World} {base fuel : Nat} {v : Value} {x : DataW H × List MemPlace} (h : DataW.trod enc Tryz.prog W base (fun _ => true) true fuel 25 [v] = some x) : ∃ (a : Option Addr) (cap : Nat) (xs : List Tx), v = .slice a xs.length cap ∧ xs.length ≤ cap ∧ xs.length ≤ 9223372036854775807 ∧ Txs (fun _ => True) 9223372036854775807 W a xs := by
  rcases Go.Deep.open_slice Tryz.underlying25 h with ⟨hcs, _⟩ | ⟨a, len, cap, m, n, D, Pl, hcs, _, hl, hm, hmm, _, hall⟩
  · simp at hcs
    exact ⟨none, 0, [], hcs, by simp, by simp, .inl rfl⟩
  · simp at hcs
    have hlm : len ≤ m := by rw [hmm]; simp; exact hl
    have hM : len ≤ 9223372036854775807 := Nat.le_trans hl hm
    by_cases h0 : len = 0
    · subst h0
      exact ⟨some a, cap, [], hcs, by simp, by simp, .inl rfl⟩
    rw [cellsTx] at hall
    have each : ∀ j : Nat, ∃ r : Tx, j < len → ∃ (a' : Option Addr) (cap' : Nat), W.cells? base (a.add (j * 3)) 3 = some [.int .i64 r.1, .bool r.2.1, .slice a' r.2.2.length cap'] ∧ (r.2.2.length ≤ cap' ∧ r.2.2.length ≤ 9223372036854775807 ∧ Chs (fun _ => True) 9223372036854775807 W a' r.2.2) := by
      intro j
      by_cases hj : j < len
      · obtain ⟨cs', h1, h2⟩ := hall j (by omega)
        obtain ⟨r, a', cap', e, hp⟩ := open_tx h2
        subst e
        exact ⟨r, fun _ => ⟨a', cap', h1, hp⟩⟩
      · exact ⟨(0, false, []), fun h' => absurd h' hj⟩
    have ⟨f, hf⟩ := Classical.axiomOfChoice each
    have hspot : a.spot = none := by
      obtain ⟨_, _, h1, _⟩ := hf 0 (by omega)
      have h00 := (World.cells?_some h1).2.2 0 (by omega)
      simp only [Nat.zero_mul, Addr.add, if_true] at h00
      unfold World.cell? at h00
      split at h00
      · split at h00
        · cases h00
        · rename_i q; simpa using q
      · cases h00
    obtain ⟨b, o, s⟩ := a
    simp only at hspot
    subst hspot
    have hblk : b < W.heap.size := by
      obtain ⟨_, _, h1, _⟩ := hf 0 (by omega)
      have h00 := (World.cells?_some h1).2.2 0 (by omega)
      rw [Go.Deep.add_add, Addr.add_mid] at h00
      exact World.block_lt_of_cell? W _ (h00.trans rfl)
    refine ⟨some ⟨b, o, none⟩, cap, (List.range len).map f, by simpa using hcs, by simpa using hl, by simpa using hM, .inr ⟨b, o, rfl, hblk, fun j hj => ?_⟩⟩
    simp only [List.length_map, List.length_range] at hj
    have e : ((List.range len).map f)[j]'(by simpa using hj) = f j := by simp
    rw [e]
    obtain ⟨a', cap', h1, hp⟩ := hf j hj
    have hc := (World.cells?_some h1).2.2
    have c0 := hc 0 (by omega)
    have c1 := hc 1 (by omega)
    have c2 := hc 2 (by omega)
    rw [Go.Deep.add_add, Addr.add_mid] at c0 c1 c2
    exact ⟨a', cap', c0, c1, c2, hp.1, hp.2.1, hp.2.2, fun _ _ _ => trivial⟩
set_option maxRecDepth 100000 in
theorem open_store {H : Type} {enc : TypeId × Value → H} {W : World} {base fuel : Nat} {cs : List Value} {x : DataW H × List MemPlace} (h : DataW.trod enc Tryz.prog W base (fun _ => true) true fuel 27 cs = some x) : ∃ (now : Int) (a : Option Addr) (cap : Nat) (rs : List Rw) (ta : Option Addr) (tcap : Nat) (ts : List Tx), cs = [.int .i64 now, .slice a rs.length cap, .slice ta ts.length tcap] ∧ rs.length ≤ 9223372036854775807 ∧ RwsL W a rs ∧ ts.length ≤ 9223372036854775807 ∧ Txs (fun _ => True) 9223372036854775807 W ta ts := by
  obtain ⟨xs, n, _, _, hlen, hxl, hf⟩ := DataW.trod_struct Tryz.underlying27 h
  rw [cellsSt] at hlen
  match xs, hxl, cs, hlen with
  | [y0, y1], _, [v0, v1, v2], _ =>
    have g0 : DataW.trod enc Tryz.prog W base (fun _ => true) true n 24 (([v0, v1, v2].drop 0).take (Tryz.prog.cellsOf 24)) = some y0 := hf 0 _ rfl
    have g1 : DataW.trod enc Tryz.prog W base (fun _ => true) true n 25 (([v0, v1, v2].drop 2).take (Tryz.prog.cellsOf 25)) = some y1 := hf 1 _ rfl
    rw [cellsRws] at g0
    rw [show Tryz.prog.cellsOf 25 = 1 by kernel_rfl] at g1
    simp at g0 g1
    obtain ⟨xs', n', _, _, _, hxl', hf'⟩ := DataW.trod_struct Tryz.underlying24 g0
    match xs', hxl' with
    | [u0, u1], _ =>
      have q0 : DataW.trod enc Tryz.prog W base (fun _ => true) true n' 3 (([v0, v1].drop 0).take (Tryz.prog.cellsOf 3)) = some u0 := hf' 0 _ rfl
      have q1 : DataW.trod enc Tryz.prog W base (fun _ => true) true n' 22 (([v0, v1].drop 1).take (Tryz.prog.cellsOf 22)) = some u1 := hf' 1 _ rfl
      rw [show Tryz.prog.cellsOf 3 = 1 by kernel_rfl] at q0
      rw [show Tryz.prog.cellsOf 22 = 1 by kernel_rfl] at q1
      simp at q0 q1
      obtain ⟨z0, e0, _, _⟩ := DataW.trod_int Tryz.underlying3 q0
      obtain ⟨a, cap, rs, e1, hl, hr⟩ := open_rows q1
      obtain ⟨ta, tcap, ts, e2, _, htl, htx⟩ := open_txs g1
      simp at e0
      exact ⟨z0, a, cap, rs, ta, tcap, ts, by simp [e0, e1, e2], hl, hr, htl, htx⟩
theorem setk3a {w : World} {p : Nat} {o0 o1 o2 : Value} {t : TypeId} (h : w.heap[p]? = some (.cells #[o0, o1, o2] t (0, 0))) (a b : Value) : ((w.setCell ⟨p, 0, none⟩ a).setCell ⟨p, 1, none⟩ b).heap[p]? = some (.cells #[a, b, o2] t (0, 0)) := by
  have st : ∀ (W : World) (cs : Array Value) (k : Nat) (u : Value), W.heap[p]? = some (.cells cs t (0, 0)) → (W.setCell ⟨p, k, none⟩ u).heap[p]? = some (.cells (cs.setIfInBounds k u) t (0, 0)) := by
    intro W cs k u h
    have hlt := lt_of_block h
    have h' : W.heap[p] = .cells cs t (0, 0) := by simpa [Array.getElem?_eq_getElem hlt] using h
    show (W.heap.modify p _)[p]? = _
    rw [Array.getElem?_eq_getElem (by simpa using hlt), Array.getElem_modify_self, h']
    rfl
  have e4 := st _ _ 1 b (st _ _ 0 a h)
  simpa using e4
set_option maxRecDepth 100000 in
set_option maxHeartbeats 2000000 in
theorem to_store {N1 N2 : Nat → Prop} (now : Int) (a ta : Option Addr) (cap tcap : Nat) (rs : List Rw) (ts : List Tx) (w : World) (hm : rs.length ≤ 1099511627776) (htm : ts.length ≤ 1099511627776) (hr : Rws N1 w a rs) (ht : Txs N2 1099511627776 w ta ts) : Calls Tryz.prog 6 #[.agg #[.int .i64 now, .slice a rs.length cap, .slice ta ts.length tcap]] w fun e w' => ∃ B T, e = .returned (.agg #[.int .i64 now, .slice (some ⟨B, 0, none⟩) rs.length rs.length, .slice (some ⟨T, 0, none⟩) ts.length ts.length]) ∧ Rws (fun c => B < c) w' (some ⟨B, 0, none⟩) rs ∧ Txs (fun c => T < c) 1099511627776 w' (some ⟨T, 0, none⟩) ts ∧ Below w.heap.size w w' := by
  have HR := hid (fun (W : World) (hb : Below w.heap.size w W) => to_rows now a cap rs W hm (hr.below hb))
  have HT := hid (fun (W : World) (hb : Below w.heap.size w W) => to_txs ta tcap ts W htm (ht.below hb))
  clear hr ht
  obtain ⟨n, hn⟩ : ∃ n, n = rs.length := ⟨_, rfl⟩
  obtain ⟨tn, htn⟩ : ∃ tn, tn = ts.length := ⟨_, rfl⟩
  rw [← hn] at HR ⊢
  rw [← htn] at HT ⊢
  clear hn htn
  have hB0 : Below w.heap.size w (((w.alloc (.cells #[.int .i64 now, .slice a n cap, .slice ta tn tcap] 27)).alloc (.cells #[.int .i64 0, .slice none 0 0, .slice none 0 0] 34)).alloc (.cells #[.int .i64 0, .slice none 0 0, .slice none 0 0] 34)) := balloc (balloc (balloc (Below.refl _ _) _) _) _
  have g0 := old_alloc (o' := .cells #[.int .i64 0, .slice none 0 0, .slice none 0 0] 34) (old_alloc (o' := .cells #[.int .i64 0, .slice none 0 0, .slice none 0 0] 34) (new_alloc w w.heap.size (.cells #[.int .i64 now, .slice a n cap, .slice ta tn tcap] 27) rfl))
  have g1 := old_alloc (o' := .cells #[.int .i64 0, .slice none 0 0, .slice none 0 0] 34) (new_alloc (w.alloc (.cells #[.int .i64 now, .slice a n cap, .slice ta tn tcap] 27)) (w.heap.size + 1) (.cells #[.int .i64 0, .slice none 0 0, .slice none 0 0] 34) (by simp))
  have g2 := new_alloc ((w.alloc (.cells #[.int .i64 now, .slice a n cap, .slice ta tn tcap] 27)).alloc (.cells #[.int .i64 0, .slice none 0 0, .slice none 0 0] 34)) (w.heap.size + 1 + 1) (.cells #[.int .i64 0, .slice none 0 0, .slice none 0 0] 34) (by simp)
  go_enter Tryz.func6, Tryz.ntmps6
  go_upto_region 2 with fail
  generalize ((w.alloc (.cells #[.int .i64 now, .slice a n cap, .slice ta tn tcap] 27)).alloc (.cells #[.int .i64 0, .slice none 0 0, .slice none 0 0] 34)).alloc (.cells #[.int .i64 0, .slice none 0 0, .slice none 0 0] 34) = W at *
  have hlW := lt_of_block g2
  obtain ⟨⟨d0, d1, d2⟩, _⟩ := cellk3 g0
  go_wp2_with fail
  refine (HR.out _ hB0).mono ?_
  rintro e w1 ⟨B, rfl, hbb, hbl, ho, hb1⟩
  replace g0 := keepheap2 hb1 g0
  replace g1 := keepheap2 hb1 g1
  replace g2 := keepheap2 hb1 g2
  have hB1 := btrans hB0 hb1
  have HO := hid ho
  have hs1 := hb1.size
  clear hB0 hb1 ho d0 d1 d2 HR
  obtain ⟨⟨f0, f1, f2⟩, p0, p1, p2⟩ := cellk3 g2
  go_upto_region 3 with fail
  have g2' : ((w1.setCell ⟨w.heap.size + 1 + 1, 0, none⟩ (.int .i64 now)).setCell ⟨w.heap.size + 1 + 1, 1, none⟩ (.slice (some ⟨B, 0, none⟩) n n)).heap[w.heap.size + 1 + 1]? = some (.cells #[.int .i64 now, .slice (some ⟨B, 0, none⟩) n n, .slice none 0 0] 34 (0, 0)) := setk3a g2 _ _
  have hfar : ∀ c, c ≠ w.heap.size + 1 + 1 → ((w1.setCell ⟨w.heap.size + 1 + 1, 0, none⟩ (.int .i64 now)).setCell ⟨w.heap.size + 1 + 1, 1, none⟩ (.slice (some ⟨B, 0, none⟩) n n)).heap[c]? = w1.heap[c]? := fun c hc => by rw [Below.heap_setCell _ _ _ _ (by dsimp only; omega), Below.heap_setCell _ _ _ _ (by dsimp only; omega)]
  have g0' := (hfar w.heap.size (by omega)).trans g0
  have g1' := (hfar (w.heap.size + 1) (by omega)).trans g1
  have HO2 := hid ((HO.out.setR (q := w.heap.size + 1 + 1) (k := 0) (u := .int .i64 now) (by omega) (by omega)).setR (q := w.heap.size + 1 + 1) (k := 1) (u := (.slice (some ⟨B, 0, none⟩) n n)) (by omega) (by omega))
  have hB2 := bset (bset hB1 (q := w.heap.size + 1 + 1) (k := 0) (by omega) (.int .i64 now)) (q := w.heap.size + 1 + 1) (k := 1) (by omega) (.slice (some ⟨B, 0, none⟩) n n)
  have hbl2 : B < ((w1.setCell ⟨w.heap.size + 1 + 1, 0, none⟩ (.int .i64 now)).setCell ⟨w.heap.size + 1 + 1, 1, none⟩ (.slice (some ⟨B, 0, none⟩) n n)).heap.size := by simpa using hbl
  clear hfar g0 g1 g2 HO hB1 f0 f1 f2 p0 p1 p2 hbl
  generalize (w1.setCell ⟨w.heap.size + 1 + 1, 0, none⟩ (.int .i64 now)).setCell ⟨w.heap.size + 1 + 1, 1, none⟩ (.slice (some ⟨B, 0, none⟩) n n) = V at *
  have hlV := lt_of_block g2'
  obtain ⟨⟨d0, d1, d2⟩, _⟩ := cellk3 g0'
  go_wp2_with fail
  refine (HT.out _ hB2).mono ?_
  rintro e w2 ⟨T, rfl, htt, htx, hb2⟩
  replace g1' := keepheap2 hb2 g1'
  replace g2' := keepheap2 hb2 g2'
  have hB3 := btrans hB2 hb2
  have HO3 := hid (fun j (hj : j < rs.length) => (HO2.out j hj).below hb2)
  have HTX := hid htx
  have hs2 := hb2.size
  clear hB2 hb2 htx d0 d1 d2 HT HO2 g0'
  obtain ⟨⟨f0, f1, f2⟩, p0, p1, p2⟩ := cellk3 g2'
  obtain ⟨⟨v0, v1, v2⟩, u0, u1, u2⟩ := cellk3 g1'
  go_wp2_with fail
  have gF := setk3 (set_far (q := w.heap.size + 1 + 1) (k := 2) (u := (.slice (some ⟨T, 0, none⟩) tn tn)) g1' (by omega)) (.int .i64 now) (.slice (some ⟨B, 0, none⟩) n n) (.slice (some ⟨T, 0, none⟩) tn tn)
  have bF := bset (bset (bset (bset hB3 (q := w.heap.size + 1 + 1) (k := 2) (by omega) (.slice (some ⟨T, 0, none⟩) tn tn)) (q := w.heap.size + 1) (k := 0) (by omega) (.int .i64 now)) (q := w.heap.size + 1) (k := 1) (by omega) (.slice (some ⟨B, 0, none⟩) n n)) (q := w.heap.size + 1) (k := 2) (by omega) (.slice (some ⟨T, 0, none⟩) tn tn)
  have hfar : ∀ c, w.heap.size + 1 + 1 < c → ((((w2.setCell ⟨w.heap.size + 1 + 1, 2, none⟩ (.slice (some ⟨T, 0, none⟩) tn tn)).setCell ⟨w.heap.size + 1, 0, none⟩ (.int .i64 now)).setCell ⟨w.heap.size + 1, 1, none⟩ (.slice (some ⟨B, 0, none⟩) n n)).setCell ⟨w.heap.size + 1, 2, none⟩ (.slice (some ⟨T, 0, none⟩) tn tn)).heap[c]? = w2.heap[c]? := fun c hc => by rw [Below.heap_setCell _ _ _ _ (by dsimp only; omega), Below.heap_setCell _ _ _ _ (by dsimp only; omega), Below.heap_setCell _ _ _ _ (by dsimp only; omega), Below.heap_setCell _ _ _ _ (by dsimp only; omega)]
  have hsz : w2.heap.size ≤ ((((w2.setCell ⟨w.heap.size + 1 + 1, 2, none⟩ (.slice (some ⟨T, 0, none⟩) tn tn)).setCell ⟨w.heap.size + 1, 0, none⟩ (.int .i64 now)).setCell ⟨w.heap.size + 1, 1, none⟩ (.slice (some ⟨B, 0, none⟩) n n)).setCell ⟨w.heap.size + 1, 2, none⟩ (.slice (some ⟨T, 0, none⟩) tn tn)).heap.size := by simp
  have oF : RwsAt (fun c => B < c) ((((w2.setCell ⟨w.heap.size + 1 + 1, 2, none⟩ (.slice (some ⟨T, 0, none⟩) tn tn)).setCell ⟨w.heap.size + 1, 0, none⟩ (.int .i64 now)).setCell ⟨w.heap.size + 1, 1, none⟩ (.slice (some ⟨B, 0, none⟩) n n)).setCell ⟨w.heap.size + 1, 2, none⟩ (.slice (some ⟨T, 0, none⟩) tn tn)) B 0 rs := fun j hj => ((((HO3.out j hj).setR (q := w.heap.size + 1 + 1) (k := 2) (u := (.slice (some ⟨T, 0, none⟩) tn tn)) (by omega) (fun c hc => by omega)).setR (q := w.heap.size + 1) (k := 0) (u := .int .i64 now) (by omega) (fun c hc => by omega)).setR (q := w.heap.size + 1) (k := 1) (u := (.slice (some ⟨B, 0, none⟩) n n)) (by omega) (fun c hc => by omega)).setR (q := w.heap.size + 1) (k := 2) (u := (.slice (some ⟨T, 0, none⟩) tn tn)) (by omega) (fun c hc => by omega)
  have tF : TxsAt (fun c => T < c) 1099511627776 ((((w2.setCell ⟨w.heap.size + 1 + 1, 2, none⟩ (.slice (some ⟨T, 0, none⟩) tn tn)).setCell ⟨w.heap.size + 1, 0, none⟩ (.int .i64 now)).setCell ⟨w.heap.size + 1, 1, none⟩ (.slice (some ⟨B, 0, none⟩) n n)).setCell ⟨w.heap.size + 1, 2, none⟩ (.slice (some ⟨T, 0, none⟩) tn tn)) T 0 ts := fun j hj => (HTX.out.2 j hj).blk (fun i _ => by simp only [World.cell?, hfar T (by omega)]) (fun c hc => hfar c (by omega)) hsz
  generalize ((((w2.setCell ⟨w.heap.size + 1 + 1, 2, none⟩ (.slice (some ⟨T, 0, none⟩) tn tn)).setCell ⟨w.heap.size + 1, 0, none⟩ (.int .i64 now)).setCell ⟨w.heap.size + 1, 1, none⟩ (.slice (some ⟨B, 0, none⟩) n n)).setCell ⟨w.heap.size + 1, 2, none⟩ (.slice (some ⟨T, 0, none⟩) tn tn)) = wf at *
  have hTs := HTX.out.1
  obtain ⟨⟨z0, z1, z2⟩, _⟩ := cellk3 gF
  exact bodyPost_ret (v := .agg #[.int .i64 now, .slice (some ⟨B, 0, none⟩) n n, .slice (some ⟨T, 0, none⟩) tn tn]) (by simp [results, Tryz.results6, go_sem, z0, z1, z2]) rfl ⟨B, T, rfl, .inr ⟨B, 0, rfl, by omega, oF⟩, .inr ⟨T, 0, rfl, by omega, tF⟩, bF⟩
end Go.Proofs.YtkdoigibpaempaaGreatDoor
