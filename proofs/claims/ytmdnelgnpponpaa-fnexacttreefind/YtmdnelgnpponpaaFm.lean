/- Items and knots as a law is given them. -/
import Derived.Test.YtmdnelgnpponpaaFb
import Derived.ChangeArms
import Derived.Deep.SlicePairs
namespace Go.Proofs.Ytmdnelgnpponpaa
open Go.RowKit
set_option linter.unusedSimpArgs false
set_option linter.unusedVariables false
theorem cellsBx : Try.prog.cellsOf 23 = 4 := by kernel_rfl
theorem cellsIt : Try.prog.cellsOf 76 = 5 := by kernel_rfl
theorem cellsKn : Try.prog.cellsOf 27 = 7 := by kernel_rfl
set_option maxRecDepth 100000 in
theorem open_box {H : Type} {enc : TypeId × Value → H} {W : World} {base fuel : Nat} {cs : List Value} {x : DataW H × List MemPlace} (h : DataW.trod enc Try.prog W base (fun _ => true) true fuel 23 cs = some x) : ∃ b : Bx, cs = [.int .i64 b.1, .int .i64 b.2.1, .int .i64 b.2.2.1, .int .i64 b.2.2.2] := by
  obtain ⟨xs, n, _, _, hlen, hxl, hf⟩ := DataW.trod_struct Try.underlying23 h
  rw [cellsBx] at hlen
  match xs, hxl, cs, hlen with
  | [y0, y1, y2, y3], _, [v0, v1, v2, v3], _ =>
    have g0 : DataW.trod enc Try.prog W base (fun _ => true) true n 3 (([v0, v1, v2, v3].drop 0).take (Try.prog.cellsOf 3)) = some y0 := hf 0 _ rfl
    have g1 : DataW.trod enc Try.prog W base (fun _ => true) true n 3 (([v0, v1, v2, v3].drop 1).take (Try.prog.cellsOf 3)) = some y1 := hf 1 _ rfl
    have g2 : DataW.trod enc Try.prog W base (fun _ => true) true n 3 (([v0, v1, v2, v3].drop 2).take (Try.prog.cellsOf 3)) = some y2 := hf 2 _ rfl
    have g3 : DataW.trod enc Try.prog W base (fun _ => true) true n 3 (([v0, v1, v2, v3].drop 3).take (Try.prog.cellsOf 3)) = some y3 := hf 3 _ rfl
    rw [show Try.prog.cellsOf 3 = 1 by kernel_rfl] at g0 g1 g2 g3
    simp at g0 g1 g2 g3
    obtain ⟨z0, e0, _, _⟩ := DataW.trod_int Try.underlying3 g0
    obtain ⟨z1, e1, _, _⟩ := DataW.trod_int Try.underlying3 g1
    obtain ⟨z2, e2, _, _⟩ := DataW.trod_int Try.underlying3 g2
    obtain ⟨z3, e3, _, _⟩ := DataW.trod_int Try.underlying3 g3
    simp at e0 e1 e2 e3
    exact ⟨(z0, z1, z2, z3), by simp [e0, e1, e2, e3]⟩
set_option maxRecDepth 100000 in
theorem open_item {H : Type} {enc : TypeId × Value → H} {W : World} {base fuel : Nat} {cs : List Value} {x : DataW H × List MemPlace} (h : DataW.trod enc Try.prog W base (fun _ => true) true fuel 76 cs = some x) : ∃ y : It, cs = ci y := by
  obtain ⟨xs, n, _, _, hlen, hxl, hf⟩ := DataW.trod_struct Try.underlying76 h
  rw [cellsIt] at hlen
  match xs, hxl, cs, hlen with
  | [y0, y1], _, [v0, v1, v2, v3, v4], _ =>
    have g0 : DataW.trod enc Try.prog W base (fun _ => true) true n 3 (([v0, v1, v2, v3, v4].drop 0).take (Try.prog.cellsOf 3)) = some y0 := hf 0 _ rfl
    have g1 : DataW.trod enc Try.prog W base (fun _ => true) true n 23 (([v0, v1, v2, v3, v4].drop 1).take (Try.prog.cellsOf 23)) = some y1 := hf 1 _ rfl
    rw [show Try.prog.cellsOf 3 = 1 by kernel_rfl] at g0
    rw [cellsBx] at g1
    simp at g0 g1
    obtain ⟨z0, e0, _, _⟩ := DataW.trod_int Try.underlying3 g0
    obtain ⟨b, e1⟩ := open_box g1
    simp at e0 e1
    obtain ⟨e1, e2, e3, e4⟩ := e1
    exact ⟨(z0, b), by simp [ci, e0, e1, e2, e3, e4]⟩
theorem spot_none {W : World} {base m : Nat} {a : Addr} {cs : List Value} (h : W.cells? base (a.add 0) m = some cs) (hm : 0 < m) : a.spot = none := by
  have h00 := (World.cells?_some h).2.2 0 (by omega)
  simp only [Nat.zero_mul, Addr.add, if_true] at h00
  have hx : cs[0]? ≠ none := by
    have := (World.cells?_some h).2.1
    intro e
    rw [List.getElem?_eq_none_iff] at e
    omega
  cases hcell : cs[0]? with
  | none => exact absurd hcell hx
  | some v =>
    rw [hcell] at h00
    unfold World.cell? at h00
    split at h00
    · split at h00
      · cases h00
      · rename_i q; simpa using q
    · cases h00
/-- The cells of a row's elements, as a place names them. -/
theorem cs_of {W : World} {base m b o j : Nat} {cs : List Value} (h : W.cells? base ((⟨b, o, none⟩ : Addr).add (j * m)) m = some cs) (hm : 0 < m) : b < W.heap.size ∧ Cs W b (o + j * m) cs := by
  have hl := (World.cells?_some h).2.1
  have hc := (World.cells?_some h).2.2
  have hall : ∀ i v, cs[i]? = some v → W.cell? ⟨b, o + j * m + i, none⟩ = some v := by
    intro i v e
    have hi : i < m := by
      have := (List.getElem?_eq_some_iff.1 e).1
      omega
    have := hc i hi
    rw [Go.Deep.add_add, Addr.add_mid, e, ← Nat.add_assoc] at this
    exact this
  refine ⟨?_, hall⟩
  have h0 : cs[0]? = some (cs[0]'(by omega)) := List.getElem?_eq_getElem (by omega)
  exact World.block_lt_of_cell? W _ (hall 0 _ h0)
set_option maxRecDepth 100000 in
theorem open_items {H : Type} {enc : TypeId × Value → H} {W : World} {base fuel : Nat} {v : Value} {x : DataW H × List MemPlace} (h : DataW.trod enc Try.prog W base (fun _ => true) true fuel 24 [v] = some x) : ∃ (a : Option Addr) (cap : Nat) (l : List It), v = .slice a l.length cap ∧ l.length ≤ cap ∧ cap ≤ 9223372036854775807 ∧ ItL W a l := by
  rcases Go.Deep.open_slice Try.underlying24 h with ⟨hcs, _⟩ | ⟨a, len, cap, m, n, D, Pl, hcs, _, hl, hm, hmm, _, hall⟩
  · simp at hcs
    exact ⟨none, 0, [], hcs, by simp, by omega, .inl rfl⟩
  · simp at hcs
    have hm' : cap ≤ 9223372036854775807 := by simpa [maxLen] using hm
    have hlm : len ≤ m := by rw [hmm]; simp; exact hl
    by_cases h0 : len = 0
    · subst h0
      exact ⟨some a, cap, [], hcs, by simp, hm', .inl rfl⟩
    rw [cellsIt] at hall
    have each : ∀ j : Nat, ∃ y : It, j < len → W.cells? base (a.add (j * 5)) 5 = some (ci y) := by
      intro j
      by_cases hj : j < len
      · obtain ⟨cs', h1, h2⟩ := hall j (by omega)
        obtain ⟨y, e⟩ := open_item h2
        subst e
        exact ⟨y, fun _ => h1⟩
      · exact ⟨(0, 0, 0, 0, 0), fun h' => absurd h' hj⟩
    obtain ⟨f, hf⟩ := Classical.axiomOfChoice each
    have hsp := spot_none (a := a) (m := 5) (cs := ci (f 0)) (by have := hf 0 (by omega); rwa [Nat.zero_mul] at this) (by omega)
    obtain ⟨b, o, s⟩ := a
    simp only at hsp
    subst hsp
    refine ⟨some ⟨b, o, none⟩, cap, (List.range len).map f, by simpa using hcs, by simpa using hl, hm', .inr ⟨b, o, rfl, (cs_of (hf 0 (by omega)) (by omega)).1, fun j hj => ?_⟩⟩
    simp only [List.length_map, List.length_range] at hj
    have e : ((List.range len).map f)[j]'(by simpa using hj) = f j := by simp
    rw [e]
    exact (cs_of (hf j hj) (by omega)).2
theorem size_elem {H : Type} {D : DataW H} {es rs : List (DataW H)} (h : D ∈ es) : SizeOf.sizeOf D < SizeOf.sizeOf (DataW.slice es rs) := by
  have h1 := List.sizeOf_lt_of_mem h
  have h2 : SizeOf.sizeOf (DataW.slice es rs) = 1 + SizeOf.sizeOf es + SizeOf.sizeOf rs := DataW.slice.sizeOf_spec es rs
  omega
theorem size_field {H : Type} {D : DataW H} {es : List (DataW H)} (h : D ∈ es) : SizeOf.sizeOf D < SizeOf.sizeOf (DataW.agg es) := by
  have h1 := List.sizeOf_lt_of_mem h
  have h2 : SizeOf.sizeOf (DataW.agg es) = 1 + SizeOf.sizeOf es := DataW.agg.sizeOf_spec es
  omega
set_option maxRecDepth 100000 in
theorem open_knot {H : Type} {enc : TypeId × Value → H} {W : World} {base : Nat} : ∀ (k fuel : Nat) (cs : List Value) (x : DataW H × List MemPlace), SizeOf.sizeOf x.1 ≤ k → DataW.trod enc Try.prog W base (fun _ => true) true fuel 27 cs = some x → ∃ (t : KT) (ia : Option Addr) (ic : Nat) (ka : Option Addr) (kc : Nat), cs = ck t ia ic ka kc ∧ KnL (k + 1) W ia ic ka kc t := by
  intro k
  induction k with
  | zero =>
    intro fuel cs x hs h
    obtain ⟨xs, n, _, hx, _⟩ := DataW.trod_struct Try.underlying27 h
    rw [hx] at hs
    have : SizeOf.sizeOf (DataW.agg (xs.map (·.1))) = 1 + SizeOf.sizeOf (xs.map (·.1)) := DataW.agg.sizeOf_spec _
    simp only at hs
    omega
  | succ k ih =>
    intro fuel cs x hs h
    obtain ⟨xs, n, _, hx, hlen, hxl, hf⟩ := DataW.trod_struct Try.underlying27 h
    rw [cellsKn] at hlen
    match xs, hxl, cs, hlen, hx with
    | [y0, y1, y2, y3], _, [v0, v1, v2, v3, v4, v5, v6], _, hx =>
      have g0 : DataW.trod enc Try.prog W base (fun _ => true) true n 23 (([v0, v1, v2, v3, v4, v5, v6].drop 0).take (Try.prog.cellsOf 23)) = some y0 := hf 0 _ rfl
      have g1 : DataW.trod enc Try.prog W base (fun _ => true) true n 4 (([v0, v1, v2, v3, v4, v5, v6].drop 4).take (Try.prog.cellsOf 4)) = some y1 := hf 1 _ rfl
      have g2 : DataW.trod enc Try.prog W base (fun _ => true) true n 24 (([v0, v1, v2, v3, v4, v5, v6].drop 5).take (Try.prog.cellsOf 24)) = some y2 := hf 2 _ rfl
      have g3 : DataW.trod enc Try.prog W base (fun _ => true) true n 25 (([v0, v1, v2, v3, v4, v5, v6].drop 6).take (Try.prog.cellsOf 25)) = some y3 := hf 3 _ rfl
      rw [cellsBx] at g0
      rw [show Try.prog.cellsOf 4 = 1 by kernel_rfl] at g1
      rw [show Try.prog.cellsOf 24 = 1 by kernel_rfl] at g2
      rw [show Try.prog.cellsOf 25 = 1 by kernel_rfl] at g3
      simp at g0 g1 g2 g3
      obtain ⟨b, e0⟩ := open_box g0
      obtain ⟨lf, e1, _⟩ := DataW.trod_bool Try.underlying4 g1
      obtain ⟨ia, ic, its, e2, i1, i2, i3⟩ := open_items g2
      simp at e0 e1
      obtain ⟨e00, e01, e02, e03⟩ := e0
      have hy3 : SizeOf.sizeOf y3.1 ≤ k := by
        have hm : y3.1 ∈ [y0, y1, y2, y3].map (·.1) := by simp
        have := size_field hm
        rw [hx] at hs
        simp only at hs
        omega
      rcases Go.Deep.open_slice Try.underlying25 g3 with ⟨hcs, _⟩ | ⟨a, len, cap, m, n', D, Pl, hcs, _, hl, hm, hmm, hxx, hall⟩
      · simp at hcs
        exact ⟨.mk b lf its [], ia, ic, none, 0, by simp [ck, KT.box, KT.lf, KT.its, KT.kids, e00, e01, e02, e03, e1, e2, hcs], i3, i1, i2, by simp [KT.kids], by omega, .inl rfl⟩
      · simp at hcs
        have hm' : cap ≤ 9223372036854775807 := by simpa [maxLen] using hm
        have hlm : len ≤ m := by rw [hmm]; simp; exact hl
        by_cases h0 : len = 0
        · subst h0
          exact ⟨.mk b lf its [], ia, ic, some a, cap, by simp [ck, KT.box, KT.lf, KT.its, KT.kids, e00, e01, e02, e03, e1, e2, hcs], i3, i1, i2, by simp [KT.kids], hm', .inl rfl⟩
        rw [cellsKn] at hall
        have each : ∀ j : Nat, ∃ y : KT × Option Addr × Nat × Option Addr × Nat, j < len → W.cells? base (a.add (j * 7)) 7 = some (ck y.1 y.2.1 y.2.2.1 y.2.2.2.1 y.2.2.2.2) ∧ KnL (k + 1) W y.2.1 y.2.2.1 y.2.2.2.1 y.2.2.2.2 y.1 := by
          intro j
          by_cases hj : j < len
          · obtain ⟨cs', h1, h2⟩ := hall j (by omega)
            have hD : SizeOf.sizeOf (D j) ≤ k := by
              have hmem : D j ∈ (List.range len).map D := List.mem_map.2 ⟨j, by simpa using hj, rfl⟩
              have h3 := size_elem (rs := (List.range (m - len)).map fun j => D (len + j)) hmem
              rw [hxx] at hy3
              simp only at hy3
              omega
            obtain ⟨t, ia', ic', ka', kc', e, hk⟩ := ih n' cs' (D j, Pl j) hD h2
            subst e
            exact ⟨(t, ia', ic', ka', kc'), fun _ => ⟨h1, hk⟩⟩
          · exact ⟨(.mk (0, 0, 0, 0) false [] [], none, 0, none, 0), fun h' => absurd h' hj⟩
        obtain ⟨f, hf'⟩ := Classical.axiomOfChoice each
        have hsp := spot_none (a := a) (m := 7) (by have := (hf' 0 (by omega)).1; rwa [Nat.zero_mul] at this) (by omega)
        obtain ⟨bb, o, s⟩ := a
        simp only at hsp
        subst hsp
        refine ⟨.mk b lf its ((List.range len).map fun j => (f j).1), ia, ic, some ⟨bb, o, none⟩, cap, by simp [ck, KT.box, KT.lf, KT.its, KT.kids, e00, e01, e02, e03, e1, e2, hcs], i3, i1, i2, by simpa [KT.kids] using hl, hm', .inr ⟨bb, o, rfl, (cs_of (hf' 0 (by omega)).1 (by omega)).1, fun j hj => ?_⟩⟩
        have hj' : j < len := by simpa [KT.kids] using hj
        have e : (KT.kids (.mk b lf its ((List.range len).map fun j => (f j).1)))[j]'hj = (f j).1 := by simp [KT.kids]
        rw [e]
        exact ⟨_, _, _, _, (cs_of (hf' j hj').1 (by omega)).2, (hf' j hj').2⟩
end Go.Proofs.Ytmdnelgnpponpaa
