/- A database as a law is given it. -/
import Derived.Test.YtdhdfgobefapiaaDoorOe0
import Derived.ChangeSlices
namespace Go.Proofs.YtdhdfgobefapiaaDoor
open Go.RowKit
set_option linter.unusedSimpArgs false
set_option linter.unusedVariables false
theorem cellsDb : Tryd.prog.cellsOf 30 = 4 := by kernel_rfl
theorem open_intsI {H : Type} {enc : TypeId × Value → H} {W : World} {base fuel : Nat} {cs : List Value} {x : DataW H × List MemPlace} (h : DataW.trod enc Tryd.prog W base (fun _ => true) true fuel 28 cs = some x) : ∃ (a : Option Addr) (cap : Nat) (zs : List Int), cs = [.slice a zs.length cap] ∧ zs.length ≤ 9223372036854775807 ∧ InI W a zs := by
  rcases Go.ChangeShapes.open_ints Tryd.underlying28 Tryd.underlying3 (by kernel_rfl) h with ⟨hcs, _⟩ | ⟨a, len, cap, zs, hcs, _, hl, hm, hz, _, hcell, _⟩
  · exact ⟨none, 0, [], by simpa using hcs, by simp, .inl rfl⟩
  · simp at hz
    have hlen : (zs.take len).length = len := by simp; omega
    refine ⟨some a, cap, zs.take len, by rw [hlen]; exact hcs, by rw [hlen]; unfold maxLen at hm; omega, ?_⟩
    by_cases h0 : len = 0
    · left; subst h0; simp
    · right
      obtain ⟨b, off, spot⟩ := a
      have hspot : spot = none := by simpa [Addr.add] using World.cell?_spot (hcell 0 (by omega))
      subst hspot
      have hb := World.block_lt_of_cell? W _ (hcell 0 (by omega))
      refine ⟨b, off, rfl, by simpa [Addr.add] using hb, fun k hk => ?_⟩
      rw [hlen] at hk
      have hc := hcell k (by omega)
      rw [Addr.add_lit] at hc
      rw [hc]
      simp [List.getD_eq_getElem?_getD, List.getElem?_take, hk]
set_option maxRecDepth 100000 in
theorem open_db {H : Type} {enc : TypeId × Value → H} {W : World} {base fuel : Nat} {cs : List Value} {x : DataW H × List MemPlace} (h : DataW.trod enc Tryd.prog W base (fun _ => true) true fuel 30 cs = some x) : ∃ (now : Int) (a : Option Addr) (cap : Nat) (rs : List Rw) (ta : Option Addr) (tcap : Nat) (ts : List Tx) (sa : Option Addr) (scap : Nat) (zs : List Int), cs = [.int .i64 now, .slice a rs.length cap, .slice ta ts.length tcap, .slice sa zs.length scap] ∧ rs.length ≤ 9223372036854775807 ∧ RwsL W a rs ∧ ts.length ≤ 9223372036854775807 ∧ Txs (fun _ => True) 9223372036854775807 W ta ts ∧ zs.length ≤ 9223372036854775807 ∧ InI W sa zs := by
  obtain ⟨xs, n, _, _, hlen, hxl, hf⟩ := DataW.trod_struct Tryd.underlying30 h
  rw [cellsDb] at hlen
  match xs, hxl, cs, hlen with
  | [y0, y1], _, [v0, v1, v2, v3], _ =>
    have g0 : DataW.trod enc Tryd.prog W base (fun _ => true) true n 27 (([v0, v1, v2, v3].drop 0).take (Tryd.prog.cellsOf 27)) = some y0 := hf 0 _ rfl
    have g1 : DataW.trod enc Tryd.prog W base (fun _ => true) true n 28 (([v0, v1, v2, v3].drop 3).take (Tryd.prog.cellsOf 28)) = some y1 := hf 1 _ rfl
    rw [show Tryd.prog.cellsOf 27 = 3 by kernel_rfl] at g0
    rw [show Tryd.prog.cellsOf 28 = 1 by kernel_rfl] at g1
    simp at g0 g1
    obtain ⟨now, a, cap, rs, ta, tcap, ts, e, h1, h2, h3, h4⟩ := open_store g0
    obtain ⟨sa, scap, zs, e2, h5, h6⟩ := open_intsI g1
    simp at e e2
    exact ⟨now, a, cap, rs, ta, tcap, ts, sa, scap, zs, by simp [e, e2], h1, h2, h3, h4, h5, h6⟩
end Go.Proofs.YtdhdfgobefapiaaDoor
