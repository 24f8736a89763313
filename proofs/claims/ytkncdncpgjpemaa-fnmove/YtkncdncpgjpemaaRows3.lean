/- Lists of points that grow beside each other; a byte of the code. -/
import Derived.Test.YtkncdncpgjpemaaDrawL
import Derived.Test.YtkncdncpgjpemaaAreaM
namespace Go.Proofs.Ytkncdncpgjpemaa
open Go.RowKit
set_option linter.unusedVariables false
set_option linter.unusedSimpArgs false
set_option maxRecDepth 100000 in
set_option maxHeartbeats 1000000 in
theorem at_c (w : World) (a : Option Addr) (len cap B : Nat) (k : Nat) (hk : k ≤ 100) (hc : CodeAt w a len B) : Calls Try.prog 44 #[.slice a len cap, .int .i64 k] w fun e w' => ∃ x : Int, e = .returned (.int .i64 x) ∧ (0 ≤ x ∧ x ≤ 255) ∧ w' = w := by
  obtain ⟨hl, hc⟩ := hc
  by_cases h : k < len
  · have c1 : (k : Int) < (len : Int) := by omega
    rcases hc with hc | ⟨b, off, rfl, hb, hc⟩
    · omega
    · obtain ⟨z, z0, z1, hz⟩ := hc k h
      clear hc
      go_enter Try.func44, Try.ntmps44
      go_wp2
      go_ret
      exact ⟨z, rfl, ⟨z0, z1⟩, rfl⟩
  · have c1 : (len : Int) ≤ (k : Int) := by omega
    clear hc
    go_enter Try.func44, Try.ntmps44
    go_wp2
    go_ret
    exact ⟨_, rfl, by omega, rfl⟩
theorem row_other {w0 w' : World} {B H : Nat} {o : Obj} {v vi vi' : Value} {l : List (Int × Int)} (h : PtRow w0 B v l) (hne : vi.ownBlock ≠ v.ownBlock) (hg : (w0.alloc o).grownBy w' vi.ownBlock) (hat : vi'.ownBlock = vi.ownBlock ∨ vi'.ownBlock = some H) (hH : w0.heap.size ≤ H) (hs : ∃ g, v.ownBlock = some g) : PtRow w' B v l ∧ vi'.ownBlock ≠ v.ownBlock := by
  refine ⟨World.ownsRow.kept (World.ownsRow.alloc h o) hg (Or.inr (fun e => hne e.symm)), ?_⟩
  rcases hat with e | e
  · rw [e]; exact hne
  · rw [e]
    intro e2
    have := World.ownsRow.lt h H e2.symm
    omega
theorem row_self {w' : World} {B : Nat} {v' : Value} {l : List (Int × Int)} {x y : Int} (h : w'.ownsRow B 25 2 v' (l.length + 1) (flat2 l ++ [.int .i64 x, .int .i64 y])) : PtRow w' B v' (l ++ [(x, y)]) := by
  unfold PtRow; rw [flat2_snoc]; simpa using h
theorem bel_row {w0 w' U : World} {B : Nat} {o : Obj} {vi : Value} {l : List (Int × Int)} (hb : Below U.heap.size U w0) (h : PtRow w0 U.heap.size vi l) (hg : (w0.alloc o).grownBy w' vi.ownBlock) : Below U.heap.size U w' :=
  (balloc hb o).grown hg (by have := hb.size; simp; omega) (fun k hk => (World.ownsRow.lt h k hk).1)
theorem undrew {w w' : World} {r : Option Nat} (h : w.drew.grownBy w' r) : w.grownBy w' r := ⟨h.os, h.tape, h.output, h.size, h.block⟩
theorem own_at {v v' : Value} {H : Nat} (h : ∃ g, v.ownBlock = some g) (hat : v'.ownBlock = v.ownBlock ∨ v'.ownBlock = some H) : ∃ g, v'.ownBlock = some g := by
  rcases hat with e | e
  · rw [e]; exact h
  · exact ⟨_, e⟩
def fW (ps : List (Int × Int)) (dx dy : Int) (j : Nat) : Int × Int := (IntKind.i64.wrap ((ps.getD j (0, 0)).1 + dx), IntKind.i64.wrap ((ps.getD j (0, 0)).2 + dy))
theorem fW_eq {ps : List (Int × Int)} {dx dy : Int} (h1 : 0 ≤ dx ∧ dx ≤ 50) (h2 : 0 ≤ dy ∧ dy ≤ 50) (j : Nat) (h : pok (ps.getD j (0, 0)).1 (ps.getD j (0, 0)).2 = true) : fW ps dx dy j = fM ps dx dy j := by
  obtain ⟨⟨a, b⟩, c, d⟩ := in_of_pok h
  unfold fW fM
  rw [IntWalk.i64_in _ ⟨by omega, by omega⟩, IntWalk.i64_in _ ⟨by omega, by omega⟩]
theorem tkW_eq {ps : List (Int × Int)} {dx dy : Int} (h1 : 0 ≤ dx ∧ dx ≤ 50) (h2 : 0 ≤ dy ∧ dy ≤ 50) (h : ∀ j, j < ps.length → pok (ps.getD j (0, 0)).1 (ps.getD j (0, 0)).2 = true) : tk (fW ps dx dy) ps.length = tk (fM ps dx dy) ps.length := by
  unfold tk
  refine List.map_congr_left fun j hj => ?_
  exact fW_eq h1 h2 j (h j (by simpa using hj))
theorem area_lawW {ps : List (Int × Int)} {dx dy : Int} (h1 : 0 ≤ dx ∧ dx ≤ 50) (h2 : 0 ≤ dy ∧ dy ≤ 50) (hl : ps.length ≤ 8) (h : ∀ j, j < ps.length → pok (ps.getD j (0, 0)).1 (ps.getD j (0, 0)).2 = true ∧ pok (fW ps dx dy j).1 (fW ps dx dy j).2 = true) :
    area2 (tk (fR ps) ps.length) = - area2 ps ∧ area2 (tk (fW ps dx dy) ps.length) = area2 ps ∧ area2 (tk (fN ps) ps.length) = area2 ps := by
  rw [tkW_eq h1 h2 (fun j hj => (h j hj).1)]
  exact area_law dx dy hl (fun j hj => (h j hj).1) (fun j hj => by rw [← fW_eq h1 h2 j (h j hj).1]; exact (h j hj).2)
end Go.Proofs.Ytkncdncpgjpemaa
