/- Texts of stores, joined: Rows3, DrawS. -/
import Derived.Test.YtdaheepfmnjadaaGreatDoorJ4
import Derived.Test.YtdaheepfmnjadaaGreatDoorJ5
namespace Go.Proofs.YtdaheepfmnjadaaGreatDoor
open Go.RowKit
set_option linter.unusedVariables false
set_option linter.unusedSimpArgs false
set_option maxRecDepth 100000 in
set_option maxHeartbeats 1000000 in
theorem at_c (w : World) (a : Option Addr) (len cap B : Nat) (k : Nat) (hk : k ≤ 100) (hc : CodeAt w a len B) : Calls Tryz.prog 17 #[.slice a len cap, .int .i64 k] w fun e w' => ∃ x : Int, e = .returned (.int .i64 x) ∧ (0 ≤ x ∧ x ≤ 255) ∧ w' = w := by
  obtain ⟨hl, hc⟩ := hc
  by_cases h : k < len
  · have c1 : (k : Int) < (len : Int) := by omega
    rcases hc with hc | ⟨b, off, rfl, hb, hc⟩
    · omega
    · obtain ⟨z, z0, z1, hz⟩ := hc k h
      clear hc
      go_enter Tryz.func17, Tryz.ntmps17
      go_wp2
      go_ret
      exact ⟨z, rfl, ⟨z0, z1⟩, rfl⟩
  · have c1 : (len : Int) ≤ (k : Int) := by omega
    clear hc
    go_enter Tryz.func17, Tryz.ntmps17
    go_wp2
    go_ret
    exact ⟨_, rfl, by omega, rfl⟩
theorem row_other {w0 w' : World} {B H : Nat} {o : Obj} {v vi vi' : Value} {l : List (Int × Int)} (h : PtRow w0 B v l) (hne : vi.ownBlock ≠ v.ownBlock) (hg : (w0.alloc o).grownBy w' vi.ownBlock) (hat : vi'.ownBlock = vi.ownBlock ∨ vi'.ownBlock = some H) (hH : w0.heap.size ≤ H) (hs : ∃ g, v.ownBlock = some g) : PtRow w' B v l ∧ vi'.ownBlock ≠ v.ownBlock := by
  refine ⟨World.ownsRow.kept (World.ownsRow.alloc h o) hg (Or.inr (fun e => hne e.symm)), ?_⟩
  rcases hat with e | e
  · rw [e]; exact hne
  · rw [e]
    intro e2
    have := World.ownsRow.lt h H e2.symm
    omega
theorem row_self {w' : World} {B : Nat} {v' : Value} {l : List (Int × Int)} {x y : Int} (h : w'.ownsRow B 90 2 v' (l.length + 1) (flat2 l ++ [.int .i64 x, .int .i64 y])) : PtRow w' B v' (l ++ [(x, y)]) := by
  unfold PtRow; rw [flat2_snoc]; simpa using h
theorem bel_row {w0 w' U : World} {B : Nat} {o : Obj} {vi : Value} {l : List (Int × Int)} (hb : Below U.heap.size U w0) (h : PtRow w0 U.heap.size vi l) (hg : (w0.alloc o).grownBy w' vi.ownBlock) : Below U.heap.size U w' :=
  (balloc hb o).grown hg (by have := hb.size; simp; omega) (fun k hk => (World.ownsRow.lt h k hk).1)
theorem undrew {w w' : World} {r : Option Nat} (h : w.drew.grownBy w' r) : w.grownBy w' r := ⟨h.os, h.tape, h.output, h.size, h.block⟩
theorem own_at {v v' : Value} {H : Nat} (h : ∃ g, v.ownBlock = some g) (hat : v'.ownBlock = v.ownBlock ∨ v'.ownBlock = some H) : ∃ g, v'.ownBlock = some g := by
  rcases hat with e | e
  · rw [e]; exact h
  · exact ⟨_, e⟩
def fW (ps : List (Int × Int)) (dx dy : Int) (j : Nat) : Int × Int := (IntKind.i64.wrap ((ps.getD j (0, 0)).1 + dx), IntKind.i64.wrap ((ps.getD j (0, 0)).2 + dy))
theorem fW_eq {ps : List (Int × Int)} {dx dy : Int} (h1 : 0 ≤ dx ∧ dx ≤ 50) (h2 : 0 ≤ dy ∧ dy ≤ 50) (j : Nat) (h : pok (ps.getD j (0, 0)).1 (ps.getD j (0, 0)).2 = true) : fW ps dx dy j = fM ps dx dy j := by
  obtain ⟨⟨a, b⟩, c, d⟩ := in_of_pok h
  unfold fW fM
  rw [IntWalk.i64_in _ ⟨by omega, by omega⟩, IntWalk.i64_in _ ⟨by omega, by omega⟩]
theorem tkW_eq {ps : List (Int × Int)} {dx dy : Int} (h1 : 0 ≤ dx ∧ dx ≤ 50) (h2 : 0 ≤ dy ∧ dy ≤ 50) (h : ∀ j, j < ps.length → pok (ps.getD j (0, 0)).1 (ps.getD j (0, 0)).2 = true) : tk (fW ps dx dy) ps.length = tk (fM ps dx dy) ps.length := by
  unfold tk
  refine List.map_congr_left fun j hj => ?_
  exact fW_eq h1 h2 j (h j (by simpa using hj))
theorem area_lawW {ps : List (Int × Int)} {dx dy : Int} (h1 : 0 ≤ dx ∧ dx ≤ 50) (h2 : 0 ≤ dy ∧ dy ≤ 50) (hl : ps.length ≤ 8) (h : ∀ j, j < ps.length → pok (ps.getD j (0, 0)).1 (ps.getD j (0, 0)).2 = true ∧ pok (fW ps dx dy j).1 (fW ps dx dy j).2 = true) :
    area2 (tk (fR ps) ps.length) = - area2 ps ∧ area2 (tk (fW ps dx dy) ps.length) = area2 ps ∧ area2 (tk (fN ps) ps.length) = area2 ps := by
  rw [tkW_eq h1 h2 (fun j hj => (h j hj).1)]
  exact area_law dx dy hl (fun j hj => (h j hj).1) (fun j hj => by rw [← fW_eq h1 h2 j (h j hj).1]; exact (h j hj).2)
end Go.Proofs.YtdaheepfmnjadaaGreatDoor
namespace Go.Proofs.YtdaheepfmnjadaaGreatDoor
open Go.RowKit
set_option linter.unusedVariables false
set_option linter.unusedSimpArgs false
theorem PtRow.mono {w : World} {B B' : Nat} {v : Value} {ps : List (Int × Int)} (h : PtRow w B v ps) (hb : B' ≤ B) : PtRow w B' v ps := by
  refine ⟨h.1, ?_⟩
  rcases h.2 with h | ⟨g, cap, cur, e, h1, h2⟩
  · exact .inl h
  · exact .inr ⟨g, cap, cur, e, by omega, h2⟩
theorem ptsat_of {w : World} {b : Nat} {t : TypeId} (ps : List (Int × Int)) (h : w.heap[b]? = some (.cells (flat2 ps).toArray t (0, 0))) : PtsAt w b 0 ps := by
  intro k hk
  obtain ⟨f0, f1⟩ := flat2_at ps k hk
  constructor
  · rw [cell_of_row w b _ _ t (0, 0) h]; simpa using f0
  · rw [cell_of_row w b _ _ t (0, 0) h]; simpa using f1
theorem ptrow_lit {w : World} {B b : Nat} (ps : List (Int × Int)) (hl : ps.length ≤ 1000) (hB : B ≤ b) (h : w.heap[b]? = some (.cells (flat2 ps).toArray 90 (0, 0))) : PtRow w B (.slice (some ⟨b, 0, none⟩) ps.length ps.length) ps := by
  have hf : (flat2 ps).length = ps.length * 2 := by
    clear h hl
    induction ps with
    | nil => rfl
    | cons q r ih => simp [flat2] at ih ⊢; omega
  refine ⟨hf, .inr ⟨b, ps.length, _, rfl, hB, h, Nat.le_refl _, by unfold maxLen; omega, by simpa using hf, ?_⟩⟩
  rw [List.take_of_length_le (by simp; omega)]
theorem grown_up0 {w w0 w1 : World} {r s : Option Nat} (h : w.grownBy w0 s) (k : w0.grownBy w1 r) (hr : ∀ x, r = some x → w.heap.size ≤ x) : w.grownBy w1 s :=
  ⟨k.os.trans h.os, k.tape.trans h.tape, k.output.trans h.output, Nat.le_trans h.size k.size, fun i hi hne => (k.block i (Nat.lt_of_lt_of_le hi h.size) (fun e => by have := hr i e.symm; omega)).trans (h.block i hi hne)⟩
/-- The four lists of points that l03Ring7 takes one of. -/
def Four (w W : World) (q : Nat) : Prop := ∀ k, k < 4 → ∃ b, ∃ ps : List (Int × Int), W.cell? ⟨q, k, none⟩ = some (.slice (some ⟨b, 0, none⟩) ps.length ps.length) ∧ w.heap.size ≤ b ∧ b < W.heap.size ∧ PtsAt W b 0 ps ∧ 1 ≤ ps.length ∧ ps.length ≤ 8
theorem four_new (w : World) : Four w (((((w.alloc (.cells #[.int .i64 0, .int .i64 0, .int .i64 4, .int .i64 0, .int .i64 0, .int .i64 4] 90)).alloc (.cells #[.int .i64 0, .int .i64 0, .int .i64 6, .int .i64 0, .int .i64 6, .int .i64 6, .int .i64 3, .int .i64 2, .int .i64 0, .int .i64 6] 90)).alloc (.cells #[.int .i64 (-3), .int .i64 0, .int .i64 0, .int .i64 (-3), .int .i64 3, .int .i64 0, .int .i64 0, .int .i64 3] 90)).alloc (.cells #[.int .i64 0, .int .i64 0, .int .i64 8, .int .i64 0, .int .i64 8, .int .i64 8, .int .i64 6, .int .i64 8, .int .i64 6, .int .i64 2, .int .i64 2, .int .i64 2, .int .i64 2, .int .i64 8, .int .i64 0, .int .i64 8] 90)).alloc (.cells #[.slice (some ⟨w.heap.size, 0, none⟩) 3 3, .slice (some ⟨w.heap.size + 1, 0, none⟩) 5 5, .slice (some ⟨w.heap.size + 1 + 1, 0, none⟩) 4 4, .slice (some ⟨w.heap.size + 1 + 1 + 1, 0, none⟩) 8 8] 59)) (w.heap.size + 1 + 1 + 1 + 1) := by
  have g0 : (((((w.alloc (.cells #[.int .i64 0, .int .i64 0, .int .i64 4, .int .i64 0, .int .i64 0, .int .i64 4] 90)).alloc (.cells #[.int .i64 0, .int .i64 0, .int .i64 6, .int .i64 0, .int .i64 6, .int .i64 6, .int .i64 3, .int .i64 2, .int .i64 0, .int .i64 6] 90)).alloc (.cells #[.int .i64 (-3), .int .i64 0, .int .i64 0, .int .i64 (-3), .int .i64 3, .int .i64 0, .int .i64 0, .int .i64 3] 90)).alloc (.cells #[.int .i64 0, .int .i64 0, .int .i64 8, .int .i64 0, .int .i64 8, .int .i64 8, .int .i64 6, .int .i64 8, .int .i64 6, .int .i64 2, .int .i64 2, .int .i64 2, .int .i64 2, .int .i64 8, .int .i64 0, .int .i64 8] 90)).alloc (.cells #[.slice (some ⟨w.heap.size, 0, none⟩) 3 3, .slice (some ⟨w.heap.size + 1, 0, none⟩) 5 5, .slice (some ⟨w.heap.size + 1 + 1, 0, none⟩) 4 4, .slice (some ⟨w.heap.size + 1 + 1 + 1, 0, none⟩) 8 8] 59)).heap[w.heap.size]? = some (.cells #[.int .i64 0, .int .i64 0, .int .i64 4, .int .i64 0, .int .i64 0, .int .i64 4] 90 (0, 0)) := by (repeat (first | (with_reducible refine new_alloc _ _ _ ?_; (first | rfl | (simp; done))) | with_reducible refine old_alloc ?_))
  have g1 : (((((w.alloc (.cells #[.int .i64 0, .int .i64 0, .int .i64 4, .int .i64 0, .int .i64 0, .int .i64 4] 90)).alloc (.cells #[.int .i64 0, .int .i64 0, .int .i64 6, .int .i64 0, .int .i64 6, .int .i64 6, .int .i64 3, .int .i64 2, .int .i64 0, .int .i64 6] 90)).alloc (.cells #[.int .i64 (-3), .int .i64 0, .int .i64 0, .int .i64 (-3), .int .i64 3, .int .i64 0, .int .i64 0, .int .i64 3] 90)).alloc (.cells #[.int .i64 0, .int .i64 0, .int .i64 8, .int .i64 0, .int .i64 8, .int .i64 8, .int .i64 6, .int .i64 8, .int .i64 6, .int .i64 2, .int .i64 2, .int .i64 2, .int .i64 2, .int .i64 8, .int .i64 0, .int .i64 8] 90)).alloc (.cells #[.slice (some ⟨w.heap.size, 0, none⟩) 3 3, .slice (some ⟨w.heap.size + 1, 0, none⟩) 5 5, .slice (some ⟨w.heap.size + 1 + 1, 0, none⟩) 4 4, .slice (some ⟨w.heap.size + 1 + 1 + 1, 0, none⟩) 8 8] 59)).heap[w.heap.size + 1]? = some (.cells #[.int .i64 0, .int .i64 0, .int .i64 6, .int .i64 0, .int .i64 6, .int .i64 6, .int .i64 3, .int .i64 2, .int .i64 0, .int .i64 6] 90 (0, 0)) := by (repeat (first | (with_reducible refine new_alloc _ _ _ ?_; (first | rfl | (simp; done))) | with_reducible refine old_alloc ?_))
  have g2 : (((((w.alloc (.cells #[.int .i64 0, .int .i64 0, .int .i64 4, .int .i64 0, .int .i64 0, .int .i64 4] 90)).alloc (.cells #[.int .i64 0, .int .i64 0, .int .i64 6, .int .i64 0, .int .i64 6, .int .i64 6, .int .i64 3, .int .i64 2, .int .i64 0, .int .i64 6] 90)).alloc (.cells #[.int .i64 (-3), .int .i64 0, .int .i64 0, .int .i64 (-3), .int .i64 3, .int .i64 0, .int .i64 0, .int .i64 3] 90)).alloc (.cells #[.int .i64 0, .int .i64 0, .int .i64 8, .int .i64 0, .int .i64 8, .int .i64 8, .int .i64 6, .int .i64 8, .int .i64 6, .int .i64 2, .int .i64 2, .int .i64 2, .int .i64 2, .int .i64 8, .int .i64 0, .int .i64 8] 90)).alloc (.cells #[.slice (some ⟨w.heap.size, 0, none⟩) 3 3, .slice (some ⟨w.heap.size + 1, 0, none⟩) 5 5, .slice (some ⟨w.heap.size + 1 + 1, 0, none⟩) 4 4, .slice (some ⟨w.heap.size + 1 + 1 + 1, 0, none⟩) 8 8] 59)).heap[w.heap.size + 1 + 1]? = some (.cells #[.int .i64 (-3), .int .i64 0, .int .i64 0, .int .i64 (-3), .int .i64 3, .int .i64 0, .int .i64 0, .int .i64 3] 90 (0, 0)) := by (repeat (first | (with_reducible refine new_alloc _ _ _ ?_; (first | rfl | (simp; done))) | with_reducible refine old_alloc ?_))
  have g3 : (((((w.alloc (.cells #[.int .i64 0, .int .i64 0, .int .i64 4, .int .i64 0, .int .i64 0, .int .i64 4] 90)).alloc (.cells #[.int .i64 0, .int .i64 0, .int .i64 6, .int .i64 0, .int .i64 6, .int .i64 6, .int .i64 3, .int .i64 2, .int .i64 0, .int .i64 6] 90)).alloc (.cells #[.int .i64 (-3), .int .i64 0, .int .i64 0, .int .i64 (-3), .int .i64 3, .int .i64 0, .int .i64 0, .int .i64 3] 90)).alloc (.cells #[.int .i64 0, .int .i64 0, .int .i64 8, .int .i64 0, .int .i64 8, .int .i64 8, .int .i64 6, .int .i64 8, .int .i64 6, .int .i64 2, .int .i64 2, .int .i64 2, .int .i64 2, .int .i64 8, .int .i64 0, .int .i64 8] 90)).alloc (.cells #[.slice (some ⟨w.heap.size, 0, none⟩) 3 3, .slice (some ⟨w.heap.size + 1, 0, none⟩) 5 5, .slice (some ⟨w.heap.size + 1 + 1, 0, none⟩) 4 4, .slice (some ⟨w.heap.size + 1 + 1 + 1, 0, none⟩) 8 8] 59)).heap[w.heap.size + 1 + 1 + 1]? = some (.cells #[.int .i64 0, .int .i64 0, .int .i64 8, .int .i64 0, .int .i64 8, .int .i64 8, .int .i64 6, .int .i64 8, .int .i64 6, .int .i64 2, .int .i64 2, .int .i64 2, .int .i64 2, .int .i64 8, .int .i64 0, .int .i64 8] 90 (0, 0)) := by (repeat (first | (with_reducible refine new_alloc _ _ _ ?_; (first | rfl | (simp; done))) | with_reducible refine old_alloc ?_))
  have g4 : (((((w.alloc (.cells #[.int .i64 0, .int .i64 0, .int .i64 4, .int .i64 0, .int .i64 0, .int .i64 4] 90)).alloc (.cells #[.int .i64 0, .int .i64 0, .int .i64 6, .int .i64 0, .int .i64 6, .int .i64 6, .int .i64 3, .int .i64 2, .int .i64 0, .int .i64 6] 90)).alloc (.cells #[.int .i64 (-3), .int .i64 0, .int .i64 0, .int .i64 (-3), .int .i64 3, .int .i64 0, .int .i64 0, .int .i64 3] 90)).alloc (.cells #[.int .i64 0, .int .i64 0, .int .i64 8, .int .i64 0, .int .i64 8, .int .i64 8, .int .i64 6, .int .i64 8, .int .i64 6, .int .i64 2, .int .i64 2, .int .i64 2, .int .i64 2, .int .i64 8, .int .i64 0, .int .i64 8] 90)).alloc (.cells #[.slice (some ⟨w.heap.size, 0, none⟩) 3 3, .slice (some ⟨w.heap.size + 1, 0, none⟩) 5 5, .slice (some ⟨w.heap.size + 1 + 1, 0, none⟩) 4 4, .slice (some ⟨w.heap.size + 1 + 1 + 1, 0, none⟩) 8 8] 59)).heap[w.heap.size + 1 + 1 + 1 + 1]? = some (.cells #[.slice (some ⟨w.heap.size, 0, none⟩) 3 3, .slice (some ⟨w.heap.size + 1, 0, none⟩) 5 5, .slice (some ⟨w.heap.size + 1 + 1, 0, none⟩) 4 4, .slice (some ⟨w.heap.size + 1 + 1 + 1, 0, none⟩) 8 8] 59 (0, 0)) := by (repeat (first | (with_reducible refine new_alloc _ _ _ ?_; (first | rfl | (simp; done))) | with_reducible refine old_alloc ?_))
  have hs : (((((w.alloc (.cells #[.int .i64 0, .int .i64 0, .int .i64 4, .int .i64 0, .int .i64 0, .int .i64 4] 90)).alloc (.cells #[.int .i64 0, .int .i64 0, .int .i64 6, .int .i64 0, .int .i64 6, .int .i64 6, .int .i64 3, .int .i64 2, .int .i64 0, .int .i64 6] 90)).alloc (.cells #[.int .i64 (-3), .int .i64 0, .int .i64 0, .int .i64 (-3), .int .i64 3, .int .i64 0, .int .i64 0, .int .i64 3] 90)).alloc (.cells #[.int .i64 0, .int .i64 0, .int .i64 8, .int .i64 0, .int .i64 8, .int .i64 8, .int .i64 6, .int .i64 8, .int .i64 6, .int .i64 2, .int .i64 2, .int .i64 2, .int .i64 2, .int .i64 8, .int .i64 0, .int .i64 8] 90)).alloc (.cells #[.slice (some ⟨w.heap.size, 0, none⟩) 3 3, .slice (some ⟨w.heap.size + 1, 0, none⟩) 5 5, .slice (some ⟨w.heap.size + 1 + 1, 0, none⟩) 4 4, .slice (some ⟨w.heap.size + 1 + 1 + 1, 0, none⟩) 8 8] 59)).heap.size = w.heap.size + 5 := by simp
  generalize (((((w.alloc (.cells #[.int .i64 0, .int .i64 0, .int .i64 4, .int .i64 0, .int .i64 0, .int .i64 4] 90)).alloc (.cells #[.int .i64 0, .int .i64 0, .int .i64 6, .int .i64 0, .int .i64 6, .int .i64 6, .int .i64 3, .int .i64 2, .int .i64 0, .int .i64 6] 90)).alloc (.cells #[.int .i64 (-3), .int .i64 0, .int .i64 0, .int .i64 (-3), .int .i64 3, .int .i64 0, .int .i64 0, .int .i64 3] 90)).alloc (.cells #[.int .i64 0, .int .i64 0, .int .i64 8, .int .i64 0, .int .i64 8, .int .i64 8, .int .i64 6, .int .i64 8, .int .i64 6, .int .i64 2, .int .i64 2, .int .i64 2, .int .i64 2, .int .i64 8, .int .i64 0, .int .i64 8] 90)).alloc (.cells #[.slice (some ⟨w.heap.size, 0, none⟩) 3 3, .slice (some ⟨w.heap.size + 1, 0, none⟩) 5 5, .slice (some ⟨w.heap.size + 1 + 1, 0, none⟩) 4 4, .slice (some ⟨w.heap.size + 1 + 1 + 1, 0, none⟩) 8 8] 59)) = W at *
  intro k hk
  match k, hk with
  | 0, _ => exact ⟨w.heap.size, [(0, 0), (4, 0), (0, 4)], by rw [cell_of_row _ _ _ _ _ (0, 0) g4]; rfl, by omega, by omega, ptsat_of (t := 90) [(0, 0), (4, 0), (0, 4)] g0, by decide, by decide⟩
  | 1, _ => exact ⟨w.heap.size + 1, [(0, 0), (6, 0), (6, 6), (3, 2), (0, 6)], by rw [cell_of_row _ _ _ _ _ (0, 0) g4]; rfl, by omega, by omega, ptsat_of (t := 90) [(0, 0), (6, 0), (6, 6), (3, 2), (0, 6)] g1, by decide, by decide⟩
  | 2, _ => exact ⟨w.heap.size + 1 + 1, [(-3, 0), (0, -3), (3, 0), (0, 3)], by rw [cell_of_row _ _ _ _ _ (0, 0) g4]; rfl, by omega, by omega, ptsat_of (t := 90) [(-3, 0), (0, -3), (3, 0), (0, 3)] g2, by decide, by decide⟩
  | 3, _ => exact ⟨w.heap.size + 1 + 1 + 1, [(0, 0), (8, 0), (8, 8), (6, 8), (6, 2), (2, 2), (2, 8), (0, 8)], by rw [cell_of_row _ _ _ _ _ (0, 0) g4]; rfl, by omega, by omega, ptsat_of (t := 90) [(0, 0), (8, 0), (8, 8), (6, 8), (6, 2), (2, 2), (2, 8), (0, 8)] g3, by decide, by decide⟩
theorem Four.kept {w W W' : World} {p q : Nat} (h : Four w W q) (hg : W.grownBy W' (some p)) (hp : p < w.heap.size) (hq : w.heap.size ≤ q) : Four w W' q := by
  intro k hk
  obtain ⟨b, ps, hc, h1, h2, h3, h4, h5⟩ := h k hk
  have hs := hg.size
  refine ⟨b, ps, hg.cell hc (fun e => by simp at e; omega), h1, by omega, ?_, h4, h5⟩
  intro j hj
  obtain ⟨c0, c1⟩ := h3 j hj
  exact ⟨hg.cell c0 (fun e => by simp at e; omega), hg.cell c1 (fun e => by simp at e; omega)⟩
set_option maxRecDepth 100000 in
set_option maxHeartbeats 1000000 in
theorem ring7_r (w : World) (p : Nat) (a : Option Addr) (len cap : Nat) (h : Ready w p a len cap) : Calls Tryz.prog 87 #[.pointer (some ⟨p, 0, none⟩)] w fun e w' => ∃ ps : List (Int × Int), ∃ v, e = .returned v ∧ 1 ≤ ps.length ∧ ps.length ≤ 8 ∧ PtRow w' w.heap.size v ps ∧ Ready w' p a len cap ∧ w.grownBy w' (some p) := by
  have hp := h.lt
  obtain ⟨i0, hi0, hz0, hz1, hz2⟩ := info_parts Tryz.infoP2
  go_enter Tryz.func87, Tryz.ntmps87
  go_wp2_with fail
  have hF := four_new w
  have hr : Ready (((((w.alloc (.cells #[.int .i64 0, .int .i64 0, .int .i64 4, .int .i64 0, .int .i64 0, .int .i64 4] 90)).alloc (.cells #[.int .i64 0, .int .i64 0, .int .i64 6, .int .i64 0, .int .i64 6, .int .i64 6, .int .i64 3, .int .i64 2, .int .i64 0, .int .i64 6] 90)).alloc (.cells #[.int .i64 (-3), .int .i64 0, .int .i64 0, .int .i64 (-3), .int .i64 3, .int .i64 0, .int .i64 0, .int .i64 3] 90)).alloc (.cells #[.int .i64 0, .int .i64 0, .int .i64 8, .int .i64 0, .int .i64 8, .int .i64 8, .int .i64 6, .int .i64 8, .int .i64 6, .int .i64 2, .int .i64 2, .int .i64 2, .int .i64 2, .int .i64 8, .int .i64 0, .int .i64 8] 90)).alloc (.cells #[.slice (some ⟨w.heap.size, 0, none⟩) 3 3, .slice (some ⟨w.heap.size + 1, 0, none⟩) 5 5, .slice (some ⟨w.heap.size + 1 + 1, 0, none⟩) 4 4, .slice (some ⟨w.heap.size + 1 + 1 + 1, 0, none⟩) 8 8] 59)) p a len cap := ((((h.alloc _).alloc _).alloc _).alloc _).alloc _
  have hg : w.grownBy (((((w.alloc (.cells #[.int .i64 0, .int .i64 0, .int .i64 4, .int .i64 0, .int .i64 0, .int .i64 4] 90)).alloc (.cells #[.int .i64 0, .int .i64 0, .int .i64 6, .int .i64 0, .int .i64 6, .int .i64 6, .int .i64 3, .int .i64 2, .int .i64 0, .int .i64 6] 90)).alloc (.cells #[.int .i64 (-3), .int .i64 0, .int .i64 0, .int .i64 (-3), .int .i64 3, .int .i64 0, .int .i64 0, .int .i64 3] 90)).alloc (.cells #[.int .i64 0, .int .i64 0, .int .i64 8, .int .i64 0, .int .i64 8, .int .i64 8, .int .i64 6, .int .i64 8, .int .i64 6, .int .i64 2, .int .i64 2, .int .i64 2, .int .i64 2, .int .i64 8, .int .i64 0, .int .i64 8] 90)).alloc (.cells #[.slice (some ⟨w.heap.size, 0, none⟩) 3 3, .slice (some ⟨w.heap.size + 1, 0, none⟩) 5 5, .slice (some ⟨w.heap.size + 1 + 1, 0, none⟩) 4 4, .slice (some ⟨w.heap.size + 1 + 1 + 1, 0, none⟩) 8 8] 59)) (some p) := grown_trans (grown_trans (grown_trans (grown_trans (grown_alloc _ _ _) (grown_alloc _ _ _)) (grown_alloc _ _ _)) (grown_alloc _ _ _)) (grown_alloc _ _ _)
  have hq : w.heap.size + 1 + 1 + 1 + 1 < (((((w.alloc (.cells #[.int .i64 0, .int .i64 0, .int .i64 4, .int .i64 0, .int .i64 0, .int .i64 4] 90)).alloc (.cells #[.int .i64 0, .int .i64 0, .int .i64 6, .int .i64 0, .int .i64 6, .int .i64 6, .int .i64 3, .int .i64 2, .int .i64 0, .int .i64 6] 90)).alloc (.cells #[.int .i64 (-3), .int .i64 0, .int .i64 0, .int .i64 (-3), .int .i64 3, .int .i64 0, .int .i64 0, .int .i64 3] 90)).alloc (.cells #[.int .i64 0, .int .i64 0, .int .i64 8, .int .i64 0, .int .i64 8, .int .i64 8, .int .i64 6, .int .i64 8, .int .i64 6, .int .i64 2, .int .i64 2, .int .i64 2, .int .i64 2, .int .i64 8, .int .i64 0, .int .i64 8] 90)).alloc (.cells #[.slice (some ⟨w.heap.size, 0, none⟩) 3 3, .slice (some ⟨w.heap.size + 1, 0, none⟩) 5 5, .slice (some ⟨w.heap.size + 1 + 1, 0, none⟩) 4 4, .slice (some ⟨w.heap.size + 1 + 1 + 1, 0, none⟩) 8 8] 59)).heap.size := by simp
  have HF := hid hF
  clear hF
  generalize (((((w.alloc (.cells #[.int .i64 0, .int .i64 0, .int .i64 4, .int .i64 0, .int .i64 0, .int .i64 4] 90)).alloc (.cells #[.int .i64 0, .int .i64 0, .int .i64 6, .int .i64 0, .int .i64 6, .int .i64 6, .int .i64 3, .int .i64 2, .int .i64 0, .int .i64 6] 90)).alloc (.cells #[.int .i64 (-3), .int .i64 0, .int .i64 0, .int .i64 (-3), .int .i64 3, .int .i64 0, .int .i64 0, .int .i64 3] 90)).alloc (.cells #[.int .i64 0, .int .i64 0, .int .i64 8, .int .i64 0, .int .i64 8, .int .i64 8, .int .i64 6, .int .i64 8, .int .i64 6, .int .i64 2, .int .i64 2, .int .i64 2, .int .i64 2, .int .i64 8, .int .i64 0, .int .i64 8] 90)).alloc (.cells #[.slice (some ⟨w.heap.size, 0, none⟩) 3 3, .slice (some ⟨w.heap.size + 1, 0, none⟩) 5 5, .slice (some ⟨w.heap.size + 1 + 1, 0, none⟩) 4 4, .slice (some ⟨w.heap.size + 1 + 1 + 1, 0, none⟩) 8 8] 59)) = v0 at HF hr hg hq ⊢
  generalize hQ : w.heap.size + 1 + 1 + 1 + 1 = q at *
  have hq0 : w.heap.size ≤ q := by omega
  have hqp : q ≠ p := by omega
  clear hQ
  refine (below_r _ p a len cap 4 (by omega) (by omega) hr).mono ?_
  rintro e v1 ⟨x, rfl, x0, x1, hr1, hg1⟩
  replace HF := hid (HF.out.kept hg1 hp hq0)
  replace hg := grown_trans hg hg1
  clear hr hg1
  obtain ⟨k, rfl⟩ := Int.eq_ofNat_of_zero_le x0
  obtain ⟨b, ps, hc, hb1, hb2, hpt, hl1, hl2⟩ := HF.out k (by omega)
  clear HF
  have HP := hid hpt
  clear hpt
  have hkc : ((k : Int)).toNat = k := by omega
  go_wp2_with fail
  refine (below_r _ p a len cap 13 (by omega) (by omega) hr1).mono ?_
  rintro e v2 ⟨dx, rfl, dx0, dx1, hr2, hg2⟩
  replace hg := grown_trans hg hg2
  have hne : b ≠ p := by omega
  replace hc := hg2.cell hc (fun e => by simp at e; omega)
  have hpt2 : PtsAt v2 b 0 ps := fun j hj => ⟨hg2.cell (HP.out j hj).1 (fun e => by simp at e; omega), hg2.cell (HP.out j hj).2 (fun e => by simp at e; omega)⟩
  have hbs2 := hg2.size
  clear HP hr1 hg2
  have HP := hid hpt2
  clear hpt2
  go_wp2_with fail
  refine (below_r _ p a len cap 13 (by omega) (by omega) hr2).mono ?_
  rintro e v3 ⟨dy, rfl, dy0, dy1, hr3, hg3⟩
  replace hg := grown_trans hg hg3
  have hpt3 : PtsAt v3 b 0 ps := fun j hj => ⟨hg3.cell (HP.out j hj).1 (fun e => by simp at e; omega), hg3.cell (HP.out j hj).2 (fun e => by simp at e; omega)⟩
  have hbs3 := hg3.size
  clear HP hr2 hg3 hc
  have HP := hid hpt3
  clear hpt3
  have hb3 : b < v3.heap.size := by omega
  have hg3s := hg.size
  go_wp2_with fail
  go_loopw [7, 8] (fun v ti wr => ∃ i : Nat, ∃ done : List (Int × Int), ti = .int .i64 i ∧ i ≤ ps.length ∧ Hid (done.length = i) ∧ Hid (PtRow wr v3.heap.size v done) ∧ Hid (v3.grownBy wr none)) (fun _ ti _ => ps.length - (intOf ti).toNat)
  case atStart => exact ⟨0, [], rfl, by omega, rfl, ptrow_new (Nat.le_refl _), grown_alloc _ _ _⟩
  case round =>
    obtain ⟨i, done, rfl, hin, HL, HO, HG⟩ := hrel
    have hsz := HG.out.size
    have hdl : done.length ≤ 8 := by have := HL.out; omega
    by_cases hlt : i < ps.length
    · have c1 : (i : Int) < (ps.length : Int) := by omega
      have c0 : (0 : Int) ≤ (i : Int) := by omega
      obtain ⟨d0, d1⟩ := HP.out i hlt
      replace d0 := HG.out.cell d0 (by simp)
      replace d1 := HG.out.cell d1 (by simp)
      simp only [Nat.zero_add] at d0 d1
      generalize (ps.getD i (0, 0)).1 = x at *
      generalize (ps.getD i (0, 0)).2 = y at *
      have hown := HO.out
      unfold PtRow at hown
      have hvb : some b ≠ u7.ownBlock := fun e => absurd (hown.lt b e.symm).1 (by omega)
      go_wp2_with fail
      go_region_held3 (fun w' => w'.cell? ⟨b, i * 2, none⟩ = some (.int .i64 x) ∧ w'.cell? ⟨b, i * 2 + 1, none⟩ = some (.int .i64 y)) ((go_split_ands; (repeat' apply And.intro) <;> (repeat (first | with_reducible assumption | with_reducible refine keepdrew ?_ | with_reducible refine keepalloc ?_ _ | (refine hgrow.cell ?_ hvb)))))
        ((refine step_append_lies _ (by rfl) _ _ _ (by rfl) v3.heap.size 90 i0 _ 2 16 Tryz.underlying59 hi0 hz0 hz1 hz2 rfl (by omega) _ done.length (flat2 done) (by rfl) ((hown.alloc _).drew) ⟨wr.heap.size, 0, none⟩ 1 1 [.int .i64 (IntKind.i64.wrap (x + (dx - 6))), .int .i64 (IntKind.i64.wrap (y + (dy - 6)))] (by rfl) (by rfl) (World.news_of_block (cs := #[.int .i64 (IntKind.i64.wrap (x + (dx - 6))), .int .i64 (IntKind.i64.wrap (y + (dy - 6)))]) (t := 90) (fr := (0, 0)) (heap_alloc_new wr _)) (by simp [Value.oneCell']) (by omega) (by unfold maxLen; omega) (by omega) (by simp; omega) (wr.heap.size + 1) (by simp) ?_; intro gg cp y1 hown1 hgrow hat hlt1))
      go_wp2_with fail
      go_roundw
      case rel =>
        refine ⟨i + 1, done ++ [(IntKind.i64.wrap (x + (dx - 6)), IntKind.i64.wrap (y + (dy - 6)))], by go_num, by omega, ?_, ?_, ?_⟩
        · show _ = _; have := HL.out; simp; exact this
        · exact row_self hown1
        · exact grown_up0 (grown_trans HG.out (grown_alloc _ _ _)) (undrew hgrow) (fun y hy => (hown.lt y hy).1)
      case measure => simp [intOf]; omega
    · have c1 : (ps.length : Int) ≤ (i : Int) := by omega
      go_wp2_with fail
      go_ret
      exact ⟨done, _, rfl, by have := HL.out; omega, hdl, HO.out.mono (by omega), hr3.kept HG.out (fun _ e => by cases e), grown_trans hg ⟨HG.out.os, HG.out.tape, HG.out.output, HG.out.size, fun i hi _ => HG.out.block i hi (by simp)⟩⟩
end Go.Proofs.YtdaheepfmnjadaaGreatDoor
