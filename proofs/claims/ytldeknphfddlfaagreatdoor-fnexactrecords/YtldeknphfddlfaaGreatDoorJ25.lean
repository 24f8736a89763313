/- Texts of stores, joined: DrawL, Rows3. -/
import Derived.Test.YtldeknphfddlfaaGreatDoorJ24
import Derived.OwnWalk
import Derived.Deep.AppendLies
import Derived.Test.YtldeknphfddlfaaGreatDoorJ22
namespace Go.Proofs.YtldeknphfddlfaaGreatDoor
open Go.RowKit
set_option linter.unusedVariables false
set_option linter.unusedSimpArgs false
theorem one_size (b : UInt8) : (⟨#[b]⟩ : ByteArray).size = 1 := rfl
theorem grown_up {w w0 w1 : World} {p : Nat} {r : Option Nat} (h : w.grownBy w0 (some p)) (k : w0.grownBy w1 r) (hr : ∀ x, r = some x → w.heap.size ≤ x) : w.grownBy w1 (some p) :=
  ⟨k.os.trans h.os, k.tape.trans h.tape, k.output.trans h.output, Nat.le_trans h.size k.size, fun i hi hne => (k.block i (Nat.lt_of_lt_of_le hi h.size) (fun e => by have := hr i e.symm; omega)).trans (h.block i hi hne)⟩
theorem Tryz.infoP2 : (Tryz.prog.info? 57).map (fun i => (i.zero, i.size, i.bytes)) = some (some (.agg #[.int .i64 0, .int .i64 0]), 2, 16) := by kernel_rfl
def flat2 (qs : List (Int × Int)) : List Value := qs.flatMap fun q => [.int .i64 q.1, .int .i64 q.2]
theorem flat2_snoc (qs : List (Int × Int)) (x y : Int) : flat2 (qs ++ [(x, y)]) = flat2 qs ++ [.int .i64 x, .int .i64 y] := by simp [flat2]
theorem flat2_at (qs : List (Int × Int)) : ∀ k, k < qs.length → (flat2 qs)[k * 2]? = some (.int .i64 (qs.getD k (0, 0)).1) ∧ (flat2 qs)[k * 2 + 1]? = some (.int .i64 (qs.getD k (0, 0)).2) := by
  induction qs with
  | nil => intro k hk; simp at hk
  | cons q r ih =>
    intro k hk
    cases k with
    | zero => simp [flat2]
    | succ k =>
      have := ih k (by simpa using hk)
      simp only [flat2, List.flatMap_cons, List.getD_cons_succ] at this ⊢
      rw [show (k + 1) * 2 = k * 2 + 2 by omega]
      simpa [List.getElem?_append_right] using this
/-- A list of points in a block of its own. -/
def PtRow (w : World) (B : Nat) (v : Value) (ps : List (Int × Int)) : Prop := w.ownsRow B 57 2 v ps.length (flat2 ps)
theorem PtRow.pts {w : World} {B : Nat} {v : Value} {ps : List (Int × Int)} (h : PtRow w B v ps) : ∃ ao cap, v = .slice ao ps.length cap ∧ ps.length ≤ cap ∧ Pts w ao ps := by
  have h' := h
  rcases h.2 with ⟨rfl, hn⟩ | ⟨g, cap, cur, rfl, hb, hg, hc, _⟩
  · refine ⟨none, 0, by rw [hn], by omega, .inl (List.length_eq_zero_iff.1 hn)⟩
  · refine ⟨_, cap, rfl, hc, .inr ⟨g, 0, rfl, (Array.getElem?_eq_some_iff.1 hg).1, ?_⟩⟩
    intro k hk
    obtain ⟨f0, f1⟩ := flat2_at ps k hk
    have hcs := World.ownsRow.cells h' rfl
    have q0 := hcs _ _ f0
    have q1 := hcs _ _ f1
    rw [Addr.add_mid] at q0 q1
    exact ⟨q0, by rw [Nat.add_assoc]; exact q1⟩
theorem ptrow_new {w : World} {B : Nat} (hB : B ≤ w.heap.size) : PtRow (w.alloc (.cells #[] 57)) B (.slice (some ⟨w.heap.size, 0, none⟩) 0 0) [] := by
  have := World.ownsRow_made (base := B) (e := 57) (size := 2) w #[] 0 hB (by decide) rfl
  simpa [PtRow, flat2] using this
end Go.Proofs.YtldeknphfddlfaaGreatDoor
namespace Go.Proofs.YtldeknphfddlfaaGreatDoor
open Go.RowKit
set_option linter.unusedVariables false
set_option linter.unusedSimpArgs false
theorem row_other {w0 w' : World} {B H : Nat} {o : Obj} {v vi vi' : Value} {l : List (Int × Int)} (h : PtRow w0 B v l) (hne : vi.ownBlock ≠ v.ownBlock) (hg : (w0.alloc o).grownBy w' vi.ownBlock) (hat : vi'.ownBlock = vi.ownBlock ∨ vi'.ownBlock = some H) (hH : w0.heap.size ≤ H) (hs : ∃ g, v.ownBlock = some g) : PtRow w' B v l ∧ vi'.ownBlock ≠ v.ownBlock := by
  refine ⟨World.ownsRow.kept (World.ownsRow.alloc h o) hg (Or.inr (fun e => hne e.symm)), ?_⟩
  rcases hat with e | e
  · rw [e]; exact hne
  · rw [e]
    intro e2
    have := World.ownsRow.lt h H e2.symm
    omega
theorem row_self {w' : World} {B : Nat} {v' : Value} {l : List (Int × Int)} {x y : Int} (h : w'.ownsRow B 57 2 v' (l.length + 1) (flat2 l ++ [.int .i64 x, .int .i64 y])) : PtRow w' B v' (l ++ [(x, y)]) := by
  unfold PtRow; rw [flat2_snoc]; simpa using h
theorem bel_row {w0 w' U : World} {B : Nat} {o : Obj} {vi : Value} {l : List (Int × Int)} (hb : Below U.heap.size U w0) (h : PtRow w0 U.heap.size vi l) (hg : (w0.alloc o).grownBy w' vi.ownBlock) : Below U.heap.size U w' :=
  (balloc hb o).grown hg (by have := hb.size; simp; omega) (fun k hk => (World.ownsRow.lt h k hk).1)
theorem undrew {w w' : World} {r : Option Nat} (h : w.drew.grownBy w' r) : w.grownBy w' r := ⟨h.os, h.tape, h.output, h.size, h.block⟩
theorem own_at {v v' : Value} {H : Nat} (h : ∃ g, v.ownBlock = some g) (hat : v'.ownBlock = v.ownBlock ∨ v'.ownBlock = some H) : ∃ g, v'.ownBlock = some g := by
  rcases hat with e | e
  · rw [e]; exact h
  · exact ⟨_, e⟩
def fW (ps : List (Int × Int)) (dx dy : Int) (j : Nat) : Int × Int := (IntKind.i64.wrap ((ps.getD j (0, 0)).1 + dx), IntKind.i64.wrap ((ps.getD j (0, 0)).2 + dy))
theorem fW_eq {ps : List (Int × Int)} {dx dy : Int} (h1 : 0 ≤ dx ∧ dx ≤ 50) (h2 : 0 ≤ dy ∧ dy ≤ 50) (j : Nat) (h : pok (ps.getD j (0, 0)).1 (ps.getD j (0, 0)).2 = true) : fW ps dx dy j = fM ps dx dy j := by
  obtain ⟨⟨a, b⟩, c, d⟩ := in_of_pok h
  unfold fW fM
  rw [IntWalk.i64_in _ ⟨by omega, by omega⟩, IntWalk.i64_in _ ⟨by omega, by omega⟩]
theorem tkW_eq {ps : List (Int × Int)} {dx dy : Int} (h1 : 0 ≤ dx ∧ dx ≤ 50) (h2 : 0 ≤ dy ∧ dy ≤ 50) (h : ∀ j, j < ps.length → pok (ps.getD j (0, 0)).1 (ps.getD j (0, 0)).2 = true) : tk (fW ps dx dy) ps.length = tk (fM ps dx dy) ps.length := by
  unfold tk
  refine List.map_congr_left fun j hj => ?_
  exact fW_eq h1 h2 j (h j (by simpa using hj))
theorem area_lawW {ps : List (Int × Int)} {dx dy : Int} (h1 : 0 ≤ dx ∧ dx ≤ 50) (h2 : 0 ≤ dy ∧ dy ≤ 50) (hl : ps.length ≤ 8) (h : ∀ j, j < ps.length → pok (ps.getD j (0, 0)).1 (ps.getD j (0, 0)).2 = true ∧ pok (fW ps dx dy j).1 (fW ps dx dy j).2 = true) :
    area2 (tk (fR ps) ps.length) = - area2 ps ∧ area2 (tk (fW ps dx dy) ps.length) = area2 ps ∧ area2 (tk (fN ps) ps.length) = area2 ps := by
  rw [tkW_eq h1 h2 (fun j hj => (h j hj).1)]
  exact area_law dx dy hl (fun j hj => (h j hj).1) (fun j hj => by rw [← fW_eq h1 h2 j (h j hj).1]; exact (h j hj).2)
end Go.Proofs.YtldeknphfddlfaaGreatDoor
