/- Texts of stores, joined: DrawP, DrawL. -/
import Derived.Test.YtfjmbbjcghopgaaGreatDoorJ1
import Derived.Test.YtfjmbbjcghopgaaGreatDoorJ3
import Derived.OwnWalk
import Derived.Deep.AppendLies
namespace Go.Proofs.YtfjmbbjcghopgaaGreatDoor
open Go.RowKit
set_option linter.unusedVariables false
theorem keepset3 {w : World} {p q : Addr} {v u : Value} (h : w.cell? p = some v) (hne : q.block ≠ p.block) : (w.setCell q u).cell? p = some v := by
  rw [World.cell?_setCell_far _ _ _ _ hne]; exact h
theorem cell2g {w : World} {p : Nat} {a b : Value} {t : TypeId} (h : w.heap[p]? = some (.cells #[a, b] t (0, 0))) : w.cell? ⟨p, 0, none⟩ = some a ∧ w.cell? ⟨p, 1, none⟩ = some b ∧ w.frozen? ⟨p, 0, none⟩ = false ∧ w.frozen? ⟨p, 1, none⟩ = false := by
  refine ⟨?_, ?_, ?_, ?_⟩ <;> simp [World.cell?, World.frozen?, h]
theorem CodeAt.set {w : World} {a : Option Addr} {len p : Nat} (h : CodeAt w a len p) {n k : Nat} (hn : p ≤ n) (u : Value) : CodeAt (w.setCell ⟨n, k, none⟩ u) a len p := by
  obtain ⟨hl, h⟩ := h
  refine ⟨hl, ?_⟩
  rcases h with h | ⟨b, off, rfl, hb, h⟩
  · exact .inl h
  · refine .inr ⟨b, off, rfl, hb, fun k hk => ?_⟩
    obtain ⟨z, z0, z1, hz⟩ := h k hk
    exact ⟨z, z0, z1, keepset3 hz (by simp; omega)⟩
theorem grown_blk {w w1 : World} {p n : Nat} {o : Obj} (h : w.grownBy w1 (some p)) (hb : w.heap[n]? = some o) (hne : n ≠ p) : w1.heap[n]? = some o :=
  (h.block n (lt_of_block hb) (by simp; omega)).trans hb
theorem bgrown {w a b : World} {p : Nat} (h : Below w.heap.size w a) (hg : a.grownBy b (some p)) (hp : w.heap.size ≤ p) : Below w.heap.size w b :=
  h.grown hg h.size (fun k hk => by simp at hk; omega)
theorem set2 {w1 : World} {B : Nat} {o0 o1 : Value} {t : TypeId} (gz : w1.heap[B]? = some (.cells #[o0, o1] t (0, 0))) (a b : Value) :
    ((w1.setCell ⟨B, 0, none⟩ a).setCell ⟨B, 1, none⟩ b).heap[B]? = some (.cells #[a, b] t (0, 0)) ∧ (∀ C o, C ≠ B → w1.heap[C]? = some o → ((w1.setCell ⟨B, 0, none⟩ a).setCell ⟨B, 1, none⟩ b).heap[C]? = some o) :=
  ⟨set_at (set_at gz), fun C o hC h => set_far (set_far h hC) hC⟩
end Go.Proofs.YtfjmbbjcghopgaaGreatDoor
namespace Go.Proofs.YtfjmbbjcghopgaaGreatDoor
open Go.RowKit
set_option linter.unusedVariables false
set_option linter.unusedSimpArgs false
theorem Tryz.infoP2 : (Tryz.prog.info? 86).map (fun i => (i.zero, i.size, i.bytes)) = some (some (.agg #[.int .i64 0, .int .i64 0]), 2, 16) := by kernel_rfl
def flat2 (qs : List (Int × Int)) : List Value := qs.flatMap fun q => [.int .i64 q.1, .int .i64 q.2]
theorem flat2_snoc (qs : List (Int × Int)) (x y : Int) : flat2 (qs ++ [(x, y)]) = flat2 qs ++ [.int .i64 x, .int .i64 y] := by simp [flat2]
theorem flat2_at (qs : List (Int × Int)) : ∀ k, k < qs.length → (flat2 qs)[k * 2]? = some (.int .i64 (qs.getD k (0, 0)).1) ∧ (flat2 qs)[k * 2 + 1]? = some (.int .i64 (qs.getD k (0, 0)).2) := by
  induction qs with
  | nil => intro k hk; simp at hk
  | cons q r ih =>
    intro k hk
    cases k with
    | zero => simp [flat2]
    | succ k =>
      have := ih k (by simpa using hk)
      simp only [flat2, List.flatMap_cons, List.getD_cons_succ] at this ⊢
      rw [show (k + 1) * 2 = k * 2 + 2 by omega]
      simpa [List.getElem?_append_right] using this
/-- A list of points in a block of its own. -/
def PtRow (w : World) (B : Nat) (v : Value) (ps : List (Int × Int)) : Prop := w.ownsRow B 86 2 v ps.length (flat2 ps)
theorem PtRow.pts {w : World} {B : Nat} {v : Value} {ps : List (Int × Int)} (h : PtRow w B v ps) : ∃ ao cap, v = .slice ao ps.length cap ∧ ps.length ≤ cap ∧ Pts w ao ps := by
  have h' := h
  rcases h.2 with ⟨rfl, hn⟩ | ⟨g, cap, cur, rfl, hb, hg, hc, _⟩
  · refine ⟨none, 0, by rw [hn], by omega, .inl (List.length_eq_zero_iff.1 hn)⟩
  · refine ⟨_, cap, rfl, hc, .inr ⟨g, 0, rfl, (Array.getElem?_eq_some_iff.1 hg).1, ?_⟩⟩
    intro k hk
    obtain ⟨f0, f1⟩ := flat2_at ps k hk
    have hcs := World.ownsRow.cells h' rfl
    have q0 := hcs _ _ f0
    have q1 := hcs _ _ f1
    rw [Addr.add_mid] at q0 q1
    exact ⟨q0, by rw [Nat.add_assoc]; exact q1⟩
end Go.Proofs.YtfjmbbjcghopgaaGreatDoor
