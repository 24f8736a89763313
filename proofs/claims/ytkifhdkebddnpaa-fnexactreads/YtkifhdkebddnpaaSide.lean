/- Sides: of a ring, in memory, and whether they keep apart. -/
import Derived.Test.YtkifhdkebddnpaaShape2
namespace Go.Proofs.Ytkifhdkebddnpaa
open Go.RowKit
set_option linter.unusedSimpArgs false
set_option linter.unusedVariables false
/-- A side: from, to. -/
abbrev Sd : Type := Int × Int × Int × Int
def SdAt (w : World) (b off : Nat) (qs : List Sd) : Prop :=
  ∀ k, k < qs.length → w.cell? ⟨b, off + k * 4, none⟩ = some (.int .i64 (qs.getD k (0, 0, 0, 0)).1) ∧ w.cell? ⟨b, off + k * 4 + 1, none⟩ = some (.int .i64 (qs.getD k (0, 0, 0, 0)).2.1) ∧ w.cell? ⟨b, off + k * 4 + 2, none⟩ = some (.int .i64 (qs.getD k (0, 0, 0, 0)).2.2.1) ∧ w.cell? ⟨b, off + k * 4 + 3, none⟩ = some (.int .i64 (qs.getD k (0, 0, 0, 0)).2.2.2)
def SdIn (q : Sd) : Prop := In q.1 ∧ In q.2.1 ∧ In q.2.2.1 ∧ In q.2.2.2
theorem SdAt.below {w w' : World} {b off : Nat} {qs : List Sd} (h : SdAt w b off qs) (hb : b < w.heap.size) (H : Below w.heap.size w w') : SdAt w' b off qs := by
  intro k hk
  obtain ⟨h1, h2, h3, h4⟩ := h k hk
  exact ⟨by rw [H.cell hb]; exact h1, by rw [H.cell hb]; exact h2, by rw [H.cell hb]; exact h3, by rw [H.cell hb]; exact h4⟩
def meetq (p q : Sd) : Bool := smeet p.1 p.2.1 p.2.2.1 p.2.2.2 q.1 q.2.1 q.2.2.1 q.2.2.2
def foldq (p q : Sd) : Bool := onb q.2.2.1 q.2.2.2 p.1 p.2.1 p.2.2.1 p.2.2.2 || onb p.1 p.2.1 q.1 q.2.1 q.2.2.1 q.2.2.2
theorem made_at4 (n j : Nat) (h : j < n * 4) : (madeCells #[.int .i64 0, .int .i64 0, .int .i64 0, .int .i64 0] (n * 4))[j]? = some (.int .i64 0) := by
  unfold madeCells
  rw [Array.getElem?_map, Array.getElem?_range, if_pos h]
  have : j % 4 = 0 ∨ j % 4 = 1 ∨ j % 4 = 2 ∨ j % 4 = 3 := by omega
  rcases this with e | e | e | e <;> simp [e]
/-- Four cells of a block are written: those of one side more. -/
theorem put_side {w : World} {b k n : Nat} {qs : List Sd} (hk : k < qs.length) (hn : n = qs.length * 4) (h : SdAt w b 0 (qs.take k)) (ht : w.there b 0 n) (x y u v : Int) (hq : qs.getD k (0, 0, 0, 0) = (x, y, u, v)) :
    SdAt ((((w.setCell ⟨b, k * 4, none⟩ (.int .i64 x)).setCell ⟨b, k * 4 + 1, none⟩ (.int .i64 y)).setCell ⟨b, k * 4 + 2, none⟩ (.int .i64 u)).setCell ⟨b, k * 4 + 3, none⟩ (.int .i64 v)) b 0 (qs.take (k + 1)) ∧ ((((w.setCell ⟨b, k * 4, none⟩ (.int .i64 x)).setCell ⟨b, k * 4 + 1, none⟩ (.int .i64 y)).setCell ⟨b, k * 4 + 2, none⟩ (.int .i64 u)).setCell ⟨b, k * 4 + 3, none⟩ (.int .i64 v)).there b 0 n := by
  subst hn
  have e : (((w.setCell ⟨b, k * 4, none⟩ (.int .i64 x)).setCell ⟨b, k * 4 + 1, none⟩ (.int .i64 y)).setCell ⟨b, k * 4 + 2, none⟩ (.int .i64 u)).setCell ⟨b, k * 4 + 3, none⟩ (.int .i64 v) = w.setCells b (k * 4) [.int .i64 x, .int .i64 y, .int .i64 u, .int .i64 v] := rfl
  rw [e]
  have hth : w.there b (k * 4) 4 := by
    intro j hj
    have := ht (k * 4 + j) (by omega)
    rwa [Nat.zero_add] at this
  have hr := World.rangeAt_setCells_same w b (k * 4) [.int .i64 x, .int .i64 y, .int .i64 u, .int .i64 v] hth
  refine ⟨?_, World.there_setCells ht _ _ _⟩
  intro j hj
  simp only [List.length_take] at hj
  simp only [Nat.zero_add]
  by_cases ej : j = k
  · subst ej
    have g : (qs.take (j + 1)).getD j (0, 0, 0, 0) = (x, y, u, v) := by
      rw [← hq]; simp [List.getD_eq_getElem?_getD, List.getElem?_take]
    rw [g]
    exact ⟨by simpa using hr 0 _ rfl, hr 1 _ rfl, hr 2 _ rfl, hr 3 _ rfl⟩
  · have g : (qs.take (k + 1)).getD j (0, 0, 0, 0) = (qs.take k).getD j (0, 0, 0, 0) := by
      simp only [List.getD_eq_getElem?_getD, List.getElem?_take]
      rw [if_pos (by omega), if_pos (by omega)]
    rw [g]
    obtain ⟨h1, h2, h3, h4⟩ := h j (by simp; omega)
    simp only [Nat.zero_add] at h1 h2 h3 h4
    have far : ∀ i, i < 4 → (w.setCells b (k * 4) [.int .i64 x, .int .i64 y, .int .i64 u, .int .i64 v]).cell? ⟨b, j * 4 + i, none⟩ = w.cell? ⟨b, j * 4 + i, none⟩ := by
      intro i hi
      exact World.cell?_setCells_out b _ (k * 4) w ⟨b, j * 4 + i, none⟩ (fun _ _ => by left; show j * 4 + i < k * 4; omega)
    exact ⟨by have := far 0 (by omega); simp only [Nat.add_zero] at this; rw [this]; exact h1, by rw [far 1 (by omega)]; exact h2, by rw [far 2 (by omega)]; exact h3, by rw [far 3 (by omega)]; exact h4⟩
def ringSides (ps : List (Int × Int)) : List Sd := (List.range ps.length).map fun k => ((ps.getD k (0, 0)).1, (ps.getD k (0, 0)).2, (nxt ps k).1, (nxt ps k).2)
theorem ringSides_len (ps : List (Int × Int)) : (ringSides ps).length = ps.length := by simp [ringSides]
theorem ringSides_at (ps : List (Int × Int)) (k : Nat) (hk : k < ps.length) : (ringSides ps).getD k (0, 0, 0, 0) = ((ps.getD k (0, 0)).1, (ps.getD k (0, 0)).2, (nxt ps k).1, (nxt ps k).2) := by
  simp [ringSides, List.getD_eq_getElem?_getD, List.getElem?_map, List.getElem?_range hk]
end Go.Proofs.Ytkifhdkebddnpaa
