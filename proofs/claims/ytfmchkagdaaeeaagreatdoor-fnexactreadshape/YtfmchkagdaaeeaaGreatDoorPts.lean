/- Lists of points in memory: what copies them, counts them and holds one list against another. -/
import Derived.Test.YtfmchkagdaaeeaaGreatDoorGeo
import Derived.Laws.MakeOwn
import Derived.Deep.MidRow
namespace Go.Proofs.YtfmchkagdaaeeaaGreatDoor
open Go.RowKit
set_option linter.unusedSimpArgs false
set_option linter.unusedVariables false
/-- A list of points in a block of its own, from its head on, that may be written. -/
def PtsOwn (w : World) (b : Nat) (ps : List (Int × Int)) : Prop := b < w.heap.size ∧ PtsAt w b 0 ps ∧ w.there b 0 (ps.length * 2)
theorem PtsOwn.pts {w : World} {b : Nat} {ps : List (Int × Int)} (h : PtsOwn w b ps) : Pts w (some ⟨b, 0, none⟩) ps := .inr ⟨b, 0, rfl, h.1, h.2.1⟩
theorem there_below {w w' : World} {b n : Nat} (h : w.there b 0 n) (hb : b < w.heap.size) (H : Below w.heap.size w w') : w'.there b 0 n := by
  intro j hj
  obtain ⟨h1, h2⟩ := h j hj
  exact ⟨by rw [H.cell hb]; exact h1, by rw [H.frozen hb]; exact h2⟩
theorem PtsOwn.below {w w' : World} {b : Nat} {ps : List (Int × Int)} (h : PtsOwn w b ps) (H : Below w.heap.size w w') : PtsOwn w' b ps :=
  ⟨Nat.lt_of_lt_of_le h.1 H.size, h.2.1.below h.1 H, there_below h.2.2 h.1 H⟩
theorem made_at (n j : Nat) (h : j < n * 2) : (madeCells #[.int .i64 0, .int .i64 0] (n * 2))[j]? = some (.int .i64 0) := by
  unfold madeCells
  rw [Array.getElem?_map, Array.getElem?_range, if_pos h]
  rcases Nat.mod_two_eq_zero_or_one j with e | e <;> simp [e]
/-- Two cells of a block are written: those of one point more. -/
theorem put_point {w : World} {b k n : Nat} {ps : List (Int × Int)} (hb : b < w.heap.size) (hk : k < ps.length) (hn : n = ps.length * 2) (h : PtsAt w b 0 (ps.take k)) (ht : w.there b 0 n) (x y : Int) (hx : (ps.getD k (0, 0)).1 = x) (hy : (ps.getD k (0, 0)).2 = y) :
    PtsAt ((w.setCell ⟨b, k * 2, none⟩ (.int .i64 x)).setCell ⟨b, k * 2 + 1, none⟩ (.int .i64 y)) b 0 (ps.take (k + 1)) ∧ ((w.setCell ⟨b, k * 2, none⟩ (.int .i64 x)).setCell ⟨b, k * 2 + 1, none⟩ (.int .i64 y)).there b 0 n := by
  subst hn
  have c0 := (ht (k * 2) (by omega)).1
  have c1 := (ht (k * 2 + 1) (by omega)).1
  obtain ⟨u0, hu0⟩ := Option.isSome_iff_exists.1 c0
  obtain ⟨u1, hu1⟩ := Option.isSome_iff_exists.1 c1
  simp only [Nat.zero_add] at hu0 hu1
  have hu1' : (w.setCell ⟨b, k * 2, none⟩ (.int .i64 x)).cell? ⟨b, k * 2 + 1, none⟩ = some u1 := by
    rw [World.cell?_setCell_other _ _ _ _ (by simp)]; exact hu1
  constructor
  · intro j hj
    simp only [List.length_take] at hj
    simp only [Nat.zero_add]
    by_cases e : j = k
    · subst e
      have g : (ps.take (j + 1)).getD j (0, 0) = ps.getD j (0, 0) := by
        simp [List.getD_eq_getElem?_getD, List.getElem?_take]
      rw [g, hx, hy]
      refine ⟨?_, World.cell?_setCell_same _ _ _ hu1'⟩
      rw [World.cell?_setCell_other _ _ _ _ (by simp)]
      exact World.cell?_setCell_same _ _ _ hu0
    · have hj' : j < k := by omega
      have g : (ps.take (k + 1)).getD j (0, 0) = (ps.take k).getD j (0, 0) := by
        simp only [List.getD_eq_getElem?_getD, List.getElem?_take]
        rw [if_pos (by omega), if_pos (by omega)]
      rw [g]
      obtain ⟨h1, h2⟩ := h j (by simp; omega)
      simp only [Nat.zero_add] at h1 h2
      constructor
      · rw [World.cell?_setCell_other _ _ _ _ (by intro q; injection q; omega), World.cell?_setCell_other _ _ _ _ (by intro q; injection q; omega)]; exact h1
      · rw [World.cell?_setCell_other _ _ _ _ (by intro q; injection q; omega), World.cell?_setCell_other _ _ _ _ (by intro q; injection q; omega)]; exact h2
  · intro j hj
    obtain ⟨h1, h2⟩ := ht j hj
    refine ⟨?_, by rw [World.frozen?_setCell, World.frozen?_setCell]; exact h2⟩
    obtain ⟨u, hu⟩ := Option.isSome_iff_exists.1 h1
    obtain ⟨u', hu'⟩ := cell?_setCell_some (p := ⟨b, k * 2, none⟩) (x := .int .i64 x) hu
    obtain ⟨u'', hu''⟩ := cell?_setCell_some (p := ⟨b, k * 2 + 1, none⟩) (x := .int .i64 y) hu'
    rw [hu'']; rfl
theorem Tryz.infoPt : (Tryz.prog.info? 41).map (fun i => (i.zero, i.size, i.bytes)) = some (some (.agg #[.int .i64 0, .int .i64 0]), 2, 16) := by kernel_rfl
theorem make_points (n : Nat) (hn : n ≤ 1099511627776) (w : World) : (Instr.makeSlice 22 (.int .i64 n) (.int .i64 n)).run Tryz.prog w = .ok (.slice (some ⟨w.heap.size, 0, none⟩) n n) (w.alloc (.cells (madeCells #[.int .i64 0, .int .i64 0] (n * 2)) 41)) := by
  obtain ⟨i0, hi, hz0, hz1, hz2⟩ := info_parts Tryz.infoPt
  have := run_make (P := Tryz.prog) w 22 41 i0 _ Tryz.underlying22 hi hz0 .i64 .i64 n n (by omega) (by omega) (by rw [hz2]; omega) (by omega)
  rw [hz1] at this
  exact this
theorem made_own (w : World) (n : Nat) : (w.alloc (.cells (madeCells #[.int .i64 0, .int .i64 0] (n * 2)) 41)).there w.heap.size 0 (n * 2) := by
  intro j hj
  simp only [Nat.zero_add]
  refine ⟨?_, World.frozen?_alloc_new w _ _ j⟩
  rw [World.cell?_alloc_new, made_at n j hj]; rfl
theorem eq_point (a b c d : Int) (w : World) : Calls Tryz.prog 26 #[.agg #[.int .i64 a, .int .i64 b], .agg #[.int .i64 c, .int .i64 d]] w fun e w' => e = .returned (.bool (a == c && b == d)) ∧ Below w.heap.size w w' := by
  by_cases h1 : a = c
  · subst h1
    by_cases h2 : b = d
    · subst h2
      go_enter Tryz.func26, Tryz.ntmps26
      go_wp2_with fail
      go_ret
      exact ⟨by simp, balloc (balloc (Below.refl _ _) _) _⟩
    · have h2' : (b != d) = true := by rw [bne_iff_ne]; exact h2
      go_enter Tryz.func26, Tryz.ntmps26
      go_wp2_with fail
      go_ret
      exact ⟨by simp [h2], balloc (balloc (Below.refl _ _) _) _⟩
  · have h1' : (a != c) = true := by rw [bne_iff_ne]; exact h1
    go_enter Tryz.func26, Tryz.ntmps26
    go_wp2_with fail
    go_ret
    exact ⟨by simp [h1], balloc (balloc (Below.refl _ _) _) _⟩
end Go.Proofs.YtfmchkagdaaeeaaGreatDoor
