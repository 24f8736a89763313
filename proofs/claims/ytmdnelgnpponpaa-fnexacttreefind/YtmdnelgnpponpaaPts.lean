/- Lists of points in memory: what copies them, counts them and holds one list against another. -/
import Derived.Test.YtmdnelgnpponpaaGeo
import Derived.Laws.MakeOwn
import Derived.Deep.MidRow
namespace Go.Proofs.Ytmdnelgnpponpaa
open Go.RowKit
set_option linter.unusedSimpArgs false
set_option linter.unusedVariables false
/-- A list of points in a block of its own, from its head on, that may be written. -/
def PtsOwn (w : World) (b : Nat) (ps : List (Int × Int)) : Prop := b < w.heap.size ∧ PtsAt w b 0 ps ∧ w.there b 0 (ps.length * 2)
theorem PtsOwn.pts {w : World} {b : Nat} {ps : List (Int × Int)} (h : PtsOwn w b ps) : Pts w (some ⟨b, 0, none⟩) ps := .inr ⟨b, 0, rfl, h.1, h.2.1⟩
theorem there_below {w w' : World} {b n : Nat} (h : w.there b 0 n) (hb : b < w.heap.size) (H : Below w.heap.size w w') : w'.there b 0 n := by
  intro j hj
  obtain ⟨h1, h2⟩ := h j hj
  exact ⟨by rw [H.cell hb]; exact h1, by rw [H.frozen hb]; exact h2⟩
theorem PtsOwn.below {w w' : World} {b : Nat} {ps : List (Int × Int)} (h : PtsOwn w b ps) (H : Below w.heap.size w w') : PtsOwn w' b ps :=
  ⟨Nat.lt_of_lt_of_le h.1 H.size, h.2.1.below h.1 H, there_below h.2.2 h.1 H⟩
/-- A list of points that came in. -/
def PtsIn (w : World) (a : Option Addr) (cap : Nat) (ps : List (Int × Int)) : Prop := Pts w a ps ∧ ps.length ≤ cap ∧ cap ≤ 9223372036854775807
theorem ptsIn_nil (w : World) (a : Option Addr) : PtsIn w a 0 [] := ⟨.inl rfl, Nat.le_refl _, by omega⟩
theorem ptsIn_of {W : World} {a : Addr} {len cap : Nat} (hl : len ≤ cap) (hm : cap ≤ maxLen)
    (hall : ∀ j, j < len → ∃ z0 z1, W.cell? (a.add (j * 2)) = some (.int .i64 z0) ∧ W.cell? (a.add (j * 2 + 1)) = some (.int .i64 z1) ∧ (Lit.int .i64 z0).wf = true ∧ (Lit.int .i64 z1).wf = true) :
    ∃ ps : List (Int × Int), len = ps.length ∧ PtsIn W (some a) cap ps := by
  have hm' : cap ≤ 9223372036854775807 := by simpa [maxLen] using hm
  have hex : ∀ j, ∃ z : Int × Int, j < len → W.cell? (a.add (j * 2)) = some (.int .i64 z.1) ∧ W.cell? (a.add (j * 2 + 1)) = some (.int .i64 z.2) := by
    intro j
    by_cases hj : j < len
    · obtain ⟨z0, z1, h1, h2, _, _⟩ := hall j hj
      exact ⟨(z0, z1), fun _ => ⟨h1, h2⟩⟩
    · exact ⟨(0, 0), fun h => absurd h hj⟩
  obtain ⟨f, hf⟩ := Classical.axiomOfChoice hex
  refine ⟨(List.range len).map f, by simp, ?_, by simpa using hl, hm'⟩
  rcases Nat.eq_zero_or_pos len with h0 | h0
  · subst h0; exact .inl rfl
  have h00 := (hf 0 h0).1
  have hspot : a.spot = none := by
    simp only [Nat.zero_mul, Addr.add, if_true] at h00
    unfold World.cell? at h00
    split at h00
    · split at h00
      · cases h00
      · rename_i q; simpa using q
    · cases h00
  have ha : ∀ j, a.add j = ⟨a.block, a.off + j, none⟩ := by
    intro j
    obtain ⟨b, o, s⟩ := a
    simp only at hspot
    subst hspot
    exact Addr.add_mid b o j
  refine .inr ⟨a.block, a.off, by rw [← hspot], ?_, ?_⟩
  · have := World.block_lt_of_cell? W _ h00
    rw [ha] at this
    exact this
  · intro k hk
    simp only [List.length_map, List.length_range] at hk
    obtain ⟨h1, h2⟩ := hf k hk
    rw [ha] at h1 h2
    have g : ((List.range len).map f).getD k (0, 0) = f k := by
      simp [List.getD_eq_getElem?_getD, List.getElem?_map, List.getElem?_range hk]
    rw [g]
    exact ⟨h1, by rw [Nat.add_assoc]; exact h2⟩
theorem made_size (n : Nat) : (madeCells #[.int .i64 0, .int .i64 0] (n * 2)).size = n * 2 := size_madeCells _ _
theorem made_at (n j : Nat) (h : j < n * 2) : (madeCells #[.int .i64 0, .int .i64 0] (n * 2))[j]? = some (.int .i64 0) := by
  unfold madeCells
  rw [Array.getElem?_map, Array.getElem?_range, if_pos h]
  rcases Nat.mod_two_eq_zero_or_one j with e | e <;> simp [e]
/-- Two cells of a block are written: those of one point more. -/
theorem put_point {w : World} {b k n : Nat} {ps : List (Int × Int)} (hb : b < w.heap.size) (hk : k < ps.length) (hn : n = ps.length * 2) (h : PtsAt w b 0 (ps.take k)) (ht : w.there b 0 n) (x y : Int) (hx : (ps.getD k (0, 0)).1 = x) (hy : (ps.getD k (0, 0)).2 = y) :
    PtsAt ((w.setCell ⟨b, k * 2, none⟩ (.int .i64 x)).setCell ⟨b, k * 2 + 1, none⟩ (.int .i64 y)) b 0 (ps.take (k + 1)) ∧ ((w.setCell ⟨b, k * 2, none⟩ (.int .i64 x)).setCell ⟨b, k * 2 + 1, none⟩ (.int .i64 y)).there b 0 n := by
  subst hn
  have c0 := (ht (k * 2) (by omega)).1
  have c1 := (ht (k * 2 + 1) (by omega)).1
  obtain ⟨u0, hu0⟩ := Option.isSome_iff_exists.1 c0
  obtain ⟨u1, hu1⟩ := Option.isSome_iff_exists.1 c1
  simp only [Nat.zero_add] at hu0 hu1
  have hu1' : (w.setCell ⟨b, k * 2, none⟩ (.int .i64 x)).cell? ⟨b, k * 2 + 1, none⟩ = some u1 := by
    rw [World.cell?_setCell_other _ _ _ _ (by simp)]; exact hu1
  constructor
  · intro j hj
    simp only [List.length_take] at hj
    simp only [Nat.zero_add]
    by_cases e : j = k
    · subst e
      have g : (ps.take (j + 1)).getD j (0, 0) = ps.getD j (0, 0) := by
        simp [List.getD_eq_getElem?_getD, List.getElem?_take]
      rw [g, hx, hy]
      refine ⟨?_, World.cell?_setCell_same _ _ _ hu1'⟩
      rw [World.cell?_setCell_other _ _ _ _ (by simp)]
      exact World.cell?_setCell_same _ _ _ hu0
    · have hj' : j < k := by omega
      have g : (ps.take (k + 1)).getD j (0, 0) = (ps.take k).getD j (0, 0) := by
        simp only [List.getD_eq_getElem?_getD, List.getElem?_take]
        rw [if_pos (by omega), if_pos (by omega)]
      rw [g]
      obtain ⟨h1, h2⟩ := h j (by simp; omega)
      simp only [Nat.zero_add] at h1 h2
      constructor
      · rw [World.cell?_setCell_other _ _ _ _ (by intro q; injection q; omega), World.cell?_setCell_other _ _ _ _ (by intro q; injection q; omega)]; exact h1
      · rw [World.cell?_setCell_other _ _ _ _ (by intro q; injection q; omega), World.cell?_setCell_other _ _ _ _ (by intro q; injection q; omega)]; exact h2
  · intro j hj
    obtain ⟨h1, h2⟩ := ht j hj
    refine ⟨?_, by rw [World.frozen?_setCell, World.frozen?_setCell]; exact h2⟩
    obtain ⟨u, hu⟩ := Option.isSome_iff_exists.1 h1
    obtain ⟨u', hu'⟩ := cell?_setCell_some (p := ⟨b, k * 2, none⟩) (x := .int .i64 x) hu
    obtain ⟨u'', hu''⟩ := cell?_setCell_some (p := ⟨b, k * 2 + 1, none⟩) (x := .int .i64 y) hu'
    rw [hu'']; rfl
theorem Try.infoPt : (Try.prog.info? 86).map (fun i => (i.zero, i.size, i.bytes)) = some (some (.agg #[.int .i64 0, .int .i64 0]), 2, 16) := by kernel_rfl
theorem make_points (n : Nat) (hn : n ≤ 1099511627776) (w : World) : (Instr.makeSlice 90 (.int .i64 n) (.int .i64 n)).run Try.prog w = .ok (.slice (some ⟨w.heap.size, 0, none⟩) n n) (w.alloc (.cells (madeCells #[.int .i64 0, .int .i64 0] (n * 2)) 86)) := by
  obtain ⟨i0, hi, hz0, hz1, hz2⟩ := info_parts Try.infoPt
  have := run_make (P := Try.prog) w 90 86 i0 _ Try.underlying90 hi hz0 .i64 .i64 n n (by omega) (by omega) (by rw [hz2]; omega) (by omega)
  rw [hz1] at this
  exact this
theorem made_own (w : World) (n : Nat) : (w.alloc (.cells (madeCells #[.int .i64 0, .int .i64 0] (n * 2)) 86)).there w.heap.size 0 (n * 2) := by
  intro j hj
  simp only [Nat.zero_add]
  refine ⟨?_, World.frozen?_alloc_new w _ _ j⟩
  rw [World.cell?_alloc_new, made_at n j hj]; rfl
end Go.Proofs.Ytmdnelgnpponpaa
