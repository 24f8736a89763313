/- The square of a tile, and whether a side comes near a box: the landed program's. -/
import Derived.Test.YtmnnbifekbacnaaDoorTile2
import Derived.Test.YtmnnbifekbacnaaDoorTileG
import Derived.Test.YtmnnbifekbacnaaDoorGeo7
import Derived.BigQuiet
import Derived.Deep.QuietTactic
namespace Go.Proofs.YtmnnbifekbacnaaDoor
open Go.RowKit
set_option linter.unusedVariables false
set_option linter.unusedSimpArgs false
/-- A world that only grew since y. -/
def BF (y w : World) : Prop := Below y.heap.size y w
theorem BF.below {y w w' : World} (h : BF y w) (hb : Below w.heap.size w w') : BF y w' := btrans h hb
theorem BF.refl (y : World) : BF y y := Below.refl _ _
/-- The square of a tile, as far as the coordinates go. -/
def qa (l c r : Int) : Int := max (tbx l c r) (-30000)
def qb (l c r : Int) : Int := max (tby l c r) (-30000)
def qc (l c r : Int) : Int := min (tbu l c r) 30000
def qd (l c r : Int) : Int := min (tbv l c r) 30000
theorem max_ite (a b : Int) : (if a < b then b else a) = max a b := by split <;> omega
theorem min_ite (a b : Int) : (if b < a then b else a) = min a b := by split <;> omega
theorem cell2h {w : World} {p : Nat} {a b : Value} {t : TypeId} (h : w.heap[p]? = some (.cells #[a, b] t (0, 0))) : w.cell? ⟨p, 0, none⟩ = some a ∧ w.cell? ⟨p, 1, none⟩ = some b ∧ w.frozen? ⟨p, 0, none⟩ = false ∧ w.frozen? ⟨p, 1, none⟩ = false := by
  refine ⟨?_, ?_, ?_, ?_⟩ <;> simp [World.cell?, World.frozen?, h]
theorem set4h {w1 : World} {B : Nat} {o0 o1 o2 o3 : Value} {t : TypeId} (gz : w1.heap[B]? = some (.cells #[o0, o1, o2, o3] t (0, 0))) (a b c d : Value) :
    ((((w1.setCell ⟨B, 0, none⟩ a).setCell ⟨B, 1, none⟩ b).setCell ⟨B, 2, none⟩ c).setCell ⟨B, 3, none⟩ d).heap[B]? = some (.cells #[a, b, c, d] t (0, 0)) ∧ (∀ C o, C ≠ B → w1.heap[C]? = some o → ((((w1.setCell ⟨B, 0, none⟩ a).setCell ⟨B, 1, none⟩ b).setCell ⟨B, 2, none⟩ c).setCell ⟨B, 3, none⟩ d).heap[C]? = some o) :=
  ⟨set_at (set_at (set_at (set_at gz))), fun C o hC h => set_far (set_far (set_far (set_far h hC) hC) hC) hC⟩
theorem ptsBlk {w : World} {b : Nat} {x y : Int} (h : w.heap[b]? = some (.cells #[.int .i64 x, .int .i64 y] 55 (0, 0))) : Pts w (some ⟨b, 0, none⟩) [(x, y)] := by
  refine .inr ⟨b, 0, rfl, lt_of_block h, fun k hk => ?_⟩
  obtain ⟨c0, c1, _, _⟩ := cell2h h
  have : k = 0 := by simp at hk; omega
  subst this
  exact ⟨c0, c1⟩
theorem boxof1 (ux uy vx vy : Int) (b : Nat) (w : World) (h : w.heap[b]? = some (.cells #[.int .i64 vx, .int .i64 vy] 55 (0, 0))) : Calls Tryd.prog 53 #[.agg #[.int .i64 ux, .int .i64 uy], .slice (some ⟨b, 0, none⟩) 1 1] w fun e w' => e = .returned (.agg #[.int .i64 (min ux vx), .int .i64 (min uy vy), .int .i64 (max ux vx), .int .i64 (max uy vy)]) ∧ Below w.heap.size w w' :=
  impl_boxof ux uy (some ⟨b, 0, none⟩) 1 [(vx, vy)] w (by simp) (by simp) (ptsBlk h)
theorem lowB (a b c d : Int) (w : World) : Calls Tryd.prog 39 #[.agg #[.int .i64 a, .int .i64 b, .int .i64 c, .int .i64 d]] w fun e w' => e = .returned (.agg #[.int .i64 a, .int .i64 b]) ∧ Below w.heap.size w w' :=
  (impl_low a b c d w).mono fun e w' ⟨he, hw⟩ => ⟨he, by rw [hw]; exact balloc (balloc (Below.refl _ _) _) _⟩
theorem highB (a b c d : Int) (w : World) : Calls Tryd.prog 51 #[.agg #[.int .i64 a, .int .i64 b, .int .i64 c, .int .i64 d]] w fun e w' => e = .returned (.agg #[.int .i64 c, .int .i64 d]) ∧ Below w.heap.size w w' :=
  (impl_high a b c d w).mono fun e w' ⟨he, hw⟩ => ⟨he, by rw [hw]; exact balloc (balloc (Below.refl _ _) _) _⟩
set_option maxHeartbeats 1000000 in
theorem impl_square (l c r : Int) (w : World) (ht : Tab w) : Calls Tryd.prog 36 #[.agg #[.int .i64 l, .int .i64 c, .int .i64 r]] w fun e w' => e = .returned (.agg #[.int .i64 (qa l c r), .int .i64 (qb l c r), .int .i64 (qc l c r), .int .i64 (qd l c r)]) ∧ Below w.heap.size w w' := by
  have HT := hid ht
  clear ht
  have hB := Below.refl w.heap.size w
  have HX := hid (fun w' (h : Tab w') => impl_tilebox l c r w' h)
  unfold qa qb qc qd
  generalize tbx l c r = sx0 at *
  generalize tby l c r = sy0 at *
  generalize tbu l c r = sx1 at *
  generalize tbv l c r = sy1 at *
  go_enter Tryd.func36, Tryd.ntmps36
  go_wp2_with fail
  have gT := (old_alloc (o' := .cells #[.int .i64 0, .int .i64 0, .int .i64 0, .int .i64 0] 76) (new_alloc w (w.heap.size) (.cells #[.int .i64 l, .int .i64 c, .int .i64 r] 29) (by simp)))
  have gR := (new_alloc (w.alloc (.cells #[.int .i64 l, .int .i64 c, .int .i64 r] 29)) (w.heap.size + 1) (.cells #[.int .i64 0, .int .i64 0, .int .i64 0, .int .i64 0] 76) (by simp))
  have hal : Below w.heap.size w ((w.alloc (.cells #[.int .i64 l, .int .i64 c, .int .i64 r] 29)).alloc (.cells #[.int .i64 0, .int .i64 0, .int .i64 0, .int .i64 0] 76)) := (balloc (balloc (Below.refl _ _) (.cells #[.int .i64 l, .int .i64 c, .int .i64 r] 29)) (.cells #[.int .i64 0, .int .i64 0, .int .i64 0, .int .i64 0] 76))
  replace HT := hid (HT.out.below hal)
  replace hB := btrans hB hal
  clear hal
  generalize ((w.alloc (.cells #[.int .i64 l, .int .i64 c, .int .i64 r] 29)).alloc (.cells #[.int .i64 0, .int .i64 0, .int .i64 0, .int .i64 0] 76)) = yw1 at *
  have hRw : w.heap.size ≤ w.heap.size + 1 := by omega
  refine (HX.out _ HT.out).mono ?_
  rintro e yw2 ⟨rfl, hcl⟩
  replace gT := keepheap hcl gT
  replace gR := keepheap hcl gR
  replace HT := hid (HT.out.below hcl)
  replace hB := btrans hB hcl
  clear hcl
  obtain ⟨k1_0, k1_1, k1_2, _, _, _⟩ := cellT gT
  obtain ⟨k2_0, k2_1, k2_2, k2_3, _, _, _, _⟩ := cell4 gR
  by_cases hh0 : sx0 < -30000
  · skip
    by_cases hh1 : sy0 < -30000
    · skip
      by_cases hh2 : 30000 < sx1
      · skip
        by_cases hh3 : 30000 < sy1
        · skip
          go_wp2_with fail
          clear k1_0 k1_1 k1_2 k2_0 k2_1 k2_2 k2_3
          have gF := (set4h gR (.int .i64 (-30000)) (.int .i64 (-30000)) (.int .i64 (30000)) (.int .i64 (30000))).1
          have hF := (bset (k := 3) (q := w.heap.size + 1) (bset (k := 2) (q := w.heap.size + 1) (bset (k := 1) (q := w.heap.size + 1) (bset (k := 0) (q := w.heap.size + 1) hB hRw (.int .i64 (-30000))) hRw (.int .i64 (-30000))) hRw (.int .i64 (30000))) hRw (.int .i64 (30000)))
          generalize ((((yw2.setCell ⟨w.heap.size + 1, 0, none⟩ (.int .i64 (-30000))).setCell ⟨w.heap.size + 1, 1, none⟩ (.int .i64 (-30000))).setCell ⟨w.heap.size + 1, 2, none⟩ (.int .i64 (30000))).setCell ⟨w.heap.size + 1, 3, none⟩ (.int .i64 (30000))) = wf at gF hF ⊢
          obtain ⟨z0, z1, z2, z3, _, _, _, _⟩ := cell4 gF
          exact bodyPost_ret (v := .agg #[.int .i64 (-30000), .int .i64 (-30000), .int .i64 (30000), .int .i64 (30000)]) (by simp [results, Tryd.results36, go_sem, z0, z1, z2, z3]) rfl ⟨by rw [show max sx0 (-30000) = (-30000) by omega, show max sy0 (-30000) = (-30000) by omega, show min sx1 30000 = (30000) by omega, show min sy1 30000 = (30000) by omega], hF⟩
        · skip
          go_wp2_with fail
          clear k1_0 k1_1 k1_2 k2_0 k2_1 k2_2 k2_3
          have gF := (set4h gR (.int .i64 (-30000)) (.int .i64 (-30000)) (.int .i64 (30000)) (.int .i64 (sy1))).1
          have hF := (bset (k := 3) (q := w.heap.size + 1) (bset (k := 2) (q := w.heap.size + 1) (bset (k := 1) (q := w.heap.size + 1) (bset (k := 0) (q := w.heap.size + 1) hB hRw (.int .i64 (-30000))) hRw (.int .i64 (-30000))) hRw (.int .i64 (30000))) hRw (.int .i64 (sy1)))
          generalize ((((yw2.setCell ⟨w.heap.size + 1, 0, none⟩ (.int .i64 (-30000))).setCell ⟨w.heap.size + 1, 1, none⟩ (.int .i64 (-30000))).setCell ⟨w.heap.size + 1, 2, none⟩ (.int .i64 (30000))).setCell ⟨w.heap.size + 1, 3, none⟩ (.int .i64 (sy1))) = wf at gF hF ⊢
          obtain ⟨z0, z1, z2, z3, _, _, _, _⟩ := cell4 gF
          exact bodyPost_ret (v := .agg #[.int .i64 (-30000), .int .i64 (-30000), .int .i64 (30000), .int .i64 (sy1)]) (by simp [results, Tryd.results36, go_sem, z0, z1, z2, z3]) rfl ⟨by rw [show max sx0 (-30000) = (-30000) by omega, show max sy0 (-30000) = (-30000) by omega, show min sx1 30000 = (30000) by omega, show min sy1 30000 = (sy1) by omega], hF⟩
      · skip
        by_cases hh3 : 30000 < sy1
        · skip
          go_wp2_with fail
          clear k1_0 k1_1 k1_2 k2_0 k2_1 k2_2 k2_3
          have gF := (set4h gR (.int .i64 (-30000)) (.int .i64 (-30000)) (.int .i64 (sx1)) (.int .i64 (30000))).1
          have hF := (bset (k := 3) (q := w.heap.size + 1) (bset (k := 2) (q := w.heap.size + 1) (bset (k := 1) (q := w.heap.size + 1) (bset (k := 0) (q := w.heap.size + 1) hB hRw (.int .i64 (-30000))) hRw (.int .i64 (-30000))) hRw (.int .i64 (sx1))) hRw (.int .i64 (30000)))
          generalize ((((yw2.setCell ⟨w.heap.size + 1, 0, none⟩ (.int .i64 (-30000))).setCell ⟨w.heap.size + 1, 1, none⟩ (.int .i64 (-30000))).setCell ⟨w.heap.size + 1, 2, none⟩ (.int .i64 (sx1))).setCell ⟨w.heap.size + 1, 3, none⟩ (.int .i64 (30000))) = wf at gF hF ⊢
          obtain ⟨z0, z1, z2, z3, _, _, _, _⟩ := cell4 gF
          exact bodyPost_ret (v := .agg #[.int .i64 (-30000), .int .i64 (-30000), .int .i64 (sx1), .int .i64 (30000)]) (by simp [results, Tryd.results36, go_sem, z0, z1, z2, z3]) rfl ⟨by rw [show max sx0 (-30000) = (-30000) by omega, show max sy0 (-30000) = (-30000) by omega, show min sx1 30000 = (sx1) by omega, show min sy1 30000 = (30000) by omega], hF⟩
        · skip
          go_wp2_with fail
          clear k1_0 k1_1 k1_2 k2_0 k2_1 k2_2 k2_3
          have gF := (set4h gR (.int .i64 (-30000)) (.int .i64 (-30000)) (.int .i64 (sx1)) (.int .i64 (sy1))).1
          have hF := (bset (k := 3) (q := w.heap.size + 1) (bset (k := 2) (q := w.heap.size + 1) (bset (k := 1) (q := w.heap.size + 1) (bset (k := 0) (q := w.heap.size + 1) hB hRw (.int .i64 (-30000))) hRw (.int .i64 (-30000))) hRw (.int .i64 (sx1))) hRw (.int .i64 (sy1)))
          generalize ((((yw2.setCell ⟨w.heap.size + 1, 0, none⟩ (.int .i64 (-30000))).setCell ⟨w.heap.size + 1, 1, none⟩ (.int .i64 (-30000))).setCell ⟨w.heap.size + 1, 2, none⟩ (.int .i64 (sx1))).setCell ⟨w.heap.size + 1, 3, none⟩ (.int .i64 (sy1))) = wf at gF hF ⊢
          obtain ⟨z0, z1, z2, z3, _, _, _, _⟩ := cell4 gF
          exact bodyPost_ret (v := .agg #[.int .i64 (-30000), .int .i64 (-30000), .int .i64 (sx1), .int .i64 (sy1)]) (by simp [results, Tryd.results36, go_sem, z0, z1, z2, z3]) rfl ⟨by rw [show max sx0 (-30000) = (-30000) by omega, show max sy0 (-30000) = (-30000) by omega, show min sx1 30000 = (sx1) by omega, show min sy1 30000 = (sy1) by omega], hF⟩
    · skip
      by_cases hh2 : 30000 < sx1
      · skip
        by_cases hh3 : 30000 < sy1
        · skip
          go_wp2_with fail
          clear k1_0 k1_1 k1_2 k2_0 k2_1 k2_2 k2_3
          have gF := (set4h gR (.int .i64 (-30000)) (.int .i64 (sy0)) (.int .i64 (30000)) (.int .i64 (30000))).1
          have hF := (bset (k := 3) (q := w.heap.size + 1) (bset (k := 2) (q := w.heap.size + 1) (bset (k := 1) (q := w.heap.size + 1) (bset (k := 0) (q := w.heap.size + 1) hB hRw (.int .i64 (-30000))) hRw (.int .i64 (sy0))) hRw (.int .i64 (30000))) hRw (.int .i64 (30000)))
          generalize ((((yw2.setCell ⟨w.heap.size + 1, 0, none⟩ (.int .i64 (-30000))).setCell ⟨w.heap.size + 1, 1, none⟩ (.int .i64 (sy0))).setCell ⟨w.heap.size + 1, 2, none⟩ (.int .i64 (30000))).setCell ⟨w.heap.size + 1, 3, none⟩ (.int .i64 (30000))) = wf at gF hF ⊢
          obtain ⟨z0, z1, z2, z3, _, _, _, _⟩ := cell4 gF
          exact bodyPost_ret (v := .agg #[.int .i64 (-30000), .int .i64 (sy0), .int .i64 (30000), .int .i64 (30000)]) (by simp [results, Tryd.results36, go_sem, z0, z1, z2, z3]) rfl ⟨by rw [show max sx0 (-30000) = (-30000) by omega, show max sy0 (-30000) = (sy0) by omega, show min sx1 30000 = (30000) by omega, show min sy1 30000 = (30000) by omega], hF⟩
        · skip
          go_wp2_with fail
          clear k1_0 k1_1 k1_2 k2_0 k2_1 k2_2 k2_3
          have gF := (set4h gR (.int .i64 (-30000)) (.int .i64 (sy0)) (.int .i64 (30000)) (.int .i64 (sy1))).1
          have hF := (bset (k := 3) (q := w.heap.size + 1) (bset (k := 2) (q := w.heap.size + 1) (bset (k := 1) (q := w.heap.size + 1) (bset (k := 0) (q := w.heap.size + 1) hB hRw (.int .i64 (-30000))) hRw (.int .i64 (sy0))) hRw (.int .i64 (30000))) hRw (.int .i64 (sy1)))
          generalize ((((yw2.setCell ⟨w.heap.size + 1, 0, none⟩ (.int .i64 (-30000))).setCell ⟨w.heap.size + 1, 1, none⟩ (.int .i64 (sy0))).setCell ⟨w.heap.size + 1, 2, none⟩ (.int .i64 (30000))).setCell ⟨w.heap.size + 1, 3, none⟩ (.int .i64 (sy1))) = wf at gF hF ⊢
          obtain ⟨z0, z1, z2, z3, _, _, _, _⟩ := cell4 gF
          exact bodyPost_ret (v := .agg #[.int .i64 (-30000), .int .i64 (sy0), .int .i64 (30000), .int .i64 (sy1)]) (by simp [results, Tryd.results36, go_sem, z0, z1, z2, z3]) rfl ⟨by rw [show max sx0 (-30000) = (-30000) by omega, show max sy0 (-30000) = (sy0) by omega, show min sx1 30000 = (30000) by omega, show min sy1 30000 = (sy1) by omega], hF⟩
      · skip
        by_cases hh3 : 30000 < sy1
        · skip
          go_wp2_with fail
          clear k1_0 k1_1 k1_2 k2_0 k2_1 k2_2 k2_3
          have gF := (set4h gR (.int .i64 (-30000)) (.int .i64 (sy0)) (.int .i64 (sx1)) (.int .i64 (30000))).1
          have hF := (bset (k := 3) (q := w.heap.size + 1) (bset (k := 2) (q := w.heap.size + 1) (bset (k := 1) (q := w.heap.size + 1) (bset (k := 0) (q := w.heap.size + 1) hB hRw (.int .i64 (-30000))) hRw (.int .i64 (sy0))) hRw (.int .i64 (sx1))) hRw (.int .i64 (30000)))
          generalize ((((yw2.setCell ⟨w.heap.size + 1, 0, none⟩ (.int .i64 (-30000))).setCell ⟨w.heap.size + 1, 1, none⟩ (.int .i64 (sy0))).setCell ⟨w.heap.size + 1, 2, none⟩ (.int .i64 (sx1))).setCell ⟨w.heap.size + 1, 3, none⟩ (.int .i64 (30000))) = wf at gF hF ⊢
          obtain ⟨z0, z1, z2, z3, _, _, _, _⟩ := cell4 gF
          exact bodyPost_ret (v := .agg #[.int .i64 (-30000), .int .i64 (sy0), .int .i64 (sx1), .int .i64 (30000)]) (by simp [results, Tryd.results36, go_sem, z0, z1, z2, z3]) rfl ⟨by rw [show max sx0 (-30000) = (-30000) by omega, show max sy0 (-30000) = (sy0) by omega, show min sx1 30000 = (sx1) by omega, show min sy1 30000 = (30000) by omega], hF⟩
        · skip
          go_wp2_with fail
          clear k1_0 k1_1 k1_2 k2_0 k2_1 k2_2 k2_3
          have gF := (set4h gR (.int .i64 (-30000)) (.int .i64 (sy0)) (.int .i64 (sx1)) (.int .i64 (sy1))).1
          have hF := (bset (k := 3) (q := w.heap.size + 1) (bset (k := 2) (q := w.heap.size + 1) (bset (k := 1) (q := w.heap.size + 1) (bset (k := 0) (q := w.heap.size + 1) hB hRw (.int .i64 (-30000))) hRw (.int .i64 (sy0))) hRw (.int .i64 (sx1))) hRw (.int .i64 (sy1)))
          generalize ((((yw2.setCell ⟨w.heap.size + 1, 0, none⟩ (.int .i64 (-30000))).setCell ⟨w.heap.size + 1, 1, none⟩ (.int .i64 (sy0))).setCell ⟨w.heap.size + 1, 2, none⟩ (.int .i64 (sx1))).setCell ⟨w.heap.size + 1, 3, none⟩ (.int .i64 (sy1))) = wf at gF hF ⊢
          obtain ⟨z0, z1, z2, z3, _, _, _, _⟩ := cell4 gF
          exact bodyPost_ret (v := .agg #[.int .i64 (-30000), .int .i64 (sy0), .int .i64 (sx1), .int .i64 (sy1)]) (by simp [results, Tryd.results36, go_sem, z0, z1, z2, z3]) rfl ⟨by rw [show max sx0 (-30000) = (-30000) by omega, show max sy0 (-30000) = (sy0) by omega, show min sx1 30000 = (sx1) by omega, show min sy1 30000 = (sy1) by omega], hF⟩
  · skip
    by_cases hh1 : sy0 < -30000
    · skip
      by_cases hh2 : 30000 < sx1
      · skip
        by_cases hh3 : 30000 < sy1
        · skip
          go_wp2_with fail
          clear k1_0 k1_1 k1_2 k2_0 k2_1 k2_2 k2_3
          have gF := (set4h gR (.int .i64 (sx0)) (.int .i64 (-30000)) (.int .i64 (30000)) (.int .i64 (30000))).1
          have hF := (bset (k := 3) (q := w.heap.size + 1) (bset (k := 2) (q := w.heap.size + 1) (bset (k := 1) (q := w.heap.size + 1) (bset (k := 0) (q := w.heap.size + 1) hB hRw (.int .i64 (sx0))) hRw (.int .i64 (-30000))) hRw (.int .i64 (30000))) hRw (.int .i64 (30000)))
          generalize ((((yw2.setCell ⟨w.heap.size + 1, 0, none⟩ (.int .i64 (sx0))).setCell ⟨w.heap.size + 1, 1, none⟩ (.int .i64 (-30000))).setCell ⟨w.heap.size + 1, 2, none⟩ (.int .i64 (30000))).setCell ⟨w.heap.size + 1, 3, none⟩ (.int .i64 (30000))) = wf at gF hF ⊢
          obtain ⟨z0, z1, z2, z3, _, _, _, _⟩ := cell4 gF
          exact bodyPost_ret (v := .agg #[.int .i64 (sx0), .int .i64 (-30000), .int .i64 (30000), .int .i64 (30000)]) (by simp [results, Tryd.results36, go_sem, z0, z1, z2, z3]) rfl ⟨by rw [show max sx0 (-30000) = (sx0) by omega, show max sy0 (-30000) = (-30000) by omega, show min sx1 30000 = (30000) by omega, show min sy1 30000 = (30000) by omega], hF⟩
        · skip
          go_wp2_with fail
          clear k1_0 k1_1 k1_2 k2_0 k2_1 k2_2 k2_3
          have gF := (set4h gR (.int .i64 (sx0)) (.int .i64 (-30000)) (.int .i64 (30000)) (.int .i64 (sy1))).1
          have hF := (bset (k := 3) (q := w.heap.size + 1) (bset (k := 2) (q := w.heap.size + 1) (bset (k := 1) (q := w.heap.size + 1) (bset (k := 0) (q := w.heap.size + 1) hB hRw (.int .i64 (sx0))) hRw (.int .i64 (-30000))) hRw (.int .i64 (30000))) hRw (.int .i64 (sy1)))
          generalize ((((yw2.setCell ⟨w.heap.size + 1, 0, none⟩ (.int .i64 (sx0))).setCell ⟨w.heap.size + 1, 1, none⟩ (.int .i64 (-30000))).setCell ⟨w.heap.size + 1, 2, none⟩ (.int .i64 (30000))).setCell ⟨w.heap.size + 1, 3, none⟩ (.int .i64 (sy1))) = wf at gF hF ⊢
          obtain ⟨z0, z1, z2, z3, _, _, _, _⟩ := cell4 gF
          exact bodyPost_ret (v := .agg #[.int .i64 (sx0), .int .i64 (-30000), .int .i64 (30000), .int .i64 (sy1)]) (by simp [results, Tryd.results36, go_sem, z0, z1, z2, z3]) rfl ⟨by rw [show max sx0 (-30000) = (sx0) by omega, show max sy0 (-30000) = (-30000) by omega, show min sx1 30000 = (30000) by omega, show min sy1 30000 = (sy1) by omega], hF⟩
      · skip
        by_cases hh3 : 30000 < sy1
        · skip
          go_wp2_with fail
          clear k1_0 k1_1 k1_2 k2_0 k2_1 k2_2 k2_3
          have gF := (set4h gR (.int .i64 (sx0)) (.int .i64 (-30000)) (.int .i64 (sx1)) (.int .i64 (30000))).1
          have hF := (bset (k := 3) (q := w.heap.size + 1) (bset (k := 2) (q := w.heap.size + 1) (bset (k := 1) (q := w.heap.size + 1) (bset (k := 0) (q := w.heap.size + 1) hB hRw (.int .i64 (sx0))) hRw (.int .i64 (-30000))) hRw (.int .i64 (sx1))) hRw (.int .i64 (30000)))
          generalize ((((yw2.setCell ⟨w.heap.size + 1, 0, none⟩ (.int .i64 (sx0))).setCell ⟨w.heap.size + 1, 1, none⟩ (.int .i64 (-30000))).setCell ⟨w.heap.size + 1, 2, none⟩ (.int .i64 (sx1))).setCell ⟨w.heap.size + 1, 3, none⟩ (.int .i64 (30000))) = wf at gF hF ⊢
          obtain ⟨z0, z1, z2, z3, _, _, _, _⟩ := cell4 gF
          exact bodyPost_ret (v := .agg #[.int .i64 (sx0), .int .i64 (-30000), .int .i64 (sx1), .int .i64 (30000)]) (by simp [results, Tryd.results36, go_sem, z0, z1, z2, z3]) rfl ⟨by rw [show max sx0 (-30000) = (sx0) by omega, show max sy0 (-30000) = (-30000) by omega, show min sx1 30000 = (sx1) by omega, show min sy1 30000 = (30000) by omega], hF⟩
        · skip
          go_wp2_with fail
          clear k1_0 k1_1 k1_2 k2_0 k2_1 k2_2 k2_3
          have gF := (set4h gR (.int .i64 (sx0)) (.int .i64 (-30000)) (.int .i64 (sx1)) (.int .i64 (sy1))).1
          have hF := (bset (k := 3) (q := w.heap.size + 1) (bset (k := 2) (q := w.heap.size + 1) (bset (k := 1) (q := w.heap.size + 1) (bset (k := 0) (q := w.heap.size + 1) hB hRw (.int .i64 (sx0))) hRw (.int .i64 (-30000))) hRw (.int .i64 (sx1))) hRw (.int .i64 (sy1)))
          generalize ((((yw2.setCell ⟨w.heap.size + 1, 0, none⟩ (.int .i64 (sx0))).setCell ⟨w.heap.size + 1, 1, none⟩ (.int .i64 (-30000))).setCell ⟨w.heap.size + 1, 2, none⟩ (.int .i64 (sx1))).setCell ⟨w.heap.size + 1, 3, none⟩ (.int .i64 (sy1))) = wf at gF hF ⊢
          obtain ⟨z0, z1, z2, z3, _, _, _, _⟩ := cell4 gF
          exact bodyPost_ret (v := .agg #[.int .i64 (sx0), .int .i64 (-30000), .int .i64 (sx1), .int .i64 (sy1)]) (by simp [results, Tryd.results36, go_sem, z0, z1, z2, z3]) rfl ⟨by rw [show max sx0 (-30000) = (sx0) by omega, show max sy0 (-30000) = (-30000) by omega, show min sx1 30000 = (sx1) by omega, show min sy1 30000 = (sy1) by omega], hF⟩
    · skip
      by_cases hh2 : 30000 < sx1
      · skip
        by_cases hh3 : 30000 < sy1
        · skip
          go_wp2_with fail
          clear k1_0 k1_1 k1_2 k2_0 k2_1 k2_2 k2_3
          have gF := (set4h gR (.int .i64 (sx0)) (.int .i64 (sy0)) (.int .i64 (30000)) (.int .i64 (30000))).1
          have hF := (bset (k := 3) (q := w.heap.size + 1) (bset (k := 2) (q := w.heap.size + 1) (bset (k := 1) (q := w.heap.size + 1) (bset (k := 0) (q := w.heap.size + 1) hB hRw (.int .i64 (sx0))) hRw (.int .i64 (sy0))) hRw (.int .i64 (30000))) hRw (.int .i64 (30000)))
          generalize ((((yw2.setCell ⟨w.heap.size + 1, 0, none⟩ (.int .i64 (sx0))).setCell ⟨w.heap.size + 1, 1, none⟩ (.int .i64 (sy0))).setCell ⟨w.heap.size + 1, 2, none⟩ (.int .i64 (30000))).setCell ⟨w.heap.size + 1, 3, none⟩ (.int .i64 (30000))) = wf at gF hF ⊢
          obtain ⟨z0, z1, z2, z3, _, _, _, _⟩ := cell4 gF
          exact bodyPost_ret (v := .agg #[.int .i64 (sx0), .int .i64 (sy0), .int .i64 (30000), .int .i64 (30000)]) (by simp [results, Tryd.results36, go_sem, z0, z1, z2, z3]) rfl ⟨by rw [show max sx0 (-30000) = (sx0) by omega, show max sy0 (-30000) = (sy0) by omega, show min sx1 30000 = (30000) by omega, show min sy1 30000 = (30000) by omega], hF⟩
        · skip
          go_wp2_with fail
          clear k1_0 k1_1 k1_2 k2_0 k2_1 k2_2 k2_3
          have gF := (set4h gR (.int .i64 (sx0)) (.int .i64 (sy0)) (.int .i64 (30000)) (.int .i64 (sy1))).1
          have hF := (bset (k := 3) (q := w.heap.size + 1) (bset (k := 2) (q := w.heap.size + 1) (bset (k := 1) (q := w.heap.size + 1) (bset (k := 0) (q := w.heap.size + 1) hB hRw (.int .i64 (sx0))) hRw (.int .i64 (sy0))) hRw (.int .i64 (30000))) hRw (.int .i64 (sy1)))
          generalize ((((yw2.setCell ⟨w.heap.size + 1, 0, none⟩ (.int .i64 (sx0))).setCell ⟨w.heap.size + 1, 1, none⟩ (.int .i64 (sy0))).setCell ⟨w.heap.size + 1, 2, none⟩ (.int .i64 (30000))).setCell ⟨w.heap.size + 1, 3, none⟩ (.int .i64 (sy1))) = wf at gF hF ⊢
          obtain ⟨z0, z1, z2, z3, _, _, _, _⟩ := cell4 gF
          exact bodyPost_ret (v := .agg #[.int .i64 (sx0), .int .i64 (sy0), .int .i64 (30000), .int .i64 (sy1)]) (by simp [results, Tryd.results36, go_sem, z0, z1, z2, z3]) rfl ⟨by rw [show max sx0 (-30000) = (sx0) by omega, show max sy0 (-30000) = (sy0) by omega, show min sx1 30000 = (30000) by omega, show min sy1 30000 = (sy1) by omega], hF⟩
      · skip
        by_cases hh3 : 30000 < sy1
        · skip
          go_wp2_with fail
          clear k1_0 k1_1 k1_2 k2_0 k2_1 k2_2 k2_3
          have gF := (set4h gR (.int .i64 (sx0)) (.int .i64 (sy0)) (.int .i64 (sx1)) (.int .i64 (30000))).1
          have hF := (bset (k := 3) (q := w.heap.size + 1) (bset (k := 2) (q := w.heap.size + 1) (bset (k := 1) (q := w.heap.size + 1) (bset (k := 0) (q := w.heap.size + 1) hB hRw (.int .i64 (sx0))) hRw (.int .i64 (sy0))) hRw (.int .i64 (sx1))) hRw (.int .i64 (30000)))
          generalize ((((yw2.setCell ⟨w.heap.size + 1, 0, none⟩ (.int .i64 (sx0))).setCell ⟨w.heap.size + 1, 1, none⟩ (.int .i64 (sy0))).setCell ⟨w.heap.size + 1, 2, none⟩ (.int .i64 (sx1))).setCell ⟨w.heap.size + 1, 3, none⟩ (.int .i64 (30000))) = wf at gF hF ⊢
          obtain ⟨z0, z1, z2, z3, _, _, _, _⟩ := cell4 gF
          exact bodyPost_ret (v := .agg #[.int .i64 (sx0), .int .i64 (sy0), .int .i64 (sx1), .int .i64 (30000)]) (by simp [results, Tryd.results36, go_sem, z0, z1, z2, z3]) rfl ⟨by rw [show max sx0 (-30000) = (sx0) by omega, show max sy0 (-30000) = (sy0) by omega, show min sx1 30000 = (sx1) by omega, show min sy1 30000 = (30000) by omega], hF⟩
        · skip
          go_wp2_with fail
          clear k1_0 k1_1 k1_2 k2_0 k2_1 k2_2 k2_3
          have gF := (set4h gR (.int .i64 (sx0)) (.int .i64 (sy0)) (.int .i64 (sx1)) (.int .i64 (sy1))).1
          have hF := (bset (k := 3) (q := w.heap.size + 1) (bset (k := 2) (q := w.heap.size + 1) (bset (k := 1) (q := w.heap.size + 1) (bset (k := 0) (q := w.heap.size + 1) hB hRw (.int .i64 (sx0))) hRw (.int .i64 (sy0))) hRw (.int .i64 (sx1))) hRw (.int .i64 (sy1)))
          generalize ((((yw2.setCell ⟨w.heap.size + 1, 0, none⟩ (.int .i64 (sx0))).setCell ⟨w.heap.size + 1, 1, none⟩ (.int .i64 (sy0))).setCell ⟨w.heap.size + 1, 2, none⟩ (.int .i64 (sx1))).setCell ⟨w.heap.size + 1, 3, none⟩ (.int .i64 (sy1))) = wf at gF hF ⊢
          obtain ⟨z0, z1, z2, z3, _, _, _, _⟩ := cell4 gF
          exact bodyPost_ret (v := .agg #[.int .i64 (sx0), .int .i64 (sy0), .int .i64 (sx1), .int .i64 (sy1)]) (by simp [results, Tryd.results36, go_sem, z0, z1, z2, z3]) rfl ⟨by rw [show max sx0 (-30000) = (sx0) by omega, show max sy0 (-30000) = (sy0) by omega, show min sx1 30000 = (sx1) by omega, show min sy1 30000 = (sy1) by omega], hF⟩
theorem idx0 (a b c d e f g h : Value) (w : World) : (Instr.index 94 (.agg #[a, b, c, d, e, f, g, h]) (.int .i64 0)).run Tryd.prog w = .ok (.agg #[a, b]) w := by kernel_rfl
theorem idc0 (a b c d e f g h : Value) (w : World) : (Instr.index 94 (.agg #[a, b, c, d, e, f, g, h]) (.int .i64 ((0 : Nat) : Int))).run Tryd.prog w = .ok (.agg #[a, b]) w := by kernel_rfl
theorem idx1 (a b c d e f g h : Value) (w : World) : (Instr.index 94 (.agg #[a, b, c, d, e, f, g, h]) (.int .i64 1)).run Tryd.prog w = .ok (.agg #[c, d]) w := by kernel_rfl
theorem idc1 (a b c d e f g h : Value) (w : World) : (Instr.index 94 (.agg #[a, b, c, d, e, f, g, h]) (.int .i64 ((1 : Nat) : Int))).run Tryd.prog w = .ok (.agg #[c, d]) w := by kernel_rfl
theorem idx2 (a b c d e f g h : Value) (w : World) : (Instr.index 94 (.agg #[a, b, c, d, e, f, g, h]) (.int .i64 2)).run Tryd.prog w = .ok (.agg #[e, f]) w := by kernel_rfl
theorem idc2 (a b c d e f g h : Value) (w : World) : (Instr.index 94 (.agg #[a, b, c, d, e, f, g, h]) (.int .i64 ((2 : Nat) : Int))).run Tryd.prog w = .ok (.agg #[e, f]) w := by kernel_rfl
theorem idx3 (a b c d e f g h : Value) (w : World) : (Instr.index 94 (.agg #[a, b, c, d, e, f, g, h]) (.int .i64 3)).run Tryd.prog w = .ok (.agg #[g, h]) w := by kernel_rfl
theorem idc3 (a b c d e f g h : Value) (w : World) : (Instr.index 94 (.agg #[a, b, c, d, e, f, g, h]) (.int .i64 ((3 : Nat) : Int))).run Tryd.prog w = .ok (.agg #[g, h]) w := by kernel_rfl
/-- The least and the greatest of four turns, so far. -/
def lst (a b c d : Int) : Nat → Int
  | 0 => 1
  | 1 => min 1 a
  | 2 => min (min 1 a) b
  | 3 => min (min (min 1 a) b) c
  | _ => min (min (min (min 1 a) b) c) d
def mst (a b c d : Int) : Nat → Int
  | 0 => -1
  | 1 => max (-1) a
  | 2 => max (max (-1) a) b
  | 3 => max (max (max (-1) a) b) c
  | _ => max (max (max (max (-1) a) b) c) d
set_option maxRecDepth 100000 in
set_option maxHeartbeats 4000000 in
theorem impl_meetsBox (ux uy vx vy x0 y0 x1 y1 : Int) (w : World) (i0 : In ux) (i1 : In uy) (i2 : In vx) (i3 : In vy) (hb : bok x0 y0 x1 y1 = true) : Calls Tryd.prog 38 #[.agg #[.int .i64 ux, .int .i64 uy, .int .i64 vx, .int .i64 vy], .agg #[.int .i64 x0, .int .i64 y0, .int .i64 x1, .int .i64 y1]] w fun e w' => e = .returned (.bool (satq (ux, uy, vx, vy) x0 y0 x1 y1)) ∧ Below w.heap.size w w' := by
  have hB := Below.refl w.heap.size w
  have hbm : (bok (min ux vx) (min uy vy) (max ux vx) (max uy vy) && bok x0 y0 x1 y1 && meetb (min ux vx) (min uy vy) (max ux vx) (max uy vy) x0 y0 x1 y1) = meetb (min ux vx) (min uy vy) (max ux vx) (max uy vy) x0 y0 x1 y1 := by
    have h1 : bok (min ux vx) (min uy vy) (max ux vx) (max uy vy) = true := by
      unfold In at *
      simp only [bok, cok, Bool.and_eq_true, decide_eq_true_eq]
      omega
    rw [h1, hb]; rfl
  have MB := hid (fun w' => impl_BoxMeets (min ux vx) (min uy vy) (max ux vx) (max uy vy) x0 y0 x1 y1 w')
  rw [hbm] at MB
  have hbi : In x0 ∧ In y0 ∧ In x1 ∧ In y1 := by
    simp only [bok, cok, Bool.and_eq_true, decide_eq_true_eq] at hb
    unfold In; omega
  obtain ⟨j0, j1, j2, j3⟩ := hbi
  have U1 := hid (fun w' => impl_turn ux uy vx vy x0 y0 i0 i1 i2 i3 j0 j1 w')
  have U2 := hid (fun w' => impl_turn ux uy vx vy x1 y1 i0 i1 i2 i3 j2 j3 w')
  have U3 := hid (fun w' => impl_turn ux uy vx vy x0 y1 i0 i1 i2 i3 j0 j3 w')
  have U4 := hid (fun w' => impl_turn ux uy vx vy x1 y0 i0 i1 i2 i3 j2 j1 w')
  unfold satq
  dsimp only
  generalize sg (cr ux uy vx vy x0 y0) = t1 at *
  generalize sg (cr ux uy vx vy x1 y1) = t2 at *
  generalize sg (cr ux uy vx vy x0 y1) = t3 at *
  generalize sg (cr ux uy vx vy x1 y0) = t4 at *
  generalize meetb (min ux vx) (min uy vy) (max ux vx) (max uy vy) x0 y0 x1 y1 = mb at *
  clear hbm hb i0 i1 i2 i3 j0 j1 j2 j3
  go_enter Tryd.func38, Tryd.ntmps38
  go_wp2_with fail
  have gS := (old_alloc (o' := .cells #[.int .i64 x0, .int .i64 y0, .int .i64 x1, .int .i64 y1] 76) (new_alloc w (w.heap.size) (.cells #[.int .i64 ux, .int .i64 uy, .int .i64 vx, .int .i64 vy] 80) (by simp)))
  have gX := (new_alloc (w.alloc (.cells #[.int .i64 ux, .int .i64 uy, .int .i64 vx, .int .i64 vy] 80)) (w.heap.size + 1) (.cells #[.int .i64 x0, .int .i64 y0, .int .i64 x1, .int .i64 y1] 76) (by simp))
  have hal : Below w.heap.size w ((w.alloc (.cells #[.int .i64 ux, .int .i64 uy, .int .i64 vx, .int .i64 vy] 80)).alloc (.cells #[.int .i64 x0, .int .i64 y0, .int .i64 x1, .int .i64 y1] 76)) := (balloc (balloc (Below.refl _ _) (.cells #[.int .i64 ux, .int .i64 uy, .int .i64 vx, .int .i64 vy] 80)) (.cells #[.int .i64 x0, .int .i64 y0, .int .i64 x1, .int .i64 y1] 76))
  replace hB := btrans hB hal
  clear hal
  generalize ((w.alloc (.cells #[.int .i64 ux, .int .i64 uy, .int .i64 vx, .int .i64 vy] 80)).alloc (.cells #[.int .i64 x0, .int .i64 y0, .int .i64 x1, .int .i64 y1] 76)) = yw1 at *
  refine wp_region_held_drew (S := (fun w' => w'.heap[w.heap.size]? = some (.cells #[.int .i64 ux, .int .i64 uy, .int .i64 vx, .int .i64 vy] 80 (0, 0)) ∧ w'.heap[w.heap.size + 1]? = some (.cells #[.int .i64 x0, .int .i64 y0, .int .i64 x1, .int .i64 y1] 76 (0, 0)))) (by kernel_rfl) ?_ (fun hHeld => ?_)
  · exact ⟨gS, gX⟩
  replace gS : yw1.drew.heap[w.heap.size]? = some (.cells #[.int .i64 ux, .int .i64 uy, .int .i64 vx, .int .i64 vy] 80 (0, 0)) := gS
  replace gX : yw1.drew.heap[w.heap.size + 1]? = some (.cells #[.int .i64 x0, .int .i64 y0, .int .i64 x1, .int .i64 y1] 76 (0, 0)) := gX
  replace hB := bdrew hB
  generalize yw1.drew = yw2 at *
  refine wpAnyH_take (i := 0) (v := ?_) rfl (by kernel_rfl) (by kernel_rfl) (by kernel_rfl) (fun _ _ _ h => h) (Or.inl ⟨by rfl, ?_⟩) hHeld ?_
  rotate_left
  · intro w hSw; (try dsimp only at hSw); go_simp; try (with_reducible rfl)
  try simp only [sq]
  refine wpAnyH_take (i := 1) (v := ?_) rfl (by kernel_rfl) (by kernel_rfl) (by kernel_rfl) (fun _ _ _ h => h) (Or.inl ⟨by rfl, ?_⟩) hHeld ?_
  rotate_left
  · intro w hSw; (try dsimp only at hSw); obtain ⟨_, _, _, _, _, _, _, _⟩ := cell4 (hSw.1); obtain ⟨_, _, _, _, _, _, _, _⟩ := cell4 (hSw.2); go_simp; try (with_reducible rfl)
  try simp only [sq]
  refine wpAnyH_take (i := 2) (v := ?_) rfl (by kernel_rfl) (by kernel_rfl) (by kernel_rfl) (fun _ _ _ h => h) (Or.inl ⟨by rfl, ?_⟩) hHeld ?_
  rotate_left
  · intro w hSw; (try dsimp only at hSw); go_simp; try (with_reducible rfl)
  try simp only [sq]
  refine wpAnyH_take (i := 3) (v := ?_) rfl (by kernel_rfl) (by kernel_rfl) (by kernel_rfl) (fun _ _ _ h => h) (Or.inl ⟨by rfl, ?_⟩) hHeld ?_
  rotate_left
  · intro w hSw; (try dsimp only at hSw); obtain ⟨_, _, _, _, _, _, _, _⟩ := cell4 (hSw.1); obtain ⟨_, _, _, _, _, _, _, _⟩ := cell4 (hSw.2); go_simp; try (with_reducible rfl)
  try simp only [sq]
  refine wpAnyH_take (i := 6) (v := ?_) rfl (by kernel_rfl) (by kernel_rfl) (by kernel_rfl) (fun _ _ _ h => h) (Or.inl ⟨by rfl, ?_⟩) hHeld ?_
  rotate_left
  · intro w hSw; (try dsimp only at hSw); obtain ⟨_, _, _, _, _, _, _, _⟩ := cell4 (hSw.1); obtain ⟨_, _, _, _, _, _, _, _⟩ := cell4 (hSw.2); go_simp; try (with_reducible rfl)
  try simp only [sq]
  refine wpAnyH_ready (rs := [4]) (by kernel_rfl) (by simp) ?_
  refine AllReadyH.cons rfl (fun K hK => ?_) AllReadyH.nil
  try simp only [sq]
  go_simp
  refine hK.out _ _ ?_ (fun hHeld => ?_)
  · exact ⟨old_alloc gS, old_alloc gX⟩
  clear hK K
  try simp only [sq]
  replace gS := (old_alloc (o' := .cells #[.int .i64 vx, .int .i64 vy] 55) gS)
  replace gX := (old_alloc (o' := .cells #[.int .i64 vx, .int .i64 vy] 55) gX)
  have gP := (new_alloc yw2 (yw2.heap.size) (.cells #[.int .i64 vx, .int .i64 vy] 55) (by simp))
  have hal : Below yw2.heap.size yw2 (yw2.alloc (.cells #[.int .i64 vx, .int .i64 vy] 55)) := (balloc (Below.refl _ _) (.cells #[.int .i64 vx, .int .i64 vy] 55))
  replace hB := btrans hB hal
  clear hal
  generalize (yw2.alloc (.cells #[.int .i64 vx, .int .i64 vy] 55)) = yw3 at *
  generalize yw2.heap.size = P at *
  refine wpAnyH_ready (rs := [5]) (by kernel_rfl) (by simp) ?_
  refine AllReadyH.cons rfl (fun K hK => ?_) AllReadyH.nil
  try simp only [sq]
  go_simp
  go_at_call 53
  refine (boxof1 ux uy vx vy P _ gP).mono ?_
  rintro e yw4 ⟨rfl, hcl⟩
  replace gS := keepheap hcl gS
  replace gX := keepheap hcl gX
  replace gP := keepheap hcl gP
  replace hB := btrans hB hcl
  clear hcl
  go_wp2_with fail
  refine hK.out _ _ ?_ (fun hHeld => ?_)
  · exact ⟨gS, gX⟩
  clear hK K
  try simp only [sq]
  refine wpAnyH_ready (rs := [7]) (by kernel_rfl) (by simp) ?_
  refine AllReadyH.cons rfl (fun K hK => ?_) AllReadyH.nil
  try simp only [sq]
  go_simp
  go_at_call 52
  refine (MB.out _).mono ?_
  rintro e yw5 ⟨rfl, hcl⟩
  replace gS := keepheap hcl gS
  replace gX := keepheap hcl gX
  replace gP := keepheap hcl gP
  replace hB := btrans hB hcl
  clear hcl
  go_wp2_with fail
  refine hK.out _ _ ?_ (fun hHeld => ?_)
  · exact ⟨gS, gX⟩
  clear hK K
  try simp only [sq]
  refine wpAnyH_take (i := 8) (v := ?_) rfl (by kernel_rfl) (by kernel_rfl) (by kernel_rfl) (fun _ _ _ h => h) (Or.inl ⟨by rfl, ?_⟩) hHeld ?_
  rotate_left
  · intro w hSw; (try dsimp only at hSw); go_simp; try (with_reducible rfl)
  try simp only [sq]
  refine wpAnyH_done (by kernel_rfl) ?_ _
  clear hHeld
  clear gP MB
  cases mb
  · skip
    go_wp2_with fail
    go_ret
    exact ⟨rfl, hB⟩
  · skip
    obtain ⟨k1_0, k1_1, k1_2, k1_3, _, _, _, _⟩ := cell4 gS
    obtain ⟨k2_0, k2_1, k2_2, k2_3, _, _, _, _⟩ := cell4 gX
    go_wp2_with fail
    clear k1_0 k1_1 k1_2 k1_3 k2_0 k2_1 k2_2 k2_3
    refine wp_region_held_drew (S := (fun w' => w'.heap[w.heap.size]? = some (.cells #[.int .i64 ux, .int .i64 uy, .int .i64 vx, .int .i64 vy] 80 (0, 0)) ∧ w'.heap[w.heap.size + 1]? = some (.cells #[.int .i64 x0, .int .i64 y0, .int .i64 x1, .int .i64 y1] 76 (0, 0)))) (by kernel_rfl) ?_ (fun hHeld => ?_)
    · exact ⟨gS, gX⟩
    replace gS : yw5.drew.heap[w.heap.size]? = some (.cells #[.int .i64 ux, .int .i64 uy, .int .i64 vx, .int .i64 vy] 80 (0, 0)) := gS
    replace gX : yw5.drew.heap[w.heap.size + 1]? = some (.cells #[.int .i64 x0, .int .i64 y0, .int .i64 x1, .int .i64 y1] 76 (0, 0)) := gX
    replace hB := bdrew hB
    generalize yw5.drew = yw6 at *
    refine wpAnyH_take (i := 0) (v := ?_) rfl (by kernel_rfl) (by kernel_rfl) (by kernel_rfl) (fun _ _ _ h => h) (Or.inl ⟨by rfl, ?_⟩) hHeld ?_
    rotate_left
    · intro w hSw; (try dsimp only at hSw); obtain ⟨_, _, _, _, _, _, _, _⟩ := cell4 (hSw.1); obtain ⟨_, _, _, _, _, _, _, _⟩ := cell4 (hSw.2); go_simp; try (with_reducible rfl)
    try simp only [sq]
    refine wpAnyH_take (i := 2) (v := ?_) rfl (by kernel_rfl) (by kernel_rfl) (by kernel_rfl) (fun _ _ _ h => h) (Or.inl ⟨by rfl, ?_⟩) hHeld ?_
    rotate_left
    · intro w hSw; (try dsimp only at hSw); obtain ⟨_, _, _, _, _, _, _, _⟩ := cell4 (hSw.1); obtain ⟨_, _, _, _, _, _, _, _⟩ := cell4 (hSw.2); go_simp; try (with_reducible rfl)
    try simp only [sq]
    refine wpAnyH_take (i := 4) (v := ?_) rfl (by kernel_rfl) (by kernel_rfl) (by kernel_rfl) (fun _ _ _ h => h) (Or.inl ⟨by rfl, ?_⟩) hHeld ?_
    rotate_left
    · intro w hSw; (try dsimp only at hSw); go_simp; try (with_reducible rfl)
    try simp only [sq]
    refine wpAnyH_take (i := 5) (v := ?_) rfl (by kernel_rfl) (by kernel_rfl) (by kernel_rfl) (fun _ _ _ h => h) (Or.inl ⟨by rfl, ?_⟩) hHeld ?_
    rotate_left
    · intro w hSw; (try dsimp only at hSw); obtain ⟨_, _, _, _, _, _, _, _⟩ := cell4 (hSw.1); obtain ⟨_, _, _, _, _, _, _, _⟩ := cell4 (hSw.2); go_simp; try (with_reducible rfl)
    try simp only [sq]
    refine wpAnyH_take (i := 6) (v := ?_) rfl (by kernel_rfl) (by kernel_rfl) (by kernel_rfl) (fun _ _ _ h => h) (Or.inl ⟨by rfl, ?_⟩) hHeld ?_
    rotate_left
    · intro w hSw; (try dsimp only at hSw); go_simp; try (with_reducible rfl)
    try simp only [sq]
    refine wpAnyH_take (i := 7) (v := ?_) rfl (by kernel_rfl) (by kernel_rfl) (by kernel_rfl) (fun _ _ _ h => h) (Or.inl ⟨by rfl, ?_⟩) hHeld ?_
    rotate_left
    · intro w hSw; (try dsimp only at hSw); obtain ⟨_, _, _, _, _, _, _, _⟩ := cell4 (hSw.1); obtain ⟨_, _, _, _, _, _, _, _⟩ := cell4 (hSw.2); go_simp; try (with_reducible rfl)
    try simp only [sq]
    refine wpAnyH_take (i := 8) (v := ?_) rfl (by kernel_rfl) (by kernel_rfl) (by kernel_rfl) (fun _ _ _ h => h) (Or.inl ⟨by rfl, ?_⟩) hHeld ?_
    rotate_left
    · intro w hSw; (try dsimp only at hSw); go_simp; try (with_reducible rfl)
    try simp only [sq]
    refine wpAnyH_take (i := 9) (v := ?_) rfl (by kernel_rfl) (by kernel_rfl) (by kernel_rfl) (fun _ _ _ h => h) (Or.inl ⟨by rfl, ?_⟩) hHeld ?_
    rotate_left
    · intro w hSw; (try dsimp only at hSw); go_simp; try (with_reducible rfl)
    try simp only [sq]
    refine wpAnyH_take (i := 10) (v := ?_) rfl (by kernel_rfl) (by kernel_rfl) (by kernel_rfl) (fun _ _ _ h => h) (Or.inl ⟨by rfl, ?_⟩) hHeld ?_
    rotate_left
    · intro w hSw; (try dsimp only at hSw); obtain ⟨_, _, _, _, _, _, _, _⟩ := cell4 (hSw.1); obtain ⟨_, _, _, _, _, _, _, _⟩ := cell4 (hSw.2); go_simp; try (with_reducible rfl)
    try simp only [sq]
    refine wpAnyH_take (i := 11) (v := ?_) rfl (by kernel_rfl) (by kernel_rfl) (by kernel_rfl) (fun _ _ _ h => h) (Or.inl ⟨by rfl, ?_⟩) hHeld ?_
    rotate_left
    · intro w hSw; (try dsimp only at hSw); go_simp; try (with_reducible rfl)
    try simp only [sq]
    refine wpAnyH_take (i := 12) (v := ?_) rfl (by kernel_rfl) (by kernel_rfl) (by kernel_rfl) (fun _ _ _ h => h) (Or.inl ⟨by rfl, ?_⟩) hHeld ?_
    rotate_left
    · intro w hSw; (try dsimp only at hSw); obtain ⟨_, _, _, _, _, _, _, _⟩ := cell4 (hSw.1); obtain ⟨_, _, _, _, _, _, _, _⟩ := cell4 (hSw.2); go_simp; try (with_reducible rfl)
    try simp only [sq]
    refine wpAnyH_take (i := 13) (v := ?_) rfl (by kernel_rfl) (by kernel_rfl) (by kernel_rfl) (fun _ _ _ h => h) (Or.inl ⟨by rfl, ?_⟩) hHeld ?_
    rotate_left
    · intro w hSw; (try dsimp only at hSw); go_simp; try (with_reducible rfl)
    try simp only [sq]
    refine wpAnyH_take (i := 15) (v := ?_) rfl (by kernel_rfl) (by kernel_rfl) (by kernel_rfl) (fun _ _ _ h => h) (Or.inl ⟨by rfl, ?_⟩) hHeld ?_
    rotate_left
    · intro w hSw; (try dsimp only at hSw); go_simp; try (with_reducible rfl)
    try simp only [sq]
    refine wpAnyH_ready (rs := [1]) (by kernel_rfl) (by simp) ?_
    refine AllReadyH.cons rfl (fun K hK => ?_) AllReadyH.nil
    try simp only [sq]
    go_simp
    go_at_call 39
    refine (lowB x0 y0 x1 y1 _).mono ?_
    rintro e yw7 ⟨rfl, hcl⟩
    replace gS := keepheap hcl gS
    replace gX := keepheap hcl gX
    replace hB := btrans hB hcl
    clear hcl
    go_wp2_with fail
    refine hK.out _ _ ?_ (fun hHeld => ?_)
    · exact ⟨gS, gX⟩
    clear hK K
    try simp only [sq]
    refine wpAnyH_ready (rs := [3]) (by kernel_rfl) (by simp) ?_
    refine AllReadyH.cons rfl (fun K hK => ?_) AllReadyH.nil
    try simp only [sq]
    go_simp
    go_at_call 51
    refine (highB x0 y0 x1 y1 _).mono ?_
    rintro e yw8 ⟨rfl, hcl⟩
    replace gS := keepheap hcl gS
    replace gX := keepheap hcl gX
    replace hB := btrans hB hcl
    clear hcl
    go_wp2_with fail
    refine hK.out _ _ ?_ (fun hHeld => ?_)
    · exact ⟨gS, gX⟩
    clear hK K
    try simp only [sq]
    refine wpAnyH_take (i := 14) (v := ?_) rfl (by kernel_rfl) (by kernel_rfl) (by kernel_rfl) (fun _ _ _ h => h) (Or.inl ⟨by rfl, ?_⟩) hHeld ?_
    rotate_left
    · intro w hSw; (try dsimp only at hSw); go_simp; try (with_reducible rfl)
    try simp only [sq]
    refine wpAnyH_done (by kernel_rfl) ?_ _
    clear hHeld
    go_wp2_with fail
    go_loopw [5, 6, 34] (fun ta tb ti wr => ∃ i : Nat, ti = .int .i64 i ∧ i ≤ 4 ∧ ta = .int .i64 (lst t1 t2 t3 t4 i) ∧ tb = .int .i64 (mst t1 t2 t3 t4 i) ∧ Hid (BF yw8 wr)) (fun _ _ ti _ => 4 - (intOf ti).toNat)
    case atStart => exact ⟨0, rfl, by omega, rfl, rfl, hid (BF.refl _)⟩
    case round =>
      obtain ⟨i, rfl, hi, rfl, rfl, HL⟩ := hrel
      have hcl := HL.out
      unfold BF at hcl
      replace gS := keepheap hcl gS
      replace gX := keepheap hcl gX
      replace hB := btrans hB hcl
      clear hcl
      rcases (show i = 0 ∨ i = 1 ∨ i = 2 ∨ i = 3 ∨ i = 4 by omega) with hh | hh | hh | hh | hh <;> subst hh
      · skip
        simp only [lst, mst]
        have ix1 := fun w' => idx0 (.int .i64 x0) (.int .i64 y0) (.int .i64 x1) (.int .i64 y1) (.int .i64 x0) (.int .i64 y1) (.int .i64 x1) (.int .i64 y0) w'
        have ix2 := fun w' => idc0 (.int .i64 x0) (.int .i64 y0) (.int .i64 x1) (.int .i64 y1) (.int .i64 x0) (.int .i64 y1) (.int .i64 x1) (.int .i64 y0) w'
        obtain ⟨k3_0, k3_1, k3_2, k3_3, _, _, _, _⟩ := cell4 gS
        obtain ⟨k4_0, k4_1, k4_2, k4_3, _, _, _, _⟩ := cell4 gX
        have ak3_0 := (keepalloc k3_0 (.cells #[.int .i64 x0, .int .i64 y0] 55))
        have ak3_1 := (keepalloc k3_1 (.cells #[.int .i64 x0, .int .i64 y0] 55))
        have ak3_2 := (keepalloc k3_2 (.cells #[.int .i64 x0, .int .i64 y0] 55))
        have ak3_3 := (keepalloc k3_3 (.cells #[.int .i64 x0, .int .i64 y0] 55))
        have ak4_0 := (keepalloc k4_0 (.cells #[.int .i64 x0, .int .i64 y0] 55))
        have ak4_1 := (keepalloc k4_1 (.cells #[.int .i64 x0, .int .i64 y0] 55))
        have ak4_2 := (keepalloc k4_2 (.cells #[.int .i64 x0, .int .i64 y0] 55))
        have ak4_3 := (keepalloc k4_3 (.cells #[.int .i64 x0, .int .i64 y0] 55))
        go_wp2_with fail
        clear ix1 ix2
        clear k3_0 k3_1 k3_2 k3_3 k4_0 k4_1 k4_2 k4_3 ak3_0 ak3_1 ak3_2 ak3_3 ak4_0 ak4_1 ak4_2 ak4_3
        replace gS := (old_alloc (o' := .cells #[.int .i64 x0, .int .i64 y0] 55) gS)
        replace gX := (old_alloc (o' := .cells #[.int .i64 x0, .int .i64 y0] 55) gX)
        have gC := (new_alloc wr (wr.heap.size) (.cells #[.int .i64 x0, .int .i64 y0] 55) (by simp))
        have hal : Below wr.heap.size wr (wr.alloc (.cells #[.int .i64 x0, .int .i64 y0] 55)) := (balloc (Below.refl _ _) (.cells #[.int .i64 x0, .int .i64 y0] 55))
        replace HL := hid (HL.out.below hal)
        replace hB := btrans hB hal
        clear hal
        generalize (wr.alloc (.cells #[.int .i64 x0, .int .i64 y0] 55)) = yw9 at *
        generalize wr.heap.size = C at *
        refine (U1.out _).mono ?_
        rintro e yw10 ⟨rfl, hcl⟩
        replace gS := keepheap hcl gS
        replace gX := keepheap hcl gX
        replace gC := keepheap hcl gC
        replace HL := hid (HL.out.below hcl)
        replace hB := btrans hB hcl
        clear hcl
        obtain ⟨k5_0, k5_1, k5_2, k5_3, _, _, _, _⟩ := cell4 gS
        obtain ⟨k6_0, k6_1, k6_2, k6_3, _, _, _, _⟩ := cell4 gX
        obtain ⟨k7_0, k7_1, _, _⟩ := cell2h gC
        generalize hla : (1 : Int) = la
        generalize hma : (-1 : Int) = ma
        have HLA := hid hla
        have HMA := hid hma
        clear hla hma
        by_cases ca : t1 < la
        · skip
          by_cases cb : ma < t1
          · skip
            go_wp2_with fail
            clear k5_0 k5_1 k5_2 k5_3 k6_0 k6_1 k6_2 k6_3 k7_0 k7_1
            go_roundw
            case rel =>
              have q1 := HLA.out
              have q2 := HMA.out
              exact ⟨1, rfl, by omega, by simp only [lst]; congr 1; omega, by simp only [mst]; congr 1; omega, HL⟩
            case measure => simp [intOf]
          · skip
            go_wp2_with fail
            clear k5_0 k5_1 k5_2 k5_3 k6_0 k6_1 k6_2 k6_3 k7_0 k7_1
            go_roundw
            case rel =>
              have q1 := HLA.out
              have q2 := HMA.out
              exact ⟨1, rfl, by omega, by simp only [lst]; congr 1; omega, by simp only [mst]; congr 1; omega, HL⟩
            case measure => simp [intOf]
        · skip
          by_cases cb : ma < t1
          · skip
            go_wp2_with fail
            clear k5_0 k5_1 k5_2 k5_3 k6_0 k6_1 k6_2 k6_3 k7_0 k7_1
            go_roundw
            case rel =>
              have q1 := HLA.out
              have q2 := HMA.out
              exact ⟨1, rfl, by omega, by simp only [lst]; congr 1; omega, by simp only [mst]; congr 1; omega, HL⟩
            case measure => simp [intOf]
          · skip
            go_wp2_with fail
            clear k5_0 k5_1 k5_2 k5_3 k6_0 k6_1 k6_2 k6_3 k7_0 k7_1
            go_roundw
            case rel =>
              have q1 := HLA.out
              have q2 := HMA.out
              exact ⟨1, rfl, by omega, by simp only [lst]; congr 1; omega, by simp only [mst]; congr 1; omega, HL⟩
            case measure => simp [intOf]
      · skip
        simp only [lst, mst]
        have ix1 := fun w' => idx1 (.int .i64 x0) (.int .i64 y0) (.int .i64 x1) (.int .i64 y1) (.int .i64 x0) (.int .i64 y1) (.int .i64 x1) (.int .i64 y0) w'
        have ix2 := fun w' => idc1 (.int .i64 x0) (.int .i64 y0) (.int .i64 x1) (.int .i64 y1) (.int .i64 x0) (.int .i64 y1) (.int .i64 x1) (.int .i64 y0) w'
        obtain ⟨k3_0, k3_1, k3_2, k3_3, _, _, _, _⟩ := cell4 gS
        obtain ⟨k4_0, k4_1, k4_2, k4_3, _, _, _, _⟩ := cell4 gX
        have ak3_0 := (keepalloc k3_0 (.cells #[.int .i64 x1, .int .i64 y1] 55))
        have ak3_1 := (keepalloc k3_1 (.cells #[.int .i64 x1, .int .i64 y1] 55))
        have ak3_2 := (keepalloc k3_2 (.cells #[.int .i64 x1, .int .i64 y1] 55))
        have ak3_3 := (keepalloc k3_3 (.cells #[.int .i64 x1, .int .i64 y1] 55))
        have ak4_0 := (keepalloc k4_0 (.cells #[.int .i64 x1, .int .i64 y1] 55))
        have ak4_1 := (keepalloc k4_1 (.cells #[.int .i64 x1, .int .i64 y1] 55))
        have ak4_2 := (keepalloc k4_2 (.cells #[.int .i64 x1, .int .i64 y1] 55))
        have ak4_3 := (keepalloc k4_3 (.cells #[.int .i64 x1, .int .i64 y1] 55))
        go_wp2_with fail
        clear ix1 ix2
        clear k3_0 k3_1 k3_2 k3_3 k4_0 k4_1 k4_2 k4_3 ak3_0 ak3_1 ak3_2 ak3_3 ak4_0 ak4_1 ak4_2 ak4_3
        replace gS := (old_alloc (o' := .cells #[.int .i64 x1, .int .i64 y1] 55) gS)
        replace gX := (old_alloc (o' := .cells #[.int .i64 x1, .int .i64 y1] 55) gX)
        have gC := (new_alloc wr (wr.heap.size) (.cells #[.int .i64 x1, .int .i64 y1] 55) (by simp))
        have hal : Below wr.heap.size wr (wr.alloc (.cells #[.int .i64 x1, .int .i64 y1] 55)) := (balloc (Below.refl _ _) (.cells #[.int .i64 x1, .int .i64 y1] 55))
        replace HL := hid (HL.out.below hal)
        replace hB := btrans hB hal
        clear hal
        generalize (wr.alloc (.cells #[.int .i64 x1, .int .i64 y1] 55)) = yw9 at *
        generalize wr.heap.size = C at *
        refine (U2.out _).mono ?_
        rintro e yw10 ⟨rfl, hcl⟩
        replace gS := keepheap hcl gS
        replace gX := keepheap hcl gX
        replace gC := keepheap hcl gC
        replace HL := hid (HL.out.below hcl)
        replace hB := btrans hB hcl
        clear hcl
        obtain ⟨k5_0, k5_1, k5_2, k5_3, _, _, _, _⟩ := cell4 gS
        obtain ⟨k6_0, k6_1, k6_2, k6_3, _, _, _, _⟩ := cell4 gX
        obtain ⟨k7_0, k7_1, _, _⟩ := cell2h gC
        generalize hla : (min 1 t1 : Int) = la
        generalize hma : (max (-1) t1 : Int) = ma
        have HLA := hid hla
        have HMA := hid hma
        clear hla hma
        by_cases ca : t2 < la
        · skip
          by_cases cb : ma < t2
          · skip
            go_wp2_with fail
            clear k5_0 k5_1 k5_2 k5_3 k6_0 k6_1 k6_2 k6_3 k7_0 k7_1
            go_roundw
            case rel =>
              have q1 := HLA.out
              have q2 := HMA.out
              exact ⟨2, rfl, by omega, by simp only [lst]; congr 1; omega, by simp only [mst]; congr 1; omega, HL⟩
            case measure => simp [intOf]
          · skip
            go_wp2_with fail
            clear k5_0 k5_1 k5_2 k5_3 k6_0 k6_1 k6_2 k6_3 k7_0 k7_1
            go_roundw
            case rel =>
              have q1 := HLA.out
              have q2 := HMA.out
              exact ⟨2, rfl, by omega, by simp only [lst]; congr 1; omega, by simp only [mst]; congr 1; omega, HL⟩
            case measure => simp [intOf]
        · skip
          by_cases cb : ma < t2
          · skip
            go_wp2_with fail
            clear k5_0 k5_1 k5_2 k5_3 k6_0 k6_1 k6_2 k6_3 k7_0 k7_1
            go_roundw
            case rel =>
              have q1 := HLA.out
              have q2 := HMA.out
              exact ⟨2, rfl, by omega, by simp only [lst]; congr 1; omega, by simp only [mst]; congr 1; omega, HL⟩
            case measure => simp [intOf]
          · skip
            go_wp2_with fail
            clear k5_0 k5_1 k5_2 k5_3 k6_0 k6_1 k6_2 k6_3 k7_0 k7_1
            go_roundw
            case rel =>
              have q1 := HLA.out
              have q2 := HMA.out
              exact ⟨2, rfl, by omega, by simp only [lst]; congr 1; omega, by simp only [mst]; congr 1; omega, HL⟩
            case measure => simp [intOf]
      · skip
        simp only [lst, mst]
        have ix1 := fun w' => idx2 (.int .i64 x0) (.int .i64 y0) (.int .i64 x1) (.int .i64 y1) (.int .i64 x0) (.int .i64 y1) (.int .i64 x1) (.int .i64 y0) w'
        have ix2 := fun w' => idc2 (.int .i64 x0) (.int .i64 y0) (.int .i64 x1) (.int .i64 y1) (.int .i64 x0) (.int .i64 y1) (.int .i64 x1) (.int .i64 y0) w'
        obtain ⟨k3_0, k3_1, k3_2, k3_3, _, _, _, _⟩ := cell4 gS
        obtain ⟨k4_0, k4_1, k4_2, k4_3, _, _, _, _⟩ := cell4 gX
        have ak3_0 := (keepalloc k3_0 (.cells #[.int .i64 x0, .int .i64 y1] 55))
        have ak3_1 := (keepalloc k3_1 (.cells #[.int .i64 x0, .int .i64 y1] 55))
        have ak3_2 := (keepalloc k3_2 (.cells #[.int .i64 x0, .int .i64 y1] 55))
        have ak3_3 := (keepalloc k3_3 (.cells #[.int .i64 x0, .int .i64 y1] 55))
        have ak4_0 := (keepalloc k4_0 (.cells #[.int .i64 x0, .int .i64 y1] 55))
        have ak4_1 := (keepalloc k4_1 (.cells #[.int .i64 x0, .int .i64 y1] 55))
        have ak4_2 := (keepalloc k4_2 (.cells #[.int .i64 x0, .int .i64 y1] 55))
        have ak4_3 := (keepalloc k4_3 (.cells #[.int .i64 x0, .int .i64 y1] 55))
        go_wp2_with fail
        clear ix1 ix2
        clear k3_0 k3_1 k3_2 k3_3 k4_0 k4_1 k4_2 k4_3 ak3_0 ak3_1 ak3_2 ak3_3 ak4_0 ak4_1 ak4_2 ak4_3
        replace gS := (old_alloc (o' := .cells #[.int .i64 x0, .int .i64 y1] 55) gS)
        replace gX := (old_alloc (o' := .cells #[.int .i64 x0, .int .i64 y1] 55) gX)
        have gC := (new_alloc wr (wr.heap.size) (.cells #[.int .i64 x0, .int .i64 y1] 55) (by simp))
        have hal : Below wr.heap.size wr (wr.alloc (.cells #[.int .i64 x0, .int .i64 y1] 55)) := (balloc (Below.refl _ _) (.cells #[.int .i64 x0, .int .i64 y1] 55))
        replace HL := hid (HL.out.below hal)
        replace hB := btrans hB hal
        clear hal
        generalize (wr.alloc (.cells #[.int .i64 x0, .int .i64 y1] 55)) = yw9 at *
        generalize wr.heap.size = C at *
        refine (U3.out _).mono ?_
        rintro e yw10 ⟨rfl, hcl⟩
        replace gS := keepheap hcl gS
        replace gX := keepheap hcl gX
        replace gC := keepheap hcl gC
        replace HL := hid (HL.out.below hcl)
        replace hB := btrans hB hcl
        clear hcl
        obtain ⟨k5_0, k5_1, k5_2, k5_3, _, _, _, _⟩ := cell4 gS
        obtain ⟨k6_0, k6_1, k6_2, k6_3, _, _, _, _⟩ := cell4 gX
        obtain ⟨k7_0, k7_1, _, _⟩ := cell2h gC
        generalize hla : (min (min 1 t1) t2 : Int) = la
        generalize hma : (max (max (-1) t1) t2 : Int) = ma
        have HLA := hid hla
        have HMA := hid hma
        clear hla hma
        by_cases ca : t3 < la
        · skip
          by_cases cb : ma < t3
          · skip
            go_wp2_with fail
            clear k5_0 k5_1 k5_2 k5_3 k6_0 k6_1 k6_2 k6_3 k7_0 k7_1
            go_roundw
            case rel =>
              have q1 := HLA.out
              have q2 := HMA.out
              exact ⟨3, rfl, by omega, by simp only [lst]; congr 1; omega, by simp only [mst]; congr 1; omega, HL⟩
            case measure => simp [intOf]
          · skip
            go_wp2_with fail
            clear k5_0 k5_1 k5_2 k5_3 k6_0 k6_1 k6_2 k6_3 k7_0 k7_1
            go_roundw
            case rel =>
              have q1 := HLA.out
              have q2 := HMA.out
              exact ⟨3, rfl, by omega, by simp only [lst]; congr 1; omega, by simp only [mst]; congr 1; omega, HL⟩
            case measure => simp [intOf]
        · skip
          by_cases cb : ma < t3
          · skip
            go_wp2_with fail
            clear k5_0 k5_1 k5_2 k5_3 k6_0 k6_1 k6_2 k6_3 k7_0 k7_1
            go_roundw
            case rel =>
              have q1 := HLA.out
              have q2 := HMA.out
              exact ⟨3, rfl, by omega, by simp only [lst]; congr 1; omega, by simp only [mst]; congr 1; omega, HL⟩
            case measure => simp [intOf]
          · skip
            go_wp2_with fail
            clear k5_0 k5_1 k5_2 k5_3 k6_0 k6_1 k6_2 k6_3 k7_0 k7_1
            go_roundw
            case rel =>
              have q1 := HLA.out
              have q2 := HMA.out
              exact ⟨3, rfl, by omega, by simp only [lst]; congr 1; omega, by simp only [mst]; congr 1; omega, HL⟩
            case measure => simp [intOf]
      · skip
        simp only [lst, mst]
        have ix1 := fun w' => idx3 (.int .i64 x0) (.int .i64 y0) (.int .i64 x1) (.int .i64 y1) (.int .i64 x0) (.int .i64 y1) (.int .i64 x1) (.int .i64 y0) w'
        have ix2 := fun w' => idc3 (.int .i64 x0) (.int .i64 y0) (.int .i64 x1) (.int .i64 y1) (.int .i64 x0) (.int .i64 y1) (.int .i64 x1) (.int .i64 y0) w'
        obtain ⟨k3_0, k3_1, k3_2, k3_3, _, _, _, _⟩ := cell4 gS
        obtain ⟨k4_0, k4_1, k4_2, k4_3, _, _, _, _⟩ := cell4 gX
        have ak3_0 := (keepalloc k3_0 (.cells #[.int .i64 x1, .int .i64 y0] 55))
        have ak3_1 := (keepalloc k3_1 (.cells #[.int .i64 x1, .int .i64 y0] 55))
        have ak3_2 := (keepalloc k3_2 (.cells #[.int .i64 x1, .int .i64 y0] 55))
        have ak3_3 := (keepalloc k3_3 (.cells #[.int .i64 x1, .int .i64 y0] 55))
        have ak4_0 := (keepalloc k4_0 (.cells #[.int .i64 x1, .int .i64 y0] 55))
        have ak4_1 := (keepalloc k4_1 (.cells #[.int .i64 x1, .int .i64 y0] 55))
        have ak4_2 := (keepalloc k4_2 (.cells #[.int .i64 x1, .int .i64 y0] 55))
        have ak4_3 := (keepalloc k4_3 (.cells #[.int .i64 x1, .int .i64 y0] 55))
        go_wp2_with fail
        clear ix1 ix2
        clear k3_0 k3_1 k3_2 k3_3 k4_0 k4_1 k4_2 k4_3 ak3_0 ak3_1 ak3_2 ak3_3 ak4_0 ak4_1 ak4_2 ak4_3
        replace gS := (old_alloc (o' := .cells #[.int .i64 x1, .int .i64 y0] 55) gS)
        replace gX := (old_alloc (o' := .cells #[.int .i64 x1, .int .i64 y0] 55) gX)
        have gC := (new_alloc wr (wr.heap.size) (.cells #[.int .i64 x1, .int .i64 y0] 55) (by simp))
        have hal : Below wr.heap.size wr (wr.alloc (.cells #[.int .i64 x1, .int .i64 y0] 55)) := (balloc (Below.refl _ _) (.cells #[.int .i64 x1, .int .i64 y0] 55))
        replace HL := hid (HL.out.below hal)
        replace hB := btrans hB hal
        clear hal
        generalize (wr.alloc (.cells #[.int .i64 x1, .int .i64 y0] 55)) = yw9 at *
        generalize wr.heap.size = C at *
        refine (U4.out _).mono ?_
        rintro e yw10 ⟨rfl, hcl⟩
        replace gS := keepheap hcl gS
        replace gX := keepheap hcl gX
        replace gC := keepheap hcl gC
        replace HL := hid (HL.out.below hcl)
        replace hB := btrans hB hcl
        clear hcl
        obtain ⟨k5_0, k5_1, k5_2, k5_3, _, _, _, _⟩ := cell4 gS
        obtain ⟨k6_0, k6_1, k6_2, k6_3, _, _, _, _⟩ := cell4 gX
        obtain ⟨k7_0, k7_1, _, _⟩ := cell2h gC
        generalize hla : (min (min (min 1 t1) t2) t3 : Int) = la
        generalize hma : (max (max (max (-1) t1) t2) t3 : Int) = ma
        have HLA := hid hla
        have HMA := hid hma
        clear hla hma
        by_cases ca : t4 < la
        · skip
          by_cases cb : ma < t4
          · skip
            go_wp2_with fail
            clear k5_0 k5_1 k5_2 k5_3 k6_0 k6_1 k6_2 k6_3 k7_0 k7_1
            go_roundw
            case rel =>
              have q1 := HLA.out
              have q2 := HMA.out
              exact ⟨4, rfl, by omega, by simp only [lst]; congr 1; omega, by simp only [mst]; congr 1; omega, HL⟩
            case measure => simp [intOf]
          · skip
            go_wp2_with fail
            clear k5_0 k5_1 k5_2 k5_3 k6_0 k6_1 k6_2 k6_3 k7_0 k7_1
            go_roundw
            case rel =>
              have q1 := HLA.out
              have q2 := HMA.out
              exact ⟨4, rfl, by omega, by simp only [lst]; congr 1; omega, by simp only [mst]; congr 1; omega, HL⟩
            case measure => simp [intOf]
        · skip
          by_cases cb : ma < t4
          · skip
            go_wp2_with fail
            clear k5_0 k5_1 k5_2 k5_3 k6_0 k6_1 k6_2 k6_3 k7_0 k7_1
            go_roundw
            case rel =>
              have q1 := HLA.out
              have q2 := HMA.out
              exact ⟨4, rfl, by omega, by simp only [lst]; congr 1; omega, by simp only [mst]; congr 1; omega, HL⟩
            case measure => simp [intOf]
          · skip
            go_wp2_with fail
            clear k5_0 k5_1 k5_2 k5_3 k6_0 k6_1 k6_2 k6_3 k7_0 k7_1
            go_roundw
            case rel =>
              have q1 := HLA.out
              have q2 := HMA.out
              exact ⟨4, rfl, by omega, by simp only [lst]; congr 1; omega, by simp only [mst]; congr 1; omega, HL⟩
            case measure => simp [intOf]
      · skip
        simp only [lst, mst]
        generalize hq1 : min (min (min (min 1 t1) t2) t3) t4 = la
        generalize hq2 : max (max (max (max (-1) t1) t2) t3) t4 = ma
        have Q1 := hid hq1
        have Q2 := hid hq2
        have Q3 : Hid (min 1 (min t1 (min t2 (min t3 t4))) = la) := hid (by omega)
        have Q4 : Hid (max (-1) (max t1 (max t2 (max t3 t4))) = ma) := hid (by omega)
        clear hq1 hq2
        by_cases hla : la ≤ 0
        · skip
          by_cases hma : 0 ≤ ma
          · skip
            go_wp2_with fail
            go_ret
            exact ⟨by (first | rw [Q1.out, Q2.out] | rw [Q3.out, Q4.out]); simp [hla, hma], hB⟩
          · skip
            go_wp2_with fail
            go_ret
            exact ⟨by (first | rw [Q1.out, Q2.out] | rw [Q3.out, Q4.out]); simp [hla, hma], hB⟩
        · skip
          have hd : decide (la ≤ 0) = false := by simpa using hla
          go_wp2_with fail
          go_ret
          exact ⟨by (first | rw [Q1.out, Q2.out] | rw [Q3.out, Q4.out]); simp; intro hx; omega, hB⟩
end Go.Proofs.YtmnnbifekbacnaaDoor
