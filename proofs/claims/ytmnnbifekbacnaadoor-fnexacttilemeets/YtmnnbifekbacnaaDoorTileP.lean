/- TileMeets of both sides. -/
import Derived.Test.YtmnnbifekbacnaaDoorTileO
namespace Go.Proofs.YtmnnbifekbacnaaDoor
open Go.RowKit
set_option linter.unusedVariables false
set_option linter.unusedSimpArgs false
/-- A block that is known whole. -/
def Blk (w : World) (b : Nat) (o : Obj) : Prop := w.heap[b]? = some o
theorem Blk.below {w w' : World} {b : Nat} {o : Obj} (h : Blk w b o) (H : Below w.heap.size w w') : Blk w' b o := keepheap H h
/-- Whether a tile's square meets a shape. -/
def tmv (l c r k : Int) (ps : List (Int × Int)) : Bool := tok l c r && shok k ps && (bok (qa l c r) (qb l c r) (qc l c r) (qd l c r) && (anySat (sdl k ps) (qa l c r) (qb l c r) (qc l c r) (qd l c r) || hasP k ps (qa l c r) (qb l c r)))
theorem rect_bok (x0 y0 x1 y1 : Int) : shok 2 [(x0, y0), (x1, y1)] = bok x0 y0 x1 y1 := by
  rw [Bool.eq_iff_iff]
  simp [shok, rectb, bok, allok, pok, cok]
  omega
theorem tmv_spec (l c r k : Int) (ps : List (Int × Int)) : tmv l c r k ps = (tok l c r && shok k ps && (shok 2 [(qa l c r, qb l c r), (qc l c r, qd l c r)] && smP 2 [(qa l c r, qb l c r), (qc l c r, qd l c r)] k ps)) := by
  unfold tmv
  cases h1 : tok l c r
  · rfl
  cases h2 : shok k ps
  · rfl
  rw [← rect_bok]
  cases h3 : shok 2 [(qa l c r, qb l c r), (qc l c r, qd l c r)]
  · rfl
  · rw [rect_meet h3 h2]
theorem pts_far {w : World} {b R k : Nat} {ps : List (Int × Int)} {u : Value} (h : Pts w (some ⟨b, 0, none⟩) ps) (hne : b ≠ R) : Pts (w.setCell ⟨R, k, none⟩ u) (some ⟨b, 0, none⟩) ps := by
  rcases h with h | ⟨b', off, e, hb, h⟩
  · exact .inl h
  · injection e with e
    injection e with e1 e2
    subst e1 e2
    refine .inr ⟨b, 0, rfl, by simpa using hb, fun j hj => ?_⟩
    obtain ⟨c0, c1⟩ := h j hj
    constructor
    · rw [World.cell?_setCell_far _ _ _ _ (by dsimp only; omega)]; exact c0
    · rw [World.cell?_setCell_far _ _ _ _ (by dsimp only; omega)]; exact c1
theorem pts2Blk {w : World} {b : Nat} {x y u v : Int} (h : w.heap[b]? = some (.cells #[.int .i64 x, .int .i64 y, .int .i64 u, .int .i64 v] 55 (0, 0))) : Pts w (some ⟨b, 0, none⟩) [(x, y), (u, v)] := by
  refine .inr ⟨b, 0, rfl, lt_of_block h, fun k hk => ?_⟩
  obtain ⟨c0, c1, c2, c3, _, _, _, _⟩ := cell4 h
  rcases (show k = 0 ∨ k = 1 by simp at hk; omega) with hh | hh <;> subst hh
  · exact ⟨c0, c1⟩
  · exact ⟨c2, c3⟩
theorem set2h {w1 : World} {B : Nat} {o0 o1 : Value} {t : TypeId} (gz : w1.heap[B]? = some (.cells #[o0, o1] t (0, 0))) (a b : Value) :
    ((w1.setCell ⟨B, 0, none⟩ a).setCell ⟨B, 1, none⟩ b).heap[B]? = some (.cells #[a, b] t (0, 0)) :=
  set_at (set_at gz)
theorem tokS (l c r : Int) (w : World) : Calls Tryd.prog 11 #[.agg #[.int .i64 l, .int .i64 c, .int .i64 r]] w fun e w' => e = .returned (.bool (tok l c r)) ∧ Below w.heap.size w w' :=
  (spec_tileok l c r w).mono fun e w' ⟨he, hw⟩ => ⟨he, by rw [hw]; exact balloc (Below.refl _ _) _⟩
theorem tokI (l c r : Int) (w : World) (h : Tab w) : Calls Tryd.prog 16 #[.agg #[.int .i64 l, .int .i64 c, .int .i64 r]] w fun e w' => e = .returned (.bool (tok l c r)) ∧ Below w.heap.size w w' :=
  (impl_tileok l c r w h).mono fun e w' ⟨he, hw⟩ => ⟨he, by rw [hw]; exact balloc (Below.refl _ _) _⟩
set_option maxRecDepth 100000 in
set_option maxHeartbeats 4000000 in
theorem impl_TileMeets (l c r k : Int) (a : Option Addr) (cap : Nat) (ps : List (Int × Int)) (w : World) (hm : ps.length ≤ 1099511627776) (hc : ps.length ≤ cap) (ht : Tab w) (hp : Pts w a ps) : Calls Tryd.prog 8 #[.agg #[.int .i64 l, .int .i64 c, .int .i64 r], shv k a ps.length cap] w fun e w' => e = .returned (.bool (tmv l c r k ps)) ∧ Below w.heap.size w w' := by
  have hB := Below.refl w.heap.size w
  have HT := hid ht
  have HP := hid hp
  clear ht hp
  unfold tmv
  have TI := hid (fun w' (h : Tab w') => tokI l c r w' h)
  have SI := hid (fun w' (h : Pts w' a ps) => impl_ShapeOk k a cap ps w' hm hc h)
  go_enter Tryd.func8, Tryd.ntmps8
  go_wp2_with fail
  have gT := (old_alloc (o' := .cells #[.int .i64 k, .slice a ps.length cap] 33) (new_alloc w (w.heap.size) (.cells #[.int .i64 l, .int .i64 c, .int .i64 r] 29) (by simp)))
  have gS := (new_alloc (w.alloc (.cells #[.int .i64 l, .int .i64 c, .int .i64 r] 29)) (w.heap.size + 1) (.cells #[.int .i64 k, .slice a ps.length cap] 33) (by simp))
  have hal : Below w.heap.size w ((w.alloc (.cells #[.int .i64 l, .int .i64 c, .int .i64 r] 29)).alloc (.cells #[.int .i64 k, .slice a ps.length cap] 33)) := (balloc (balloc (Below.refl _ _) (.cells #[.int .i64 l, .int .i64 c, .int .i64 r] 29)) (.cells #[.int .i64 k, .slice a ps.length cap] 33))
  replace HT := hid (HT.out.below hal)
  replace HP := hid (HP.out.below hal)
  replace hB := btrans hB hal
  clear hal
  generalize ((w.alloc (.cells #[.int .i64 l, .int .i64 c, .int .i64 r] 29)).alloc (.cells #[.int .i64 k, .slice a ps.length cap] 33)) = yw1 at *
  refine (TI.out _ HT.out).mono ?_
  rintro e yw2 ⟨rfl, hcl⟩
  replace gT := keepheap hcl gT
  replace gS := keepheap hcl gS
  replace HT := hid (HT.out.below hcl)
  replace HP := hid (HP.out.below hcl)
  replace hB := btrans hB hcl
  clear hcl
  clear TI
  cases h1 : tok l c r
  · skip
    obtain ⟨k1_0, k1_1, k1_2, _, _, _⟩ := cellT gT
    obtain ⟨k2_0, k2_1, _, _⟩ := cell2h gS
    go_wp2_with fail
    go_ret
    exact ⟨by simp [h1], hB⟩
  · skip
    obtain ⟨k1_0, k1_1, k1_2, _, _, _⟩ := cellT gT
    obtain ⟨k2_0, k2_1, _, _⟩ := cell2h gS
    go_wp2_with fail
    clear k1_0 k1_1 k1_2 k2_0 k2_1
    refine (SI.out _ HP.out).mono ?_
    rintro e yw3 ⟨rfl, hcl⟩
    replace gT := keepheap hcl gT
    replace gS := keepheap hcl gS
    replace HT := hid (HT.out.below hcl)
    replace HP := hid (HP.out.below hcl)
    replace hB := btrans hB hcl
    clear hcl
    clear SI
    cases h2 : shok k ps
    · skip
      obtain ⟨k3_0, k3_1, k3_2, _, _, _⟩ := cellT gT
      obtain ⟨k4_0, k4_1, _, _⟩ := cell2h gS
      go_wp2_with fail
      go_ret
      exact ⟨by simp [h2], hB⟩
    · skip
      have FG := hid (fun w' => fig_any k a ps.length cap ps h2 w')
      have SA := hid (fun w' (h : Pts w' a ps) => sides_any k a cap ps w' hm hc h2 h)
      have MB := hid (fun sb w' (h : Tab w') (h' : Pts w' a ps) (h'' : SdB w' sb (sdl k ps)) => impl_metBy l c r k a cap ps sb w' hm hc h h' h2 h'')
      generalize hmv : (bok (qa l c r) (qb l c r) (qc l c r) (qd l c r) && (anySat (sdl k ps) (qa l c r) (qb l c r) (qc l c r) (qd l c r) || hasP k ps (qa l c r) (qb l c r))) = mv' at *
      have HMV := hid hmv
      clear hmv
      obtain ⟨F1, e1⟩ : ∃ F, F = figv k a ps.length cap := ⟨_, rfl⟩
      rw [← e1] at FG SA MB
      clear e1
      obtain ⟨k3_0, k3_1, k3_2, _, _, _⟩ := cellT gT
      obtain ⟨k4_0, k4_1, _, _⟩ := cell2h gS
      go_wp2_with fail
      clear k3_0 k3_1 k3_2 k4_0 k4_1
      refine (FG.out _).mono ?_
      rintro e yw4 ⟨rfl, hcl⟩
      replace gT := keepheap hcl gT
      replace gS := keepheap hcl gS
      replace HT := hid (HT.out.below hcl)
      replace HP := hid (HP.out.below hcl)
      replace hB := btrans hB hcl
      clear hcl
      clear FG
      obtain ⟨k5_0, k5_1, k5_2, _, _, _⟩ := cellT gT
      obtain ⟨k6_0, k6_1, _, _⟩ := cell2h gS
      go_wp2_with fail
      clear k5_0 k5_1 k5_2 k6_0 k6_1
      refine wp_region_held_drew (S := (fun w' => w'.heap[w.heap.size]? = some (.cells #[.int .i64 l, .int .i64 c, .int .i64 r] 29 (0, 0)) ∧ w'.heap[w.heap.size + 1]? = some (.cells #[.int .i64 k, .slice a ps.length cap] 33 (0, 0)))) (by kernel_rfl) ?_ (fun hHeld => ?_)
      · exact ⟨gT, gS⟩
      replace gT : yw4.drew.heap[w.heap.size]? = some (.cells #[.int .i64 l, .int .i64 c, .int .i64 r] 29 (0, 0)) := gT
      replace gS : yw4.drew.heap[w.heap.size + 1]? = some (.cells #[.int .i64 k, .slice a ps.length cap] 33 (0, 0)) := gS
      replace HT : Hid (Tab yw4.drew) := hid (HT.out.below (bdrew (Below.refl _ _)))
      replace HP : Hid (Pts yw4.drew a ps) := hid (HP.out.below (bdrew (Below.refl _ _)))
      replace hB := bdrew hB
      generalize yw4.drew = yw5 at *
      refine wpAnyH_take (i := 0) (v := ?_) rfl (by kernel_rfl) (by kernel_rfl) (by kernel_rfl) (fun _ _ _ h => h) (Or.inl ⟨by rfl, ?_⟩) hHeld ?_
      rotate_left
      · intro w hSw; (try dsimp only at hSw); obtain ⟨_, _, _, _, _, _⟩ := cellT (hSw.1); obtain ⟨_, _, _, _⟩ := cell2h (hSw.2); go_simp; try (with_reducible rfl)
      try simp only [sq]
      refine wpAnyH_take (i := 1) (v := ?_) rfl (by kernel_rfl) (by kernel_rfl) (by kernel_rfl) (fun _ _ _ h => h) (Or.inl ⟨by rfl, ?_⟩) hHeld ?_
      rotate_left
      · intro w hSw; (try dsimp only at hSw); go_simp; try (with_reducible rfl)
      try simp only [sq]
      refine wpAnyH_take (i := 2) (v := ?_) rfl (by kernel_rfl) (by kernel_rfl) (by kernel_rfl) (fun _ _ _ h => h) (Or.inl ⟨by rfl, ?_⟩) hHeld ?_
      rotate_left
      · intro w hSw; (try dsimp only at hSw); go_simp; try (with_reducible rfl)
      try simp only [sq]
      refine wpAnyH_ready (rs := [3]) (by kernel_rfl) (by simp) ?_
      refine AllReadyH.cons rfl (fun K hK => ?_) AllReadyH.nil
      try simp only [sq]
      go_simp
      go_at_call 20
      refine (SA.out _ HP.out).mono ?_
      rintro e yw6 ⟨sb, rfl, hsb0, hsb1, hsd, hcl⟩
      replace gT := keepheap hcl gT
      replace gS := keepheap hcl gS
      replace HT := hid (HT.out.below hcl)
      replace HP := hid (HP.out.below hcl)
      replace hB := btrans hB hcl
      clear hcl
      have HSD : Hid (SdB yw6 sb (sdl k ps)) := hid ⟨hsb1, hsd⟩
      clear hsd hsb0 hsb1
      go_wp2_with fail
      refine hK.out _ _ ?_ (fun hHeld => ?_)
      · exact ⟨gT, gS⟩
      clear hK K
      try simp only [sq]
      refine wpAnyH_ready (rs := [4]) (by kernel_rfl) (by simp) ?_
      refine AllReadyH.cons rfl (fun K hK => ?_) AllReadyH.nil
      try simp only [sq]
      go_simp
      go_at_call 19
      refine (MB.out sb _ HT.out HP.out HSD.out).mono ?_
      rintro e yw7 ⟨v, rfl, hcl⟩
      replace gT := keepheap hcl gT
      replace gS := keepheap hcl gS
      replace HT := hid (HT.out.below hcl)
      replace HP := hid (HP.out.below hcl)
      replace HSD := hid (HSD.out.below hcl)
      replace hB := btrans hB hcl
      clear hcl
      go_wp2_with fail
      refine hK.out _ _ ?_ (fun hHeld => ?_)
      · exact ⟨gT, gS⟩
      clear hK K
      try simp only [sq]
      refine wpAnyH_take (i := 5) (v := ?_) rfl (by kernel_rfl) (by kernel_rfl) (by kernel_rfl) (fun _ _ _ h => h) (Or.inl ⟨by rfl, ?_⟩) hHeld ?_
      rotate_left
      · intro w hSw; (try dsimp only at hSw); go_simp; try (with_reducible rfl)
      try simp only [sq]
      refine wpAnyH_take (i := 6) (v := ?_) rfl (by kernel_rfl) (by kernel_rfl) (by kernel_rfl) (fun _ _ _ h => h) (Or.inl ⟨by rfl, ?_⟩) hHeld ?_
      rotate_left
      · intro w hSw; (try dsimp only at hSw); go_simp; try (with_reducible rfl)
      try simp only [sq]
      refine wpAnyH_take (i := 7) (v := ?_) rfl (by kernel_rfl) (by kernel_rfl) (by kernel_rfl) (fun _ _ _ h => h) (Or.inl ⟨by rfl, ?_⟩) hHeld ?_
      rotate_left
      · intro w hSw; (try dsimp only at hSw); go_simp; try (with_reducible rfl)
      try simp only [sq]
      refine wpAnyH_take (i := 8) (v := ?_) rfl (by kernel_rfl) (by kernel_rfl) (by kernel_rfl) (fun _ _ _ h => h) (Or.inl ⟨by rfl, ?_⟩) hHeld ?_
      rotate_left
      · intro w hSw; (try dsimp only at hSw); go_simp; try (with_reducible rfl)
      try simp only [sq]
      refine wpAnyH_take (i := 9) (v := ?_) rfl (by kernel_rfl) (by kernel_rfl) (by kernel_rfl) (fun _ _ _ h => h) (Or.inl ⟨by rfl, ?_⟩) hHeld ?_
      rotate_left
      · intro w hSw; (try dsimp only at hSw); go_simp; try (with_reducible rfl)
      try simp only [sq]
      refine wpAnyH_done (by kernel_rfl) ?_ _
      clear hHeld
      go_wp2_with fail
      go_ret
      exact ⟨by rw [HMV.out]; simp [h1, h2], hB⟩
set_option maxRecDepth 100000 in
set_option maxHeartbeats 4000000 in
theorem spec_rect (l c r : Int) (w : World) : Calls Tryd.prog 13 #[.agg #[.int .i64 l, .int .i64 c, .int .i64 r]] w fun e w' => ∃ b, e = .returned (.tuple #[shv 2 (some ⟨b, 0, none⟩) 2 2, .bool (shok 2 [(qa l c r, qb l c r), (qc l c r, qd l c r)])]) ∧ Pts w' (some ⟨b, 0, none⟩) [(qa l c r, qb l c r), (qc l c r, qd l c r)] ∧ Below w.heap.size w w' := by
  have hB := Below.refl w.heap.size w
  have BX := hid (fun w' => spec_tilebox l c r w')
  have SO : Hid (∀ b w', Pts w' (some ⟨b, 0, none⟩) [(qa l c r, qb l c r), (qc l c r, qd l c r)] → Calls Tryd.prog 12 #[shv 2 (some ⟨b, 0, none⟩) 2 2] w' fun e w'' => e = .returned (.bool (shok 2 [(qa l c r, qb l c r), (qc l c r, qd l c r)])) ∧ Below w'.heap.size w' w'') := hid (fun b w' h => spec_ShapeOk 2 (some ⟨b, 0, none⟩) 2 [(qa l c r, qb l c r), (qc l c r, qd l c r)] w' (by simp) (by simp) h)
  have q1 : max (tbx l c r) (-30000) = qa l c r := rfl
  have q2 : max (tby l c r) (-30000) = qb l c r := rfl
  have q3 : min (tbu l c r) 30000 = qc l c r := rfl
  have q4 : min (tbv l c r) 30000 = qd l c r := rfl
  generalize shok 2 [(qa l c r, qb l c r), (qc l c r, qd l c r)] = ok at *
  generalize qa l c r = x0 at *
  generalize qb l c r = y0 at *
  generalize qc l c r = x1 at *
  generalize qd l c r = y1 at *
  generalize tbx l c r = b0 at *
  generalize tby l c r = b1 at *
  generalize tbu l c r = b2 at *
  generalize tbv l c r = b3 at *
  have Q := hid (And.intro q1 (And.intro q2 (And.intro q3 q4)))
  clear q1 q2 q3 q4
  go_enter Tryd.func13, Tryd.ntmps13
  go_wp2_with fail
  have gT := (old_alloc (o' := .cells #[.int .i64 0, .slice none 0 0] 33) (new_alloc w (w.heap.size) (.cells #[.int .i64 l, .int .i64 c, .int .i64 r] 29) (by simp)))
  have gR := (new_alloc (w.alloc (.cells #[.int .i64 l, .int .i64 c, .int .i64 r] 29)) (w.heap.size + 1) (.cells #[.int .i64 0, .slice none 0 0] 33) (by simp))
  have hal : Below w.heap.size w ((w.alloc (.cells #[.int .i64 l, .int .i64 c, .int .i64 r] 29)).alloc (.cells #[.int .i64 0, .slice none 0 0] 33)) := (balloc (balloc (Below.refl _ _) (.cells #[.int .i64 l, .int .i64 c, .int .i64 r] 29)) (.cells #[.int .i64 0, .slice none 0 0] 33))
  replace hB := btrans hB hal
  clear hal
  generalize ((w.alloc (.cells #[.int .i64 l, .int .i64 c, .int .i64 r] 29)).alloc (.cells #[.int .i64 0, .slice none 0 0] 33)) = yw1 at *
  refine (BX.out _).mono ?_
  rintro e yw2 ⟨rfl, hcl⟩
  replace gT := keepheap hcl gT
  replace gR := keepheap hcl gR
  replace hB := btrans hB hcl
  clear hcl
  clear BX
  obtain ⟨k1_0, k1_1, k1_2, _, _, _⟩ := cellT gT
  obtain ⟨k2_0, k2_1, _, _⟩ := cell2h gR
  go_wp2_with fail
  clear k1_0 k1_1 k1_2 k2_0 k2_1
  refine (spec_max b0 (-30000) _).mono ?_
  rintro e w' ⟨rfl, hw⟩
  replace hw := hw.symm
  subst hw
  rw [Q.out.1]
  go_wp2_with fail
  refine (spec_max b1 (-30000) _).mono ?_
  rintro e w' ⟨rfl, hw⟩
  replace hw := hw.symm
  subst hw
  rw [Q.out.2.1]
  have hRl : w.heap.size + 1 < yw2.heap.size := lt_of_block gR
  obtain ⟨k3_0, k3_1, k3_2, _, _, _⟩ := cellT gT
  obtain ⟨k4_0, k4_1, _, _⟩ := cell2h gR
  have ak3_0 := (keepalloc k3_0 (.cells #[.int .i64 x0, .int .i64 y0] 55))
  have ak3_1 := (keepalloc k3_1 (.cells #[.int .i64 x0, .int .i64 y0] 55))
  have ak3_2 := (keepalloc k3_2 (.cells #[.int .i64 x0, .int .i64 y0] 55))
  have ak4_0 := (keepalloc k4_0 (.cells #[.int .i64 x0, .int .i64 y0] 55))
  have ak4_1 := (keepalloc k4_1 (.cells #[.int .i64 x0, .int .i64 y0] 55))
  go_wp2_with fail
  clear k3_0 k3_1 k3_2 k4_0 k4_1 ak3_0 ak3_1 ak3_2 ak4_0 ak4_1
  replace gT := (old_alloc (o' := .cells #[.int .i64 x0, .int .i64 y0] 55) gT)
  replace gR := (old_alloc (o' := .cells #[.int .i64 x0, .int .i64 y0] 55) gR)
  have gA := (new_alloc yw2 (yw2.heap.size) (.cells #[.int .i64 x0, .int .i64 y0] 55) (by simp))
  have hal : Below yw2.heap.size yw2 (yw2.alloc (.cells #[.int .i64 x0, .int .i64 y0] 55)) := (balloc (Below.refl _ _) (.cells #[.int .i64 x0, .int .i64 y0] 55))
  replace hB := btrans hB hal
  clear hal
  generalize (yw2.alloc (.cells #[.int .i64 x0, .int .i64 y0] 55)) = yw3 at *
  generalize yw2.heap.size = A at *
  refine (spec_min b2 30000 _).mono ?_
  rintro e w' ⟨rfl, hw⟩
  replace hw := hw.symm
  subst hw
  rw [Q.out.2.2.1]
  go_wp2_with fail
  refine (spec_min b3 30000 _).mono ?_
  rintro e w' ⟨rfl, hw⟩
  replace hw := hw.symm
  subst hw
  rw [Q.out.2.2.2]
  have hRl2 : w.heap.size + 1 < yw3.heap.size := lt_of_block gR
  obtain ⟨k5_0, k5_1, k5_2, _, _, _⟩ := cellT gT
  obtain ⟨k6_0, k6_1, _, _⟩ := cell2h gR
  obtain ⟨k7_0, k7_1, _, _⟩ := cell2h gA
  have ak5_0 := (keepalloc k5_0 (.cells #[.int .i64 x1, .int .i64 y1] 55))
  have ak5_1 := (keepalloc k5_1 (.cells #[.int .i64 x1, .int .i64 y1] 55))
  have ak5_2 := (keepalloc k5_2 (.cells #[.int .i64 x1, .int .i64 y1] 55))
  have ak6_0 := (keepalloc k6_0 (.cells #[.int .i64 x1, .int .i64 y1] 55))
  have ak6_1 := (keepalloc k6_1 (.cells #[.int .i64 x1, .int .i64 y1] 55))
  have ak7_0 := (keepalloc k7_0 (.cells #[.int .i64 x1, .int .i64 y1] 55))
  have ak7_1 := (keepalloc k7_1 (.cells #[.int .i64 x1, .int .i64 y1] 55))
  go_wp2_with fail
  have hRP : w.heap.size + 1 < yw3.heap.size + 1 := by omega
  have hRS : w.heap.size + 1 < yw3.heap.size + 1 + 1 := by omega
  clear k5_0 k5_1 k5_2 k6_0 k6_1 k7_0 k7_1 ak5_0 ak5_1 ak5_2 ak6_0 ak6_1 ak7_0 ak7_1
  replace gT := (old_alloc (o' := .cells #[.int .i64 2, .slice (some ⟨yw3.heap.size + 1, 0, none⟩) 2 2] 33) (old_alloc (o' := .cells #[.int .i64 x0, .int .i64 y0, .int .i64 x1, .int .i64 y1] 55) (old_alloc (o' := .cells #[.int .i64 x1, .int .i64 y1] 55) gT)))
  replace gR := (old_alloc (o' := .cells #[.int .i64 2, .slice (some ⟨yw3.heap.size + 1, 0, none⟩) 2 2] 33) (old_alloc (o' := .cells #[.int .i64 x0, .int .i64 y0, .int .i64 x1, .int .i64 y1] 55) (old_alloc (o' := .cells #[.int .i64 x1, .int .i64 y1] 55) gR)))
  replace gA := (old_alloc (o' := .cells #[.int .i64 2, .slice (some ⟨yw3.heap.size + 1, 0, none⟩) 2 2] 33) (old_alloc (o' := .cells #[.int .i64 x0, .int .i64 y0, .int .i64 x1, .int .i64 y1] 55) (old_alloc (o' := .cells #[.int .i64 x1, .int .i64 y1] 55) gA)))
  have gB := (old_alloc (o' := .cells #[.int .i64 2, .slice (some ⟨yw3.heap.size + 1, 0, none⟩) 2 2] 33) (old_alloc (o' := .cells #[.int .i64 x0, .int .i64 y0, .int .i64 x1, .int .i64 y1] 55) (new_alloc yw3 (yw3.heap.size) (.cells #[.int .i64 x1, .int .i64 y1] 55) (by simp))))
  have gP := (old_alloc (o' := .cells #[.int .i64 2, .slice (some ⟨yw3.heap.size + 1, 0, none⟩) 2 2] 33) (new_alloc (yw3.alloc (.cells #[.int .i64 x1, .int .i64 y1] 55)) (yw3.heap.size + 1) (.cells #[.int .i64 x0, .int .i64 y0, .int .i64 x1, .int .i64 y1] 55) (by simp)))
  have gS := (new_alloc ((yw3.alloc (.cells #[.int .i64 x1, .int .i64 y1] 55)).alloc (.cells #[.int .i64 x0, .int .i64 y0, .int .i64 x1, .int .i64 y1] 55)) (yw3.heap.size + 1 + 1) (.cells #[.int .i64 2, .slice (some ⟨yw3.heap.size + 1, 0, none⟩) 2 2] 33) (by simp))
  have hal : Below yw3.heap.size yw3 (((yw3.alloc (.cells #[.int .i64 x1, .int .i64 y1] 55)).alloc (.cells #[.int .i64 x0, .int .i64 y0, .int .i64 x1, .int .i64 y1] 55)).alloc (.cells #[.int .i64 2, .slice (some ⟨yw3.heap.size + 1, 0, none⟩) 2 2] 33)) := (balloc (balloc (balloc (Below.refl _ _) (.cells #[.int .i64 x1, .int .i64 y1] 55)) (.cells #[.int .i64 x0, .int .i64 y0, .int .i64 x1, .int .i64 y1] 55)) (.cells #[.int .i64 2, .slice (some ⟨yw3.heap.size + 1, 0, none⟩) 2 2] 33))
  replace hB := btrans hB hal
  clear hal
  generalize (((yw3.alloc (.cells #[.int .i64 x1, .int .i64 y1] 55)).alloc (.cells #[.int .i64 x0, .int .i64 y0, .int .i64 x1, .int .i64 y1] 55)).alloc (.cells #[.int .i64 2, .slice (some ⟨yw3.heap.size + 1, 0, none⟩) 2 2] 33)) = yw4 at *
  generalize yw3.heap.size + 1 + 1 = S at *
  generalize yw3.heap.size + 1 = P at *
  generalize yw3.heap.size = B at *
  have GR : Hid (Blk yw4 (w.heap.size + 1) (.cells #[.int .i64 0, .slice none 0 0] 33 (0, 0))) := hid gR
  have HPT := hid (pts2Blk gP)
  clear gR gT gA gB gP
  refine wp_region_held_drew (S := (fun w' => w'.heap[S]? = some (.cells #[.int .i64 2, .slice (some ⟨P, 0, none⟩) 2 2] 33 (0, 0)))) (by kernel_rfl) ?_ (fun hHeld => ?_)
  · exact gS
  replace gS : yw4.drew.heap[S]? = some (.cells #[.int .i64 2, .slice (some ⟨P, 0, none⟩) 2 2] 33 (0, 0)) := gS
  replace GR : Hid (Blk yw4.drew (w.heap.size + 1) (.cells #[.int .i64 0, .slice none 0 0] 33 (0, 0))) := hid (GR.out.below (bdrew (Below.refl _ _)))
  replace HPT : Hid (Pts yw4.drew (some ⟨P, 0, none⟩) [(x0, y0), (x1, y1)]) := hid (HPT.out.below (bdrew (Below.refl _ _)))
  replace hB := bdrew hB
  generalize yw4.drew = yw5 at *
  refine wpAnyH_take (i := 0) (v := ?_) rfl (by kernel_rfl) (by kernel_rfl) (by kernel_rfl) (fun _ _ _ h => h) (Or.inl ⟨by rfl, ?_⟩) hHeld ?_
  rotate_left
  · intro w hSw; (try dsimp only at hSw); obtain ⟨_, _, _, _⟩ := cell2h (hSw); go_simp; try (with_reducible rfl)
  try simp only [sq]
  refine wpAnyH_take (i := 1) (v := ?_) rfl (by kernel_rfl) (by kernel_rfl) (by kernel_rfl) (fun _ _ _ h => h) (Or.inl ⟨by rfl, ?_⟩) hHeld ?_
  rotate_left
  · intro w hSw; (try dsimp only at hSw); obtain ⟨_, _, _, _⟩ := cell2h (hSw); go_simp; try (with_reducible rfl)
  try simp only [sq]
  refine wpAnyH_ready (rs := [2]) (by kernel_rfl) (by simp) ?_
  refine AllReadyH.cons rfl (fun K hK => ?_) AllReadyH.nil
  try simp only [sq]
  go_simp
  go_at_call 12
  refine (SO.out P _ HPT.out).mono ?_
  rintro e yw6 ⟨rfl, hcl⟩
  replace gS := keepheap hcl gS
  replace GR := hid (GR.out.below hcl)
  replace HPT := hid (HPT.out.below hcl)
  replace hB := btrans hB hcl
  clear hcl
  have gR := GR.out
  unfold Blk at gR
  obtain ⟨r0, r1, rf0, rf1⟩ := cell2h gR
  have hneS : S ≠ w.heap.size + 1 := by omega
  have hneP : P ≠ w.heap.size + 1 := by omega
  go_wp2_with fail
  refine hK.out _ _ ?_ (fun hHeld => ?_)
  · exact gS
  clear hK K
  try simp only [sq]
  refine wpAnyH_ready (rs := [3]) (by kernel_rfl) (by simp) ?_
  refine AllReadyH.cons rfl (fun K hK => ?_) AllReadyH.nil
  try simp only [sq]
  go_simp
  refine hK.out _ _ ?_ (fun hHeld => ?_)
  · exact (set_far (set_far gS hneS) hneS)
  clear hK K
  try simp only [sq]
  refine wpAnyH_take (i := 4) (v := ?_) rfl (by kernel_rfl) (by kernel_rfl) (by kernel_rfl) (fun _ _ _ h => h) (Or.inl ⟨by rfl, ?_⟩) hHeld ?_
  rotate_left
  · intro w hSw; (try dsimp only at hSw); go_simp; try (with_reducible rfl)
  try simp only [sq]
  refine wpAnyH_done (by kernel_rfl) ?_ _
  clear hHeld
  have gF := set2h gR (.int .i64 2) (.slice (some ⟨P, 0, none⟩) 2 2)
  have hF := bset (k := 1) (bset (k := 0) hB (show w.heap.size ≤ w.heap.size + 1 by omega) (.int .i64 2)) (show w.heap.size ≤ w.heap.size + 1 by omega) (.slice (some ⟨P, 0, none⟩) 2 2)
  have pF := pts_far (k := 1) (u := .slice (some ⟨P, 0, none⟩) 2 2) (pts_far (k := 0) (u := .int .i64 2) HPT.out hneP) hneP
  clear r0 r1 rf0 rf1 gR gS GR HPT
  generalize ((yw6.setCell ⟨w.heap.size + 1, 0, none⟩ (.int .i64 2)).setCell ⟨w.heap.size + 1, 1, none⟩ (.slice (some ⟨P, 0, none⟩) 2 2)) = wf at gF hF pF ⊢
  obtain ⟨z0, z1, _, _⟩ := cell2h gF
  go_wp2_with fail
  exact bodyPost_ret (v := .tuple #[.agg #[.int .i64 2, .slice (some ⟨P, 0, none⟩) 2 2], .bool ok]) (by simp [results, Tryd.results13, go_sem, z0, z1]) rfl ⟨P, rfl, pF, hF⟩
set_option maxRecDepth 100000 in
set_option maxHeartbeats 4000000 in
theorem spec_TileMeets (l c r k : Int) (a : Option Addr) (cap : Nat) (ps : List (Int × Int)) (w : World) (hm : ps.length ≤ 1099511627776) (hc : ps.length ≤ cap) (hp : Pts w a ps) : Calls Tryd.prog 5 #[.agg #[.int .i64 l, .int .i64 c, .int .i64 r], shv k a ps.length cap] w fun e w' => e = .returned (.bool (tmv l c r k ps)) ∧ Below w.heap.size w w' := by
  have hB := Below.refl w.heap.size w
  have HP := hid hp
  clear hp
  rw [tmv_spec]
  have TI := hid (fun w' => tokS l c r w')
  have SI := hid (fun w' (h : Pts w' a ps) => spec_ShapeOk k a cap ps w' hm hc h)
  have RC := hid (fun w' => spec_rect l c r w')
  have MT : Hid (∀ b w', Pts w' (some ⟨b, 0, none⟩) [(qa l c r, qb l c r), (qc l c r, qd l c r)] → Pts w' a ps → Calls Tryd.prog 14 #[shv 2 (some ⟨b, 0, none⟩) 2 2, shv k a ps.length cap] w' fun e w'' => e = .returned (.bool (smP 2 [(qa l c r, qb l c r), (qc l c r, qd l c r)] k ps)) ∧ Below w'.heap.size w' w'') := hid (fun b w' h h' => spec_ShapesMeet 2 k (some ⟨b, 0, none⟩) a 2 cap [(qa l c r, qb l c r), (qc l c r, qd l c r)] ps w' (by simp) (by simp) h hm hc h')
  generalize smP 2 [(qa l c r, qb l c r), (qc l c r, qd l c r)] k ps = sm at *
  generalize [(qa l c r, qb l c r), (qc l c r, qd l c r)] = rs at *
  generalize shok 2 rs = ro at *
  generalize hto : tok l c r = to' at *
  generalize hso : shok k ps = so at *
  clear hto hso
  go_enter Tryd.func5, Tryd.ntmps5
  go_wp2_with fail
  have gT := (old_alloc (o' := .cells #[.int .i64 k, .slice a ps.length cap] 33) (new_alloc w (w.heap.size) (.cells #[.int .i64 l, .int .i64 c, .int .i64 r] 29) (by simp)))
  have gS := (new_alloc (w.alloc (.cells #[.int .i64 l, .int .i64 c, .int .i64 r] 29)) (w.heap.size + 1) (.cells #[.int .i64 k, .slice a ps.length cap] 33) (by simp))
  have hal : Below w.heap.size w ((w.alloc (.cells #[.int .i64 l, .int .i64 c, .int .i64 r] 29)).alloc (.cells #[.int .i64 k, .slice a ps.length cap] 33)) := (balloc (balloc (Below.refl _ _) (.cells #[.int .i64 l, .int .i64 c, .int .i64 r] 29)) (.cells #[.int .i64 k, .slice a ps.length cap] 33))
  replace HP := hid (HP.out.below hal)
  replace hB := btrans hB hal
  clear hal
  generalize ((w.alloc (.cells #[.int .i64 l, .int .i64 c, .int .i64 r] 29)).alloc (.cells #[.int .i64 k, .slice a ps.length cap] 33)) = yw1 at *
  refine (TI.out _).mono ?_
  rintro e yw2 ⟨rfl, hcl⟩
  replace gT := keepheap hcl gT
  replace gS := keepheap hcl gS
  replace HP := hid (HP.out.below hcl)
  replace hB := btrans hB hcl
  clear hcl
  clear TI
  cases to'
  · skip
    obtain ⟨k1_0, k1_1, k1_2, _, _, _⟩ := cellT gT
    obtain ⟨k2_0, k2_1, _, _⟩ := cell2h gS
    go_wp2_with fail
    go_ret
    exact ⟨rfl, hB⟩
  · skip
    obtain ⟨k1_0, k1_1, k1_2, _, _, _⟩ := cellT gT
    obtain ⟨k2_0, k2_1, _, _⟩ := cell2h gS
    go_wp2_with fail
    clear k1_0 k1_1 k1_2 k2_0 k2_1
    refine (SI.out _ HP.out).mono ?_
    rintro e yw3 ⟨rfl, hcl⟩
    replace gT := keepheap hcl gT
    replace gS := keepheap hcl gS
    replace HP := hid (HP.out.below hcl)
    replace hB := btrans hB hcl
    clear hcl
    clear SI
    cases so
    · skip
      obtain ⟨k3_0, k3_1, k3_2, _, _, _⟩ := cellT gT
      obtain ⟨k4_0, k4_1, _, _⟩ := cell2h gS
      go_wp2_with fail
      go_ret
      exact ⟨rfl, hB⟩
    · skip
      obtain ⟨k3_0, k3_1, k3_2, _, _, _⟩ := cellT gT
      obtain ⟨k4_0, k4_1, _, _⟩ := cell2h gS
      go_wp2_with fail
      clear k3_0 k3_1 k3_2 k4_0 k4_1
      refine (RC.out _).mono ?_
      rintro e yw4 ⟨pb, rfl, hrp, hcl⟩
      replace gT := keepheap hcl gT
      replace gS := keepheap hcl gS
      replace HP := hid (HP.out.below hcl)
      replace hB := btrans hB hcl
      clear hcl
      have HR := hid hrp
      clear hrp RC
      cases ro
      · skip
        obtain ⟨k5_0, k5_1, k5_2, _, _, _⟩ := cellT gT
        obtain ⟨k6_0, k6_1, _, _⟩ := cell2h gS
        have ak5_0 := (keepalloc k5_0 (.cells #[.int .i64 2, .slice (some ⟨pb, 0, none⟩) 2 2] 33))
        have ak5_1 := (keepalloc k5_1 (.cells #[.int .i64 2, .slice (some ⟨pb, 0, none⟩) 2 2] 33))
        have ak5_2 := (keepalloc k5_2 (.cells #[.int .i64 2, .slice (some ⟨pb, 0, none⟩) 2 2] 33))
        have ak6_0 := (keepalloc k6_0 (.cells #[.int .i64 2, .slice (some ⟨pb, 0, none⟩) 2 2] 33))
        have ak6_1 := (keepalloc k6_1 (.cells #[.int .i64 2, .slice (some ⟨pb, 0, none⟩) 2 2] 33))
        go_wp2_with fail
        clear k5_0 k5_1 k5_2 k6_0 k6_1 ak5_0 ak5_1 ak5_2 ak6_0 ak6_1
        go_ret
        exact ⟨rfl, balloc hB _⟩
      · skip
        obtain ⟨k5_0, k5_1, k5_2, _, _, _⟩ := cellT gT
        obtain ⟨k6_0, k6_1, _, _⟩ := cell2h gS
        have ak5_0 := (keepalloc k5_0 (.cells #[.int .i64 2, .slice (some ⟨pb, 0, none⟩) 2 2] 33))
        have ak5_1 := (keepalloc k5_1 (.cells #[.int .i64 2, .slice (some ⟨pb, 0, none⟩) 2 2] 33))
        have ak5_2 := (keepalloc k5_2 (.cells #[.int .i64 2, .slice (some ⟨pb, 0, none⟩) 2 2] 33))
        have ak6_0 := (keepalloc k6_0 (.cells #[.int .i64 2, .slice (some ⟨pb, 0, none⟩) 2 2] 33))
        have ak6_1 := (keepalloc k6_1 (.cells #[.int .i64 2, .slice (some ⟨pb, 0, none⟩) 2 2] 33))
        go_wp2_with fail
        clear k5_0 k5_1 k5_2 k6_0 k6_1 ak5_0 ak5_1 ak5_2 ak6_0 ak6_1
        replace gT := (old_alloc (o' := .cells #[.int .i64 2, .slice (some ⟨pb, 0, none⟩) 2 2] 33) gT)
        replace gS := (old_alloc (o' := .cells #[.int .i64 2, .slice (some ⟨pb, 0, none⟩) 2 2] 33) gS)
        have gQ := (new_alloc yw4 (yw4.heap.size) (.cells #[.int .i64 2, .slice (some ⟨pb, 0, none⟩) 2 2] 33) (by simp))
        have hal : Below yw4.heap.size yw4 (yw4.alloc (.cells #[.int .i64 2, .slice (some ⟨pb, 0, none⟩) 2 2] 33)) := (balloc (Below.refl _ _) (.cells #[.int .i64 2, .slice (some ⟨pb, 0, none⟩) 2 2] 33))
        replace HP := hid (HP.out.below hal)
        replace HR := hid (HR.out.below hal)
        replace hB := btrans hB hal
        clear hal
        generalize (yw4.alloc (.cells #[.int .i64 2, .slice (some ⟨pb, 0, none⟩) 2 2] 33)) = yw5 at *
        generalize yw4.heap.size = QQ at *
        refine (MT.out pb _ HR.out HP.out).mono ?_
        rintro e yw6 ⟨rfl, hcl⟩
        replace gT := keepheap hcl gT
        replace gS := keepheap hcl gS
        replace gQ := keepheap hcl gQ
        replace HP := hid (HP.out.below hcl)
        replace HR := hid (HR.out.below hcl)
        replace hB := btrans hB hcl
        clear hcl
        go_wp2_with fail
        go_ret
        exact ⟨rfl, hB⟩
end Go.Proofs.YtmnnbifekbacnaaDoor
