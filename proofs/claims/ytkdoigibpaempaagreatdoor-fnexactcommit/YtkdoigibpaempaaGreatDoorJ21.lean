/- Texts of stores, joined: Xt, Pc. -/
import Derived.Test.YtkdoigibpaempaaGreatDoorXc
import Derived.Test.YtkdoigibpaempaaGreatDoorJ15
import Derived.Test.YtkdoigibpaempaaGreatDoorJ18
import Derived.Test.YtkdoigibpaempaaGreatDoorJ19
set_option linter.unusedSimpArgs false
set_option linter.unusedVariables false
namespace Go.Proofs.YtkdoigibpaempaaGreatDoor
open Go.RowKit
theorem RwsS.z {w : World} {B : Nat} {rs : List Rw} (h : RwsS w B rs) : RwsZ w B rs := by
  refine ⟨h.1, fun j hj => ?_⟩
  obtain ⟨c, cp, a0, a1, a2, a3, a4, a5, a6, a7⟩ := h.2 j hj
  exact ⟨c, cp, a0, ⟨a1, a2, a3, a4, a5⟩, a6, a7⟩
set_option maxRecDepth 100000 in
set_option maxHeartbeats 1000000 in
theorem rowsZ_copied (now : Int) (B cap : Nat) (rs : List Rw) (w : World) (hm : rs.length ≤ 1099511627776) (h : RwsZ w B rs) : Calls Tryz.prog 62 #[.agg #[.int .i64 now, .slice (some ⟨B, 0, none⟩) rs.length cap]] w fun e w' => ∃ g c ps, e = .returned (.agg #[.int .i64 now, .slice (some ⟨g, 0, none⟩) rs.length c]) ∧ LX KR 78 w.heap.size w'.heap.size w' (.slice (some ⟨g, 0, none⟩) rs.length c) rs ps ∧ Below w.heap.size w w' := by
  have HK := hid (fun (W : World) (hb : Below w.heap.size w W) => kept_rw B cap rs W hm (h.below hb))
  clear h
  generalize hn : rs.length = n at *
  have HN := hid hn
  clear hn
  have hB : Below w.heap.size w ((w.alloc (.cells #[.int .i64 now, .slice (some ⟨B, 0, none⟩) n cap] 31)).alloc (.cells #[.int .i64 0, .slice none 0 0] 31)) := balloc (balloc (Below.refl _ _) _) _
  have g0 := old_alloc (o' := .cells #[.int .i64 0, .slice none 0 0] 31) (new_alloc w w.heap.size (.cells #[.int .i64 now, .slice (some ⟨B, 0, none⟩) n cap] 31) rfl)
  have g1 := new_alloc (w.alloc (.cells #[.int .i64 now, .slice (some ⟨B, 0, none⟩) n cap] 31)) (w.heap.size + 1) (.cells #[.int .i64 0, .slice none 0 0] 31) (by simp)
  go_enter Tryz.func62, Tryz.ntmps62
  go_upto_region 1 with fail
  generalize (w.alloc (.cells #[.int .i64 now, .slice (some ⟨B, 0, none⟩) n cap] 31)).alloc (.cells #[.int .i64 0, .slice none 0 0] 31) = W at *
  obtain ⟨d0, d1, _, _⟩ := cell2f g0
  have hWs := lt_of_block g1
  go_wp2_with fail
  refine (HK.out _ hB).mono ?_
  rintro e y ⟨v, xs, rfl, hX, ⟨a, c, rfl⟩, hy⟩
  replace g0 := keepheap2 hy g0
  replace g1 := keepheap2 hy g1
  have HB := hid (btrans hB hy)
  have HX := hid hX
  have hyz := hy.size
  clear hB hy hX HK d0 d1
  obtain ⟨d0, d1, f0, f1⟩ := cell2f g0
  obtain ⟨v0, v1, u0, u1⟩ := cell2f g1
  go_wp2_with fail
  have gF := set2r (set_far (q := w.heap.size) (k := 1) (u := .slice (some ⟨a, 0, none⟩) n c) g1 (by omega)) (.int .i64 now) (.slice (some ⟨a, 0, none⟩) n c)
  have bF := bset (bset (bset HB.out (q := w.heap.size) (k := 1) (Nat.le_refl _) (.slice (some ⟨a, 0, none⟩) n c)) (q := w.heap.size + 1) (k := 0) (by omega) (.int .i64 now)) (q := w.heap.size + 1) (k := 1) (by omega) (.slice (some ⟨a, 0, none⟩) n c)
  have xF := (HX.out.frame (w' := ((y.setCell ⟨w.heap.size, 1, none⟩ (.slice (some ⟨a, 0, none⟩) n c)).setCell ⟨w.heap.size + 1, 0, none⟩ (.int .i64 now)).setCell ⟨w.heap.size + 1, 1, none⟩ (.slice (some ⟨a, 0, none⟩) n c)) (fun b h1 h2 => by rw [Below.heap_setCell _ _ _ _ (by dsimp only; omega), Below.heap_setCell _ _ _ _ (by dsimp only; omega), Below.heap_setCell _ _ _ _ (by dsimp only; omega)]) (by simp)).mono (base' := w.heap.size) (hi' := (((y.setCell ⟨w.heap.size, 1, none⟩ (.slice (some ⟨a, 0, none⟩) n c)).setCell ⟨w.heap.size + 1, 0, none⟩ (.int .i64 now)).setCell ⟨w.heap.size + 1, 1, none⟩ (.slice (some ⟨a, 0, none⟩) n c)).heap.size) (by omega) (by simp) (Nat.le_refl _)
  generalize ((y.setCell ⟨w.heap.size, 1, none⟩ (.slice (some ⟨a, 0, none⟩) n c)).setCell ⟨w.heap.size + 1, 0, none⟩ (.int .i64 now)).setCell ⟨w.heap.size + 1, 1, none⟩ (.slice (some ⟨a, 0, none⟩) n c) = wf at *
  obtain ⟨z0, z1, _, _⟩ := cell2f gF
  exact bodyPost_ret (v := .agg #[.int .i64 now, .slice (some ⟨a, 0, none⟩) n c]) (by simp [results, Tryz.results62, go_sem, z0, z1]) rfl ⟨a, c, xs, rfl, xF, bF⟩
theorem LC.rwsZ {base hi : Nat} {w : World} {g cap : Nat} {xs : List Rw} (h : LC KR base hi w (.slice (some ⟨g, 0, none⟩) xs.length cap) xs) : RwsZ w g xs := by
  obtain ⟨h0, h⟩ := h
  rcases h with ⟨_, e⟩ | ⟨g', cp, ss, lo, up, e, h1, h2, h3, h4, h5, h6⟩
  · cases e
  · cases e
    refine ⟨by omega, fun j hj => ?_⟩
    obtain ⟨⟨b1, _, c, cq, e, b2, b3, b4, b5, b6⟩, a2, a3, a4⟩ := h5 j hj
    have k0 := b1 0 (by decide)
    have k1 := b1 1 (by decide)
    have k2 := b1 2 (by decide)
    have k3 := b1 3 (by decide)
    have k4 := b1 4 (by decide)
    simp only [KR, e] at k0 k1 k2 k3 k4
    exact ⟨c, cq, b6.1, ⟨k0, k1, k2, k3, k4⟩, b3, b6.pts⟩
def StX (b1 u1 b2 u2 : Nat) (w : World) (a ta : Option Addr) (cap tcap : Nat) (rs : List Rw) (ts : List Tx) : Prop := LC KR b1 u1 w (.slice a rs.length cap) rs ∧ LC KT b2 u2 w (.slice ta ts.length tcap) ts
theorem StX.below {b1 u1 b2 u2 : Nat} {w w' : World} {a ta : Option Addr} {cap tcap : Nat} {rs : List Rw} {ts : List Tx} (h : StX b1 u1 b2 u2 w a ta cap tcap rs ts) (H : Below w.heap.size w w') : StX b1 u1 b2 u2 w' a ta cap tcap rs ts := ⟨h.1.below H, h.2.below H⟩
set_option maxRecDepth 100000 in
set_option maxHeartbeats 1000000 in
theorem store_copied (now : Int) (B D rc tc : Nat) (rs : List Rw) (ts : List Tx) (w : World) (hm : rs.length ≤ 1099511627776) (htm : ts.length ≤ 1099511627776) (hr : RwsZ w B rs) (ht : TxsS w D ts) : Calls Tryz.prog 38 #[.agg #[.int .i64 now, .slice (some ⟨B, 0, none⟩) rs.length rc, .slice (some ⟨D, 0, none⟩) ts.length tc]] w fun e w' => ∃ g c tg tcc mid, e = .returned (.agg #[.int .i64 now, .slice (some ⟨g, 0, none⟩) rs.length c, .slice (some ⟨tg, 0, none⟩) ts.length tcc]) ∧ StX mid w'.heap.size w.heap.size mid w' (some ⟨g, 0, none⟩) (some ⟨tg, 0, none⟩) c tcc rs ts ∧ RwsZ w' g rs ∧ w.heap.size ≤ mid ∧ mid ≤ w'.heap.size ∧ Below w.heap.size w w' := by
  have HK := hid (fun (W : World) (hb : Below w.heap.size w W) => kept_tx D tc ts W htm (ht.below hb))
  have HR := hid (fun (W : World) (hb : Below w.heap.size w W) => rowsZ_copied now B rc rs W hm (hr.below hb))
  clear hr ht
  unfold StX
  generalize hnr : rs.length = nr at *
  generalize hnt : ts.length = nt at *
  have HNR := hid hnr
  have HNT := hid hnt
  clear hnr hnt
  have hB : Below w.heap.size w ((w.alloc (.cells #[.int .i64 now, .slice (some ⟨B, 0, none⟩) nr rc, .slice (some ⟨D, 0, none⟩) nt tc] 34)).alloc (.cells #[.int .i64 0, .slice none 0 0, .slice none 0 0] 34)) := balloc (balloc (Below.refl _ _) _) _
  have g0 := old_alloc (o' := .cells #[.int .i64 0, .slice none 0 0, .slice none 0 0] 34) (new_alloc w w.heap.size (.cells #[.int .i64 now, .slice (some ⟨B, 0, none⟩) nr rc, .slice (some ⟨D, 0, none⟩) nt tc] 34) rfl)
  have g1 := new_alloc (w.alloc (.cells #[.int .i64 now, .slice (some ⟨B, 0, none⟩) nr rc, .slice (some ⟨D, 0, none⟩) nt tc] 34)) (w.heap.size + 1) (.cells #[.int .i64 0, .slice none 0 0, .slice none 0 0] 34) (by simp)
  go_enter Tryz.func38, Tryz.ntmps38
  go_upto_region 1 with fail
  generalize (w.alloc (.cells #[.int .i64 now, .slice (some ⟨B, 0, none⟩) nr rc, .slice (some ⟨D, 0, none⟩) nt tc] 34)).alloc (.cells #[.int .i64 0, .slice none 0 0, .slice none 0 0] 34) = W at *
  obtain ⟨⟨d0, d1, d2⟩, _⟩ := cellk3 g0
  have hWs := lt_of_block g1
  go_wp2_with fail
  refine (HK.out _ hB).mono ?_
  rintro e y ⟨v, px, rfl, hX, ⟨tg, tcc, rfl⟩, hy⟩
  replace g0 := keepheap2 hy g0
  replace g1 := keepheap2 hy g1
  replace hB := btrans hB hy
  have hyz := hy.size
  have HX := hid hX
  clear hy hX HK d0 d1 d2
  obtain ⟨⟨d0, d1, d2⟩, _⟩ := cellk3 g0
  go_wp2_with fail
  refine (HR.out _ hB).mono ?_
  rintro e z ⟨g, c, pr, rfl, hX2, hz⟩
  replace g1 := keepheap2 hz g1
  replace hB := btrans hB hz
  have hzz := hz.size
  have HX1 := hid (HX.out.below hz)
  have HX2 := hid hX2
  clear hz hX2 HR HX g0 d0 d1 d2
  obtain ⟨⟨v0, v1, v2⟩, u0, u1, u2⟩ := cellk3 g1
  have HB := hid hB
  clear hB
  go_wp2_with fail
  have gF := setk3 g1 (.int .i64 now) (.slice (some ⟨g, 0, none⟩) nr c) (.slice (some ⟨tg, 0, none⟩) nt tcc)
  have bF := bset (bset (bset HB.out (q := w.heap.size + 1) (k := 0) (by omega) (.int .i64 now)) (q := w.heap.size + 1) (k := 1) (by omega) (.slice (some ⟨g, 0, none⟩) nr c)) (q := w.heap.size + 1) (k := 2) (by omega) (.slice (some ⟨tg, 0, none⟩) nt tcc)
  have hfar : ∀ b, b ≠ w.heap.size + 1 → (((z.setCell ⟨w.heap.size + 1, 0, none⟩ (.int .i64 now)).setCell ⟨w.heap.size + 1, 1, none⟩ (.slice (some ⟨g, 0, none⟩) nr c)).setCell ⟨w.heap.size + 1, 2, none⟩ (.slice (some ⟨tg, 0, none⟩) nt tcc)).heap[b]? = z.heap[b]? := fun b hb => by rw [Below.heap_setCell _ _ _ _ (by dsimp only; omega), Below.heap_setCell _ _ _ _ (by dsimp only; omega), Below.heap_setCell _ _ _ _ (by dsimp only; omega)]
  have hwz : (((z.setCell ⟨w.heap.size + 1, 0, none⟩ (.int .i64 now)).setCell ⟨w.heap.size + 1, 1, none⟩ (.slice (some ⟨g, 0, none⟩) nr c)).setCell ⟨w.heap.size + 1, 2, none⟩ (.slice (some ⟨tg, 0, none⟩) nt tcc)).heap.size = z.heap.size := by simp only [World.size_setCell]
  generalize (((z.setCell ⟨w.heap.size + 1, 0, none⟩ (.int .i64 now)).setCell ⟨w.heap.size + 1, 1, none⟩ (.slice (some ⟨g, 0, none⟩) nr c)).setCell ⟨w.heap.size + 1, 2, none⟩ (.slice (some ⟨tg, 0, none⟩) nt tcc)) = wf at *
  have x1 := ((HX2.out.frame (w' := wf) (fun b h1 h2 => hfar b (by omega)) (by omega)).mono (hi' := wf.heap.size) (Nat.le_refl _) (by omega) (Nat.le_refl _)).lc
  have x2 := ((HX1.out.frame (w' := wf) (fun b h1 h2 => hfar b (by omega)) (by omega)).mono (base' := w.heap.size) (hi' := y.heap.size) (by omega) (Nat.le_refl _) (by omega)).lc
  have hrz : RwsZ wf g rs := by
    refine LC.rwsZ (cap := c) (base := y.heap.size) (hi := wf.heap.size) ?_
    rw [HNR.out]; exact x1
  obtain ⟨⟨z0, z1, z2⟩, _⟩ := cellk3 gF
  exact bodyPost_ret (v := .agg #[.int .i64 now, .slice (some ⟨g, 0, none⟩) nr c, .slice (some ⟨tg, 0, none⟩) nt tcc]) (by simp [results, Tryz.results38, go_sem, z0, z1, z2]) rfl ⟨g, c, tg, tcc, y.heap.size, rfl, ⟨x1, x2⟩, hrz, by omega, by omega, bF⟩
end Go.Proofs.YtkdoigibpaempaaGreatDoor
namespace Go.Proofs.YtkdoigibpaempaaGreatDoor
open Go.RowKit
theorem LC.put3g {base hi g cap i : Nat} {w : World} {st : Int} {op : Bool} {ts : List Tx} (h : LC KT base hi w (.slice (some ⟨g, 0, none⟩) ts.length cap) ts) (hi' : i < ts.length) : LC KT base hi (((w.setCell ⟨g, i * 3, none⟩ (.int .i64 st)).setCell ⟨g, i * 3 + 1, none⟩ (.bool op)).setCell ⟨g, i * 3 + 2, none⟩ (.slice none 0 0)) (.slice (some ⟨g, 0, none⟩) ts.length cap) (ts.set i (st, op, [])) := by
  obtain ⟨h0, ⟨_, h⟩ | ⟨g2, cap2, ss, lo, up, h1, h2, h3, h4, h5, h6, h7⟩⟩ := h
  · cases h
  · cases h1
    have ht : ∀ k, k < ts.length * 3 → ∃ u, w.cell? ⟨g, k, none⟩ = some u := fun k hk => by
      obtain ⟨c0, _⟩ := h5 k hk
      obtain ⟨u0, hu0⟩ := Option.isSome_iff_exists.1 c0
      exact ⟨u0, by simpa using hu0⟩
    refine ⟨by simpa using h0, .inr ⟨g, cap, fun j => if j = i then .slice none 0 0 else ss j, lo, up, by rw [List.length_set], by rw [List.length_set]; exact h2, h3, h4, ?_, fun j hj => ?_, fun a b hab ha hb => by rw [List.length_set] at ha hb; exact h7 a b hab ha hb⟩⟩
    · rw [List.length_set]; exact there_set (there_set (there_set h5 _) _) _
    · rw [List.length_set] at hj
      obtain ⟨a1, a2, a3, a4⟩ := h6 j hj
      refine ⟨?_, a2, a3, a4⟩
      by_cases e : j = i
      · subst e
        simp only [List.getElem_set_self, if_true]
        refine ⟨fun t ht' => ?_, ⟨by simp; omega, .inl ⟨rfl, rfl⟩⟩⟩
        obtain ⟨u0, q0⟩ := ht (j * 3) (by omega)
        obtain ⟨u1, q1⟩ := ht (j * 3 + 1) (by omega)
        obtain ⟨u2, q2⟩ := ht (j * 3 + 2) (by omega)
        have r1 : (w.setCell ⟨g, j * 3, none⟩ (.int .i64 st)).cell? ⟨g, j * 3 + 1, none⟩ = some u1 := by rw [World.cell?_setCell_other _ _ _ _ (by intro q; injection q; omega)]; exact q1
        have r2 : ((w.setCell ⟨g, j * 3, none⟩ (.int .i64 st)).setCell ⟨g, j * 3 + 1, none⟩ (.bool op)).cell? ⟨g, j * 3 + 2, none⟩ = some u2 := by rw [World.cell?_setCell_other _ _ _ _ (by intro q; injection q; omega), World.cell?_setCell_other _ _ _ _ (by intro q; injection q; omega)]; exact q2
        have ht3 : t < 3 := ht'
        match t, ht3 with
        | 0, _ =>
          rw [World.cell?_setCell_other _ _ _ _ (by intro q; injection q; simp only [KT] at *; omega), World.cell?_setCell_other _ _ _ _ (by intro q; injection q; simp only [KT] at *; omega)]
          exact World.cell?_setCell_same _ _ _ q0
        | 1, _ =>
          rw [World.cell?_setCell_other _ _ _ _ (by intro q; injection q; simp only [KT] at *; omega)]
          exact World.cell?_setCell_same _ _ _ r1
        | 2, _ => exact World.cell?_setCell_same _ _ _ r2
      · simp only [if_neg e]
        rw [List.getElem_set_ne (by omega)]
        have hne : j * 3 + 3 ≤ i * 3 ∨ i * 3 + 3 ≤ j * 3 := by omega
        exact ((a1.set a4 (k := i * 3) (by show i * 3 < j * 3 ∨ j * 3 + 3 ≤ i * 3; omega) _).set a4 (k := i * 3 + 1) (by show i * 3 + 1 < j * 3 ∨ j * 3 + 3 ≤ i * 3 + 1; omega) _).set a4 (k := i * 3 + 2) (by show i * 3 + 2 < j * 3 ∨ j * 3 + 3 ≤ i * 3 + 2; omega) _
theorem LC.cells3 {base hi g cap i : Nat} {w : World} {ts : List Tx} (h : LC KT base hi w (.slice (some ⟨g, 0, none⟩) ts.length cap) ts) (hi' : i < ts.length) : (∃ u0 u1 u2, w.cell? ⟨g, i * 3, none⟩ = some u0 ∧ w.cell? ⟨g, i * 3 + 1, none⟩ = some u1 ∧ w.cell? ⟨g, i * 3 + 2, none⟩ = some u2) ∧ w.frozen? ⟨g, i * 3, none⟩ = false ∧ w.frozen? ⟨g, i * 3 + 1, none⟩ = false ∧ w.frozen? ⟨g, i * 3 + 2, none⟩ = false ∧ base ≤ g ∧ g < hi := by
  obtain ⟨h0, ⟨_, h⟩ | ⟨g2, cap2, ss, lo, up, h1, h2, h3, h4, h5, h6, h7⟩⟩ := h
  · cases h
  · cases h1
    have ht : ∀ k, k < ts.length * 3 → ∃ u, w.cell? ⟨g, k, none⟩ = some u := fun k hk => by
      obtain ⟨c0, _⟩ := h5 k hk
      obtain ⟨u0, hu0⟩ := Option.isSome_iff_exists.1 c0
      exact ⟨u0, by simpa using hu0⟩
    have hf : ∀ k, k < ts.length * 3 → w.frozen? ⟨g, k, none⟩ = false := fun k hk => by simpa using (h5 k hk).2
    obtain ⟨u0, q0⟩ := ht (i * 3) (by omega)
    obtain ⟨u1, q1⟩ := ht (i * 3 + 1) (by omega)
    obtain ⟨u2, q2⟩ := ht (i * 3 + 2) (by omega)
    exact ⟨⟨u0, u1, u2, q0, q1, q2⟩, hf _ (by omega), hf _ (by omega), hf _ (by omega), h3, h4⟩
theorem LC.some_form {α : Type} {K : Kd α} {base hi n : Nat} {w : World} {a : Option Addr} {cap : Nat} {xs : List α} (h : LC K base hi w (.slice a n cap) xs) (hx : 0 < xs.length) : ∃ g, a = some ⟨g, 0, none⟩ := by
  obtain ⟨h0, ⟨e, h⟩ | ⟨g2, cap2, ss, lo, up, h1, h2, h3, h4, h5, h6, h7⟩⟩ := h
  · subst e; simp at hx
  · cases h1; exact ⟨g2, rfl⟩
theorem LC.el3 {base hi g cap m : Nat} {w : World} {ts : List Tx} (h : LC KT base hi w (.slice (some ⟨g, 0, none⟩) ts.length cap) ts) (hm : m < ts.length) : ∃ ca cn cc, w.cell? ⟨g, 0 + m * 3, none⟩ = some (.int .i64 ts[m].1) ∧ w.cell? ⟨g, 0 + m * 3 + 1, none⟩ = some (.bool ts[m].2.1) ∧ w.cell? ⟨g, 0 + m * 3 + 2, none⟩ = some (.slice ca cn cc) := by
  obtain ⟨h0, ⟨_, h⟩ | ⟨g2, cap2, ss, lo, up, h1, h2, h3, h4, h5, h6, h7⟩⟩ := h
  · cases h
  · cases h1
    obtain ⟨a1, a2, a3, a4⟩ := h6 m hm
    obtain ⟨ca, cc, e, _⟩ := (show LC KC (lo m) (up m) w (ss m) ts[m].2.2 from a1.2).form
    have q0 := a1.1 0 (by decide)
    have q1 := a1.1 1 (by decide)
    have q2 := a1.1 2 (by decide)
    refine ⟨ca, ts[m].2.2.length, cc, ?_, ?_, ?_⟩
    · rw [Nat.zero_add]; exact q0
    · rw [Nat.zero_add]; exact q1
    · rw [Nat.zero_add]; rw [← e]; exact q2
end Go.Proofs.YtkdoigibpaempaaGreatDoor
