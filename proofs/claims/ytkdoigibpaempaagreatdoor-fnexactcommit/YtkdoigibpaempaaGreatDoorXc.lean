import Derived.Test.YtkdoigibpaempaaGreatDoorXl
import Derived.Test.YtkdoigibpaempaaGreatDoorJ14
set_option linter.unusedSimpArgs false
set_option linter.unusedVariables false
namespace Go.Proofs.YtkdoigibpaempaaGreatDoor
open Go.RowKit
def ChsS (w : World) (B : Nat) (xs : List Ch) : Prop := B < w.heap.size ∧ ∀ j (h : j < xs.length), ∃ c cp, c < w.heap.size ∧ (w.cell? ⟨B, j * 4, none⟩ = some (.int .i64 xs[j].1) ∧ w.cell? ⟨B, j * 4 + 1, none⟩ = some (.bool xs[j].2.1) ∧ w.cell? ⟨B, j * 4 + 2, none⟩ = some (.int .i64 xs[j].2.2.1) ∧ w.cell? ⟨B, j * 4 + 3, none⟩ = some (.slice (some ⟨c, 0, none⟩) xs[j].2.2.2.length cp)) ∧ xs[j].2.2.2.length ≤ 1099511627776 ∧ Pts w (some ⟨c, 0, none⟩) xs[j].2.2.2
theorem ChsS.below {w w' : World} {B : Nat} {xs : List Ch} (h : ChsS w B xs) (H : Below w.heap.size w w') : ChsS w' B xs := by
  refine ⟨Nat.lt_of_lt_of_le h.1 H.size, fun j hj => ?_⟩
  obtain ⟨c, cp, a0, ⟨a1, a2, a3, a4⟩, a6, a7⟩ := h.2 j hj
  exact ⟨c, cp, Nat.lt_of_lt_of_le a0 H.size, ⟨keepcell H a1, keepcell H a2, keepcell H a3, keepcell H a4⟩, a6, a7.below H⟩
def TxsS (w : World) (B : Nat) (xs : List Tx) : Prop := B < w.heap.size ∧ ∀ j (h : j < xs.length), ∃ c cp, c < w.heap.size ∧ (w.cell? ⟨B, j * 3, none⟩ = some (.int .i64 xs[j].1) ∧ w.cell? ⟨B, j * 3 + 1, none⟩ = some (.bool xs[j].2.1) ∧ w.cell? ⟨B, j * 3 + 2, none⟩ = some (.slice (some ⟨c, 0, none⟩) xs[j].2.2.length cp)) ∧ xs[j].2.2.length ≤ 1099511627776 ∧ ChsS w c xs[j].2.2
theorem TxsS.below {w w' : World} {B : Nat} {xs : List Tx} (h : TxsS w B xs) (H : Below w.heap.size w w') : TxsS w' B xs := by
  refine ⟨Nat.lt_of_lt_of_le h.1 H.size, fun j hj => ?_⟩
  obtain ⟨c, cp, a0, ⟨a1, a2, a3⟩, a6, a7⟩ := h.2 j hj
  exact ⟨c, cp, Nat.lt_of_lt_of_le a0 H.size, ⟨keepcell H a1, keepcell H a2, keepcell H a3⟩, a6, a7.below H⟩
def RwsZ (w : World) (B : Nat) (xs : List Rw) : Prop := B < w.heap.size ∧ ∀ j (h : j < xs.length), ∃ c cp, c < w.heap.size ∧ (w.cell? ⟨B, j * 5, none⟩ = some (.int .i64 xs[j].1) ∧ w.cell? ⟨B, j * 5 + 1, none⟩ = some (.int .i64 xs[j].2.1) ∧ w.cell? ⟨B, j * 5 + 2, none⟩ = some (.int .i64 xs[j].2.2.1) ∧ w.cell? ⟨B, j * 5 + 3, none⟩ = some (.int .i64 xs[j].2.2.2.1) ∧ w.cell? ⟨B, j * 5 + 4, none⟩ = some (.slice (some ⟨c, 0, none⟩) xs[j].2.2.2.2.length cp)) ∧ xs[j].2.2.2.2.length ≤ 1099511627776 ∧ Pts w (some ⟨c, 0, none⟩) xs[j].2.2.2.2
theorem RwsZ.below {w w' : World} {B : Nat} {xs : List Rw} (h : RwsZ w B xs) (H : Below w.heap.size w w') : RwsZ w' B xs := by
  refine ⟨Nat.lt_of_lt_of_le h.1 H.size, fun j hj => ?_⟩
  obtain ⟨c, cp, a0, ⟨a1, a2, a3, a4, a5⟩, a6, a7⟩ := h.2 j hj
  exact ⟨c, cp, Nat.lt_of_lt_of_le a0 H.size, ⟨keepcell H a1, keepcell H a2, keepcell H a3, keepcell H a4, keepcell H a5⟩, a6, a7.below H⟩
set_option maxRecDepth 100000 in
set_option maxHeartbeats 1000000 in
theorem chX_copied (id : Int) (gn : Bool) (kd : Int) (ps : List (Int × Int)) (b cap : Nat) (w : World) (hm : ps.length ≤ 1099511627776) (hbs : b < w.heap.size) (h : Pts w (some ⟨b, 0, none⟩) ps) : Calls Tryz.prog 86 #[.agg #[.int .i64 id, .bool gn, .int .i64 kd, .slice (some ⟨b, 0, none⟩) ps.length cap]] w fun e w' => ∃ sv lo up, e = .returned (.agg #[.int .i64 id, .bool gn, .int .i64 kd, sv]) ∧ KC.sub lo up w' sv (id, gn, kd, ps) ∧ w.heap.size ≤ lo ∧ Below w.heap.size w w' := by
  have hB : Below w.heap.size w ((w.alloc (.cells #[.int .i64 id, .bool gn, .int .i64 kd, .slice (some ⟨b, 0, none⟩) ps.length cap] 54)).alloc (.cells #[.int .i64 0, .bool false, .int .i64 0, .slice none 0 0] 54)) := balloc (balloc (Below.refl _ _) _) _
  have HC := hid (impl_copyG kd b 0 cap ps _ hm (h.below hB) (Nat.lt_of_lt_of_le hbs hB.size))
  clear h
  have g0 := old_alloc (o' := .cells #[.int .i64 0, .bool false, .int .i64 0, .slice none 0 0] 54) (new_alloc w w.heap.size (.cells #[.int .i64 id, .bool gn, .int .i64 kd, .slice (some ⟨b, 0, none⟩) ps.length cap] 54) rfl)
  have g1 := new_alloc (w.alloc (.cells #[.int .i64 id, .bool gn, .int .i64 kd, .slice (some ⟨b, 0, none⟩) ps.length cap] 54)) (w.heap.size + 1) (.cells #[.int .i64 0, .bool false, .int .i64 0, .slice none 0 0] 54) (by simp)
  go_enter Tryz.func86, Tryz.ntmps86
  go_upto_region 1 with fail
  have hWz : ((w.alloc (.cells #[.int .i64 id, .bool gn, .int .i64 kd, .slice (some ⟨b, 0, none⟩) ps.length cap] 54)).alloc (.cells #[.int .i64 0, .bool false, .int .i64 0, .slice none 0 0] 54)).heap.size = w.heap.size + 2 := by simp
  generalize (w.alloc (.cells #[.int .i64 id, .bool gn, .int .i64 kd, .slice (some ⟨b, 0, none⟩) ps.length cap] 54)).alloc (.cells #[.int .i64 0, .bool false, .int .i64 0, .slice none 0 0] 54) = W at *
  obtain ⟨⟨x0, x1, x2, x3⟩, _⟩ := cellk4 g0
  go_wp2_with fail
  refine HC.out.mono ?_
  rintro e y ⟨g, cp, rfl, hcp, hgs, ho, hy⟩
  obtain ⟨sv, hsv⟩ : ∃ sv, sv = Value.slice (some ⟨g, 0, none⟩) ps.length cp := ⟨_, rfl⟩
  rw [← hsv]
  have hWs := lt_of_block g1
  replace g0 := keepheap2 hy g0
  replace g1 := keepheap2 hy g1
  have HB := hid (btrans hB hy)
  have hyz := hy.size
  have HO := hid ho
  clear hB hy ho HC x0 x1 x2 x3
  obtain ⟨⟨x0, x1, x2, x3⟩, y0, y1, y2, y3⟩ := cellk4 g0
  obtain ⟨⟨v0, v1, v2, v3⟩, u0, u1, u2, u3⟩ := cellk4 g1
  rw [hsv]
  go_wp2_with fail
  rw [← hsv]
  have gF := setk4 (set_far (q := w.heap.size) (k := 3) (u := sv) (set_far (q := w.heap.size) (k := 2) (u := .int .i64 kd) g1 (by omega)) (by omega)) (.int .i64 id) (.bool gn) (.int .i64 kd) (sv)
  have bF := (bset (bset (bset (bset (bset (bset HB.out (q := w.heap.size) (k := 2) (Nat.le_refl _) (.int .i64 kd)) (q := w.heap.size) (k := 3) (Nat.le_refl _) (sv)) (q := w.heap.size + 1) (k := 0) (by omega) (.int .i64 id)) (q := w.heap.size + 1) (k := 1) (by omega) (.bool gn)) (q := w.heap.size + 1) (k := 2) (by omega) (.int .i64 kd)) (q := w.heap.size + 1) (k := 3) (by omega) (sv))
  have oF := own_blk (w' := ((((((y.setCell ⟨w.heap.size, 2, none⟩ (.int .i64 kd)).setCell ⟨w.heap.size, 3, none⟩ (sv)).setCell ⟨w.heap.size + 1, 0, none⟩ (.int .i64 id)).setCell ⟨w.heap.size + 1, 1, none⟩ (.bool gn)).setCell ⟨w.heap.size + 1, 2, none⟩ (.int .i64 kd)).setCell ⟨w.heap.size + 1, 3, none⟩ (sv))) HO.out (by rw [Below.heap_setCell _ _ _ _ (by dsimp only; omega), Below.heap_setCell _ _ _ _ (by dsimp only; omega), Below.heap_setCell _ _ _ _ (by dsimp only; omega), Below.heap_setCell _ _ _ _ (by dsimp only; omega), Below.heap_setCell _ _ _ _ (by dsimp only; omega), Below.heap_setCell _ _ _ _ (by dsimp only; omega)]) (by simp only [World.size_setCell]; exact HO.out.1)
  have hwz : ((((((y.setCell ⟨w.heap.size, 2, none⟩ (.int .i64 kd)).setCell ⟨w.heap.size, 3, none⟩ (sv)).setCell ⟨w.heap.size + 1, 0, none⟩ (.int .i64 id)).setCell ⟨w.heap.size + 1, 1, none⟩ (.bool gn)).setCell ⟨w.heap.size + 1, 2, none⟩ (.int .i64 kd)).setCell ⟨w.heap.size + 1, 3, none⟩ (sv)).heap.size = y.heap.size := by simp only [World.size_setCell]
  generalize ((((((y.setCell ⟨w.heap.size, 2, none⟩ (.int .i64 kd)).setCell ⟨w.heap.size, 3, none⟩ (sv)).setCell ⟨w.heap.size + 1, 0, none⟩ (.int .i64 id)).setCell ⟨w.heap.size + 1, 1, none⟩ (.bool gn)).setCell ⟨w.heap.size + 1, 2, none⟩ (.int .i64 kd)).setCell ⟨w.heap.size + 1, 3, none⟩ (sv)) = wf at *
  obtain ⟨⟨z0, z1, z2, z3⟩, _⟩ := cellk4 gF
  exact bodyPost_ret (v := .agg #[.int .i64 id, .bool gn, .int .i64 kd, sv]) (by simp [results, Tryz.results86, go_sem, z0, z1, z2, z3]) rfl ⟨sv, g, g + 1, rfl, ⟨by have := HO.out.1; omega, g, cp, hsv, hcp, hm, Nat.le_refl _, by omega, oF⟩, by omega, bF⟩
set_option maxRecDepth 100000 in
set_option maxHeartbeats 1000000 in
theorem chX_clo (id : Int) (gn : Bool) (kd : Int) (ps : List (Int × Int)) (b cap : Nat) (w : World) (hm : ps.length ≤ 1099511627776) (hbs : b < w.heap.size) (h : Pts w (some ⟨b, 0, none⟩) ps) : Calls Tryz.prog 85 #[.agg #[.int .i64 id, .bool gn, .int .i64 kd, .slice (some ⟨b, 0, none⟩) ps.length cap]] w fun e w' => ∃ sv lo up, e = .returned (.tuple #[.agg #[.int .i64 id, .bool gn, .int .i64 kd, sv], .bool true]) ∧ KC.sub lo up w' sv (id, gn, kd, ps) ∧ w.heap.size ≤ lo ∧ Below w.heap.size w w' := by
  have hB : Below w.heap.size w ((w.alloc (.cells #[.int .i64 id, .bool gn, .int .i64 kd, .slice (some ⟨b, 0, none⟩) ps.length cap] 54)).alloc (.cells #[.int .i64 0, .bool false, .int .i64 0, .slice none 0 0] 54)) := balloc (balloc (Below.refl _ _) _) _
  have HC := hid (chX_copied id gn kd ps b cap _ hm (Nat.lt_of_lt_of_le hbs hB.size) (h.below hB))
  clear h
  have g0 := old_alloc (o' := .cells #[.int .i64 0, .bool false, .int .i64 0, .slice none 0 0] 54) (new_alloc w w.heap.size (.cells #[.int .i64 id, .bool gn, .int .i64 kd, .slice (some ⟨b, 0, none⟩) ps.length cap] 54) rfl)
  have g1 := new_alloc (w.alloc (.cells #[.int .i64 id, .bool gn, .int .i64 kd, .slice (some ⟨b, 0, none⟩) ps.length cap] 54)) (w.heap.size + 1) (.cells #[.int .i64 0, .bool false, .int .i64 0, .slice none 0 0] 54) (by simp)
  go_enter Tryz.func85, Tryz.ntmps85
  go_upto_region 1 with fail
  have hWz : ((w.alloc (.cells #[.int .i64 id, .bool gn, .int .i64 kd, .slice (some ⟨b, 0, none⟩) ps.length cap] 54)).alloc (.cells #[.int .i64 0, .bool false, .int .i64 0, .slice none 0 0] 54)).heap.size = w.heap.size + 2 := by simp
  generalize (w.alloc (.cells #[.int .i64 id, .bool gn, .int .i64 kd, .slice (some ⟨b, 0, none⟩) ps.length cap] 54)).alloc (.cells #[.int .i64 0, .bool false, .int .i64 0, .slice none 0 0] 54) = W at *
  obtain ⟨⟨x0, x1, x2, x3⟩, _⟩ := cellk4 g0
  go_wp2_with fail
  refine HC.out.mono ?_
  rintro e y ⟨sv, lo, up, rfl, hsub, hlo, hy⟩
  have hyz := hy.size
  replace g1 := keepheap2 hy g1
  have HB := hid (btrans hB hy)
  have HO := hid hsub
  have hone := KC.one hsub sv (by simp [KC])
  clear hB hy hsub HC g0 x0 x1 x2 x3
  obtain ⟨⟨v0, v1, v2, v3⟩, u0, u1, u2, u3⟩ := cellk4 g1
  obtain ⟨sa, sn, sc, hsv⟩ : ∃ a n c, sv = .slice a n c := by obtain ⟨_, c, cp, e, _⟩ := HO.out; exact ⟨_, _, _, e⟩
  have HSV := hid hsv.symm
  subst hsv
  go_wp2_with fail
  have gF := setk4 g1 (.int .i64 id) (.bool gn) (.int .i64 kd) (.slice sa sn sc)
  have bF := (bset (bset (bset (bset HB.out (q := w.heap.size + 1) (k := 0) (by omega) (.int .i64 id)) (q := w.heap.size + 1) (k := 1) (by omega) (.bool gn)) (q := w.heap.size + 1) (k := 2) (by omega) (.int .i64 kd)) (q := w.heap.size + 1) (k := 3) (by omega) (.slice sa sn sc))
  have oF := KC.frame (w' := ((((y.setCell ⟨w.heap.size + 1, 0, none⟩ (.int .i64 id)).setCell ⟨w.heap.size + 1, 1, none⟩ (.bool gn)).setCell ⟨w.heap.size + 1, 2, none⟩ (.int .i64 kd)).setCell ⟨w.heap.size + 1, 3, none⟩ (.slice sa sn sc))) HO.out (fun c c1 c2 => by rw [Below.heap_setCell _ _ _ _ (by dsimp only; omega), Below.heap_setCell _ _ _ _ (by dsimp only; omega), Below.heap_setCell _ _ _ _ (by dsimp only; omega), Below.heap_setCell _ _ _ _ (by dsimp only; omega)]) (by simp only [World.size_setCell]; omega)
  generalize ((((y.setCell ⟨w.heap.size + 1, 0, none⟩ (.int .i64 id)).setCell ⟨w.heap.size + 1, 1, none⟩ (.bool gn)).setCell ⟨w.heap.size + 1, 2, none⟩ (.int .i64 kd)).setCell ⟨w.heap.size + 1, 3, none⟩ (.slice sa sn sc)) = wf at *
  obtain ⟨⟨z0, z1, z2, z3⟩, _⟩ := cellk4 gF
  exact bodyPost_ret (v := .tuple #[.agg #[.int .i64 id, .bool gn, .int .i64 kd, .slice sa sn sc], .bool true]) (by simp [results, Tryz.results85, go_sem, z0, z1, z2, z3]) rfl ⟨_, lo, up, rfl, oF, by omega, bF⟩
theorem make_chX0 (n : Nat) (hn : n ≤ 1099511627776) (w : World) : (Instr.makeSlice 45 (.int .i64 0) (.int .i64 n)).run Tryz.prog w = .ok (.slice (some ⟨w.heap.size, 0, none⟩) 0 n) (w.alloc (.cells (madeCells #[.int .i64 0, .bool false, .int .i64 0, .slice none 0 0] (n * 4)) 54)) := by
  obtain ⟨i0, hi, hz0, hz1, hz2⟩ := info_parts Tryz.infoCh
  have := run_make (P := Tryz.prog) w 45 54 i0 _ Tryz.underlying45 hi hz0 .i64 .i64 0 n (by omega) (by omega) (by rw [hz2]; omega) (by omega)
  rw [hz1] at this
  exact this
set_option maxRecDepth 100000 in
set_option maxHeartbeats 2000000 in
theorem kept_ch (B cap : Nat) (xs : List Ch) (w : World) (hm : xs.length ≤ 1099511627776) (h : ChsS w B xs) : Calls Tryz.prog 84 #[.slice (some ⟨B, 0, none⟩) xs.length cap, .func (.func 85) #[] #[]] w fun e w' => ∃ v ps, e = .returned v ∧ LX KC 54 w.heap.size w'.heap.size w' v xs ps ∧ (∃ g c, v = .slice (some ⟨g, 0, none⟩) xs.length c) ∧ Below w.heap.size w w' := by
  obtain ⟨i0, hi0, hz0, hz1, hz2⟩ := info_parts Tryz.infoCh
  have HR := hid h
  clear h
  have hmk := make_chX0 xs.length hm
  obtain ⟨n, hn⟩ : ∃ n, n = xs.length := ⟨_, rfl⟩
  have HN := hid hn.symm
  rw [← hn] at hm hmk ⊢
  clear hn
  have hB0 : Below w.heap.size w (w.alloc (.cells (madeCells #[.int .i64 0, .bool false, .int .i64 0, .slice none 0 0] (n * 4)) 54)) := balloc (Below.refl _ _) _
  have HI : Hid (LX KC 54 w.heap.size (w.alloc (.cells (madeCells #[.int .i64 0, .bool false, .int .i64 0, .slice none 0 0] (n * 4)) 54)).heap.size (w.alloc (.cells (madeCells #[.int .i64 0, .bool false, .int .i64 0, .slice none 0 0] (n * 4)) 54)) (.slice (some ⟨w.heap.size, 0, none⟩) 0 n) [] []) := hid (by
    have := World.ownsRow_made (base := w.heap.size) (e := 54) (size := 4) w (madeCells #[.int .i64 0, .bool false, .int .i64 0, .slice none 0 0] (n * 4)) n (Nat.le_refl _) (by unfold maxLen; omega) (size_madeCells _ _)
    exact LX.nil this (fun g e => by simp [Value.ownBlock] at e; subst e; simp) (Nat.le_refl _))
  go_enter Tryz.func84, Tryz.ntmps84
  go_upto_region 2 with fail
  generalize w.alloc (.cells (madeCells #[.int .i64 0, .bool false, .int .i64 0, .slice none 0 0] (n * 4)) 54) = W0 at *
  clear hmk
  go_wp2_with fail
  go_loopw [5, 15] (fun tv ti wr => ∃ i : Nat, ∃ g5 c5 : Nat, ∃ ps' : List (Ch × Value), ti = .int .i64 i ∧ i ≤ n ∧ tv = .slice (some ⟨g5, 0, none⟩) i c5 ∧ Hid (LX KC 54 w.heap.size wr.heap.size wr (.slice (some ⟨g5, 0, none⟩) i c5) (xs.take i) ps') ∧ Hid (Below w.heap.size w wr)) (fun _ ti _ => n - (intOf ti).toNat)
  case atStart => exact ⟨0, w.heap.size, n, [], rfl, Nat.zero_le _, rfl, HI, hid hB0⟩
  case round =>
    clear HI hB0
    obtain ⟨i, g5, c5, ps', rfl, hi, rfl, HV, HBW⟩ := hrel
    have hwX := HBW.out.size
    by_cases hlt : i < n
    · have d1 : (i : Int) < (n : Int) := by omega
      have hir : i < xs.length := by rw [HN.out]; exact hlt
      obtain ⟨ci, cpi, k9, ⟨k0, k1, k2, k3⟩, k6, k7⟩ := (HR.out.below HBW.out).2 i hir
      have HX : Hid (xs.take (i + 1) = xs.take i ++ [xs[i]]) := hid (by rw [List.take_add_one, List.getElem?_eq_getElem hir]; rfl)
      have hil : (xs.take i).length = i := by rw [List.length_take]; omega
      obtain ⟨r, hr⟩ : ∃ r, r = xs[i] := ⟨_, rfl⟩
      rw [← hr] at k0 k1 k2 k3 k6 k7 HX
      clear hr
      obtain ⟨id, gn, kd, ps⟩ := r
      simp only at k0 k1 k2 k3 k6 k7
      have hbx : Below wr.heap.size wr (wr.alloc (.cells #[.int .i64 id, .bool gn, .int .i64 kd, .slice (some ⟨ci, 0, none⟩) ps.length cpi] 54)) := balloc (Below.refl _ _) _
      have HT1 := hid (chX_clo id gn kd ps ci cpi _ k6 (Nat.lt_of_lt_of_le k9 hbx.size) (k7.below hbx))
      clear k7
      go_upto_region 5 with fail
      have gx := new_alloc wr wr.heap.size (.cells #[.int .i64 id, .bool gn, .int .i64 kd, .slice (some ⟨ci, 0, none⟩) ps.length cpi] 54) rfl
      have HI1 := hid (HV.out.below hbx)
      have HB1 := hid (btrans HBW.out hbx)
      have hs1 := hbx.size
      have hs2 : wr.heap.size < (wr.alloc (.cells #[.int .i64 id, .bool gn, .int .i64 kd, .slice (some ⟨ci, 0, none⟩) ps.length cpi] 54)).heap.size := by simp
      clear k0 k1 k2 k3 hbx HV
      generalize wr.alloc (.cells #[.int .i64 id, .bool gn, .int .i64 kd, .slice (some ⟨ci, 0, none⟩) ps.length cpi] 54) = W1 at *
      generalize wr.heap.size = Xh at *
      obtain ⟨⟨x0, x1, x2, x3⟩, _⟩ := cellk4 gx
      clear gx
      go_wp2_with fail
      refine HT1.out.mono ?_
      rintro e z ⟨sv, lo, up, rfl, hsub, hlo, hz⟩
      have HBz := hid (btrans HB1.out hz)
      have HIz := hid (HI1.out.below hz)
      have HO := hid hsub
      have hzs := hz.size
      have hwz := HBz.out.size
      obtain ⟨sa, sn, sc, hsv⟩ : ∃ a n c, sv = .slice a n c := by obtain ⟨_, c, cp, e, _⟩ := HO.out; exact ⟨_, _, _, e⟩
      clear hz hsub x0 x1 x2 x3 HT1 HI1 HB1
      subst hsv
      go_upto_region 7 with fail
      have hal : Below z.heap.size z (z.alloc (.cells #[.int .i64 id, .bool gn, .int .i64 kd, .slice sa sn sc] 54)) := balloc (Below.refl _ _) _
      have gy := new_alloc z z.heap.size (.cells #[.int .i64 id, .bool gn, .int .i64 kd, .slice sa sn sc] 54) rfl
      have HIa := hid (HIz.out.below hal)
      have HBa := hid (btrans HBz.out hal)
      have HOa := hid (KC.frame HO.out (fun c _ h2 => hal.block c (by have := KC.top HO.out; omega)) hal.size)
      have has : z.heap.size < (z.alloc (.cells #[.int .i64 id, .bool gn, .int .i64 kd, .slice sa sn sc] 54)).heap.size := by simp
      clear hal HO HIz HBz
      generalize z.alloc (.cells #[.int .i64 id, .bool gn, .int .i64 kd, .slice sa sn sc] 54) = Z at *
      obtain ⟨⟨x0, x1, x2, x3⟩, _⟩ := cellk4 gy
      clear gy
      have hownZ : Z.ownsRow w.heap.size 54 4 (.slice (some ⟨g5, 0, none⟩) i c5) i (flatK KC ps') := by have := HIa.out.2.1; rw [hil] at this; exact this
      go_wp2_with (at_builtin; (refine wpList_append_lies _ rfl (.tmp 26) (.tmp 28) 45 rfl w.heap.size 54 i0 _ 4 48 Tryz.underlying45 hi0 hz0 hz1 hz2 rfl (by decide) (.slice (some ⟨g5, 0, none⟩) i c5) i (flatK KC ps') rfl (hownZ.alloc _) ⟨Z.heap.size, 0, none⟩ 1 1 [.int .i64 id, .bool gn, .int .i64 kd, .slice sa sn sc] rfl rfl (World.news_of_block (cs := #[.int .i64 id, .bool gn, .int .i64 kd, .slice sa sn sc]) (t := 54) (fr := (0, 0)) (heap_alloc_new Z _)) (by simp [Value.oneCell']) (by omega) (by unfold maxLen; omega) (by omega) (by simp; omega) (Z.heap.size + 1) (by simp) ?_; intro gg cq w2 hown2 hgrow hat hlt2))
      have hal2 : Below Z.heap.size Z (Z.alloc (.cells #[.int .i64 id, .bool gn, .int .i64 kd, .slice sa sn sc] 54)) := balloc (Below.refl _ _) _
      have hsn := LX.snoc (x := (id, gn, kd, ps)) (sv := .slice sa sn sc) (l := lo) (u := up) (g := gg) (cap := cq) (HIa.out.below hal2) (by omega) (by omega) (KC.frame HOa.out (fun c _ h2 => hal2.block c (by have := KC.top HOa.out; omega)) hal2.size) (by rw [hil]; exact hown2) hgrow (by simpa using hat) hlt2
      rw [hil] at hsn
      have hb2 : Below w.heap.size w w2 := Below.grown (balloc HBa.out _) hgrow (by simp; omega) (fun k e => (hownZ.lt k e).1)
      have HSN2 : Hid (LX KC 54 w.heap.size w2.heap.size w2 (.slice (some ⟨gg, 0, none⟩) (i + 1) cq) (xs.take (i + 1)) (ps' ++ [((id, gn, kd, ps), .slice sa sn sc)])) := hid (by rw [HX.out]; exact hsn)
      have HB2 := hid hb2
      clear hsn hb2 hown2 hgrow hal2 hownZ x0 x1 x2 x3
      go_roundw
      case rel => exact ⟨i + 1, gg, cq, _, by go_num, by omega, rfl, HSN2, HB2⟩
      case measure => simp [intOf]; omega
    · have d1 : (n : Int) ≤ (i : Int) := by omega
      have hin : i = n := by omega
      subst hin
      have HF : Hid (LX KC 54 w.heap.size wr.heap.size wr (.slice (some ⟨g5, 0, none⟩) i c5) xs ps') := hid (by have := HV.out; rw [← HN.out, List.take_length] at this; rw [← HN.out]; exact this)
      clear HV
      go_wp2_with fail
      go_ret
      exact ⟨_, ps', rfl, HF.out, ⟨g5, c5, rfl⟩, HBW.out⟩
set_option maxRecDepth 100000 in
set_option maxHeartbeats 1000000 in
theorem txX_copied (st : Int) (op : Bool) (cs : List Ch) (b cap : Nat) (w : World) (hm : cs.length ≤ 1099511627776) (hbs : b < w.heap.size) (h : ChsS w b cs) : Calls Tryz.prog 61 #[.agg #[.int .i64 st, .bool op, .slice (some ⟨b, 0, none⟩) cs.length cap]] w fun e w' => ∃ sv lo up, e = .returned (.agg #[.int .i64 st, .bool op, sv]) ∧ KT.sub lo up w' sv (st, op, cs) ∧ w.heap.size ≤ lo ∧ Below w.heap.size w w' := by
  have hB : Below w.heap.size w ((w.alloc (.cells #[.int .i64 st, .bool op, .slice (some ⟨b, 0, none⟩) cs.length cap] 48)).alloc (.cells #[.int .i64 0, .bool false, .slice none 0 0] 48)) := balloc (balloc (Below.refl _ _) _) _
  have HC := hid (kept_ch b cap cs _ hm (h.below hB))
  clear h
  have g0 := old_alloc (o' := .cells #[.int .i64 0, .bool false, .slice none 0 0] 48) (new_alloc w w.heap.size (.cells #[.int .i64 st, .bool op, .slice (some ⟨b, 0, none⟩) cs.length cap] 48) rfl)
  have g1 := new_alloc (w.alloc (.cells #[.int .i64 st, .bool op, .slice (some ⟨b, 0, none⟩) cs.length cap] 48)) (w.heap.size + 1) (.cells #[.int .i64 0, .bool false, .slice none 0 0] 48) (by simp)
  go_enter Tryz.func61, Tryz.ntmps61
  go_upto_region 1 with fail
  have hWz : ((w.alloc (.cells #[.int .i64 st, .bool op, .slice (some ⟨b, 0, none⟩) cs.length cap] 48)).alloc (.cells #[.int .i64 0, .bool false, .slice none 0 0] 48)).heap.size = w.heap.size + 2 := by simp
  generalize (w.alloc (.cells #[.int .i64 st, .bool op, .slice (some ⟨b, 0, none⟩) cs.length cap] 48)).alloc (.cells #[.int .i64 0, .bool false, .slice none 0 0] 48) = W at *
  obtain ⟨⟨x0, x1, x2⟩, _⟩ := cellk3 g0
  go_wp2_with fail
  refine HC.out.mono ?_
  rintro e y ⟨sv, pv, rfl, hX, hsv, hy⟩
  have hlc := hX.lc
  have hgs := hB.size
  have hWs := lt_of_block g1
  replace g0 := keepheap2 hy g0
  replace g1 := keepheap2 hy g1
  have HB := hid (btrans hB hy)
  have hyz := hy.size
  have HO := hid hlc
  clear hB hy hX hlc HC x0 x1 x2
  obtain ⟨⟨x0, x1, x2⟩, y0, y1, y2⟩ := cellk3 g0
  obtain ⟨⟨v0, v1, v2⟩, u0, u1, u2⟩ := cellk3 g1
  obtain ⟨ga, gc, hsv2⟩ := hsv
  obtain ⟨sv', hsv3⟩ : ∃ s, s = sv := ⟨_, rfl⟩
  rw [hsv2]
  go_wp2_with fail
  rw [← hsv2]
  have gF := setk3 (set_far (q := w.heap.size) (k := 2) (u := sv) g1 (by omega)) (.int .i64 st) (.bool op) (sv)
  have bF := (bset (bset (bset (bset HB.out (q := w.heap.size) (k := 2) (Nat.le_refl _) (sv)) (q := w.heap.size + 1) (k := 0) (by omega) (.int .i64 st)) (q := w.heap.size + 1) (k := 1) (by omega) (.bool op)) (q := w.heap.size + 1) (k := 2) (by omega) (sv))
  have oF := HO.out.frame (w' := ((((y.setCell ⟨w.heap.size, 2, none⟩ (sv)).setCell ⟨w.heap.size + 1, 0, none⟩ (.int .i64 st)).setCell ⟨w.heap.size + 1, 1, none⟩ (.bool op)).setCell ⟨w.heap.size + 1, 2, none⟩ (sv))) (fun c c1 c2 => (by rw [Below.heap_setCell _ _ _ _ (by dsimp only; omega), Below.heap_setCell _ _ _ _ (by dsimp only; omega), Below.heap_setCell _ _ _ _ (by dsimp only; omega), Below.heap_setCell _ _ _ _ (by dsimp only; omega)])) (by simp only [World.size_setCell]; omega)
  have hwz : ((((y.setCell ⟨w.heap.size, 2, none⟩ (sv)).setCell ⟨w.heap.size + 1, 0, none⟩ (.int .i64 st)).setCell ⟨w.heap.size + 1, 1, none⟩ (.bool op)).setCell ⟨w.heap.size + 1, 2, none⟩ (sv)).heap.size = y.heap.size := by simp only [World.size_setCell]
  generalize ((((y.setCell ⟨w.heap.size, 2, none⟩ (sv)).setCell ⟨w.heap.size + 1, 0, none⟩ (.int .i64 st)).setCell ⟨w.heap.size + 1, 1, none⟩ (.bool op)).setCell ⟨w.heap.size + 1, 2, none⟩ (sv)) = wf at *
  obtain ⟨⟨z0, z1, z2⟩, _⟩ := cellk3 gF
  exact bodyPost_ret (v := .agg #[.int .i64 st, .bool op, sv]) (by simp [results, Tryz.results61, go_sem, z0, z1, z2]) rfl ⟨sv, _, _, rfl, oF, by omega, bF⟩
set_option maxRecDepth 100000 in
set_option maxHeartbeats 1000000 in
theorem txX_clo (st : Int) (op : Bool) (cs : List Ch) (b cap : Nat) (w : World) (hm : cs.length ≤ 1099511627776) (hbs : b < w.heap.size) (h : ChsS w b cs) : Calls Tryz.prog 60 #[.agg #[.int .i64 st, .bool op, .slice (some ⟨b, 0, none⟩) cs.length cap]] w fun e w' => ∃ sv lo up, e = .returned (.tuple #[.agg #[.int .i64 st, .bool op, sv], .bool true]) ∧ KT.sub lo up w' sv (st, op, cs) ∧ w.heap.size ≤ lo ∧ Below w.heap.size w w' := by
  have hB : Below w.heap.size w ((w.alloc (.cells #[.int .i64 st, .bool op, .slice (some ⟨b, 0, none⟩) cs.length cap] 48)).alloc (.cells #[.int .i64 0, .bool false, .slice none 0 0] 48)) := balloc (balloc (Below.refl _ _) _) _
  have HC := hid (txX_copied st op cs b cap _ hm (Nat.lt_of_lt_of_le hbs hB.size) (h.below hB))
  clear h
  have g0 := old_alloc (o' := .cells #[.int .i64 0, .bool false, .slice none 0 0] 48) (new_alloc w w.heap.size (.cells #[.int .i64 st, .bool op, .slice (some ⟨b, 0, none⟩) cs.length cap] 48) rfl)
  have g1 := new_alloc (w.alloc (.cells #[.int .i64 st, .bool op, .slice (some ⟨b, 0, none⟩) cs.length cap] 48)) (w.heap.size + 1) (.cells #[.int .i64 0, .bool false, .slice none 0 0] 48) (by simp)
  go_enter Tryz.func60, Tryz.ntmps60
  go_upto_region 1 with fail
  have hWz : ((w.alloc (.cells #[.int .i64 st, .bool op, .slice (some ⟨b, 0, none⟩) cs.length cap] 48)).alloc (.cells #[.int .i64 0, .bool false, .slice none 0 0] 48)).heap.size = w.heap.size + 2 := by simp
  generalize (w.alloc (.cells #[.int .i64 st, .bool op, .slice (some ⟨b, 0, none⟩) cs.length cap] 48)).alloc (.cells #[.int .i64 0, .bool false, .slice none 0 0] 48) = W at *
  obtain ⟨⟨x0, x1, x2⟩, _⟩ := cellk3 g0
  go_wp2_with fail
  refine HC.out.mono ?_
  rintro e y ⟨sv, lo, up, rfl, hsub, hlo, hy⟩
  have hyz := hy.size
  replace g1 := keepheap2 hy g1
  have HB := hid (btrans hB hy)
  have HO := hid hsub
  have hone := KT.one hsub sv (by simp [KT])
  clear hB hy hsub HC g0 x0 x1 x2
  obtain ⟨⟨v0, v1, v2⟩, u0, u1, u2⟩ := cellk3 g1
  obtain ⟨sa, sn, sc, hsv⟩ : ∃ a n c, sv = .slice a n c := by obtain ⟨a, c, e, _⟩ := LC.form (xs := cs) HO.out; exact ⟨_, _, _, e⟩
  have HSV := hid hsv.symm
  subst hsv
  go_wp2_with fail
  have gF := setk3 g1 (.int .i64 st) (.bool op) (.slice sa sn sc)
  have bF := (bset (bset (bset HB.out (q := w.heap.size + 1) (k := 0) (by omega) (.int .i64 st)) (q := w.heap.size + 1) (k := 1) (by omega) (.bool op)) (q := w.heap.size + 1) (k := 2) (by omega) (.slice sa sn sc))
  have oF := KT.frame (w' := (((y.setCell ⟨w.heap.size + 1, 0, none⟩ (.int .i64 st)).setCell ⟨w.heap.size + 1, 1, none⟩ (.bool op)).setCell ⟨w.heap.size + 1, 2, none⟩ (.slice sa sn sc))) HO.out (fun c c1 c2 => by rw [Below.heap_setCell _ _ _ _ (by dsimp only; omega), Below.heap_setCell _ _ _ _ (by dsimp only; omega), Below.heap_setCell _ _ _ _ (by dsimp only; omega)]) (by simp only [World.size_setCell]; omega)
  generalize (((y.setCell ⟨w.heap.size + 1, 0, none⟩ (.int .i64 st)).setCell ⟨w.heap.size + 1, 1, none⟩ (.bool op)).setCell ⟨w.heap.size + 1, 2, none⟩ (.slice sa sn sc)) = wf at *
  obtain ⟨⟨z0, z1, z2⟩, _⟩ := cellk3 gF
  exact bodyPost_ret (v := .tuple #[.agg #[.int .i64 st, .bool op, .slice sa sn sc], .bool true]) (by simp [results, Tryz.results60, go_sem, z0, z1, z2]) rfl ⟨_, lo, up, rfl, oF, by omega, bF⟩
theorem make_txX0 (n : Nat) (hn : n ≤ 1099511627776) (w : World) : (Instr.makeSlice 32 (.int .i64 0) (.int .i64 n)).run Tryz.prog w = .ok (.slice (some ⟨w.heap.size, 0, none⟩) 0 n) (w.alloc (.cells (madeCells #[.int .i64 0, .bool false, .slice none 0 0] (n * 3)) 48)) := by
  obtain ⟨i0, hi, hz0, hz1, hz2⟩ := info_parts Tryz.infoTx
  have := run_make (P := Tryz.prog) w 32 48 i0 _ Tryz.underlying32 hi hz0 .i64 .i64 0 n (by omega) (by omega) (by rw [hz2]; omega) (by omega)
  rw [hz1] at this
  exact this
set_option maxRecDepth 100000 in
set_option maxHeartbeats 2000000 in
theorem kept_tx (B cap : Nat) (xs : List Tx) (w : World) (hm : xs.length ≤ 1099511627776) (h : TxsS w B xs) : Calls Tryz.prog 59 #[.slice (some ⟨B, 0, none⟩) xs.length cap, .func (.func 60) #[] #[]] w fun e w' => ∃ v ps, e = .returned v ∧ LX KT 48 w.heap.size w'.heap.size w' v xs ps ∧ (∃ g c, v = .slice (some ⟨g, 0, none⟩) xs.length c) ∧ Below w.heap.size w w' := by
  obtain ⟨i0, hi0, hz0, hz1, hz2⟩ := info_parts Tryz.infoTx
  have HR := hid h
  clear h
  have hmk := make_txX0 xs.length hm
  obtain ⟨n, hn⟩ : ∃ n, n = xs.length := ⟨_, rfl⟩
  have HN := hid hn.symm
  rw [← hn] at hm hmk ⊢
  clear hn
  have hB0 : Below w.heap.size w (w.alloc (.cells (madeCells #[.int .i64 0, .bool false, .slice none 0 0] (n * 3)) 48)) := balloc (Below.refl _ _) _
  have HI : Hid (LX KT 48 w.heap.size (w.alloc (.cells (madeCells #[.int .i64 0, .bool false, .slice none 0 0] (n * 3)) 48)).heap.size (w.alloc (.cells (madeCells #[.int .i64 0, .bool false, .slice none 0 0] (n * 3)) 48)) (.slice (some ⟨w.heap.size, 0, none⟩) 0 n) [] []) := hid (by
    have := World.ownsRow_made (base := w.heap.size) (e := 48) (size := 3) w (madeCells #[.int .i64 0, .bool false, .slice none 0 0] (n * 3)) n (Nat.le_refl _) (by unfold maxLen; omega) (size_madeCells _ _)
    exact LX.nil this (fun g e => by simp [Value.ownBlock] at e; subst e; simp) (Nat.le_refl _))
  go_enter Tryz.func59, Tryz.ntmps59
  go_upto_region 2 with fail
  generalize w.alloc (.cells (madeCells #[.int .i64 0, .bool false, .slice none 0 0] (n * 3)) 48) = W0 at *
  clear hmk
  go_wp2_with fail
  go_loopw [5, 15] (fun tv ti wr => ∃ i : Nat, ∃ g5 c5 : Nat, ∃ ps' : List (Tx × Value), ti = .int .i64 i ∧ i ≤ n ∧ tv = .slice (some ⟨g5, 0, none⟩) i c5 ∧ Hid (LX KT 48 w.heap.size wr.heap.size wr (.slice (some ⟨g5, 0, none⟩) i c5) (xs.take i) ps') ∧ Hid (Below w.heap.size w wr)) (fun _ ti _ => n - (intOf ti).toNat)
  case atStart => exact ⟨0, w.heap.size, n, [], rfl, Nat.zero_le _, rfl, HI, hid hB0⟩
  case round =>
    clear HI hB0
    obtain ⟨i, g5, c5, ps', rfl, hi, rfl, HV, HBW⟩ := hrel
    have hwX := HBW.out.size
    by_cases hlt : i < n
    · have d1 : (i : Int) < (n : Int) := by omega
      have hir : i < xs.length := by rw [HN.out]; exact hlt
      obtain ⟨ci, cpi, k9, ⟨k0, k1, k2⟩, k6, k7⟩ := (HR.out.below HBW.out).2 i hir
      have HX : Hid (xs.take (i + 1) = xs.take i ++ [xs[i]]) := hid (by rw [List.take_add_one, List.getElem?_eq_getElem hir]; rfl)
      have hil : (xs.take i).length = i := by rw [List.length_take]; omega
      obtain ⟨r, hr⟩ : ∃ r, r = xs[i] := ⟨_, rfl⟩
      rw [← hr] at k0 k1 k2 k6 k7 HX
      clear hr
      obtain ⟨st, op, cs⟩ := r
      simp only at k0 k1 k2 k6 k7
      have hbx : Below wr.heap.size wr (wr.alloc (.cells #[.int .i64 st, .bool op, .slice (some ⟨ci, 0, none⟩) cs.length cpi] 48)) := balloc (Below.refl _ _) _
      have HT1 := hid (txX_clo st op cs ci cpi _ k6 (Nat.lt_of_lt_of_le k9 hbx.size) (k7.below hbx))
      clear k7
      go_upto_region 5 with fail
      have gx := new_alloc wr wr.heap.size (.cells #[.int .i64 st, .bool op, .slice (some ⟨ci, 0, none⟩) cs.length cpi] 48) rfl
      have HI1 := hid (HV.out.below hbx)
      have HB1 := hid (btrans HBW.out hbx)
      have hs1 := hbx.size
      have hs2 : wr.heap.size < (wr.alloc (.cells #[.int .i64 st, .bool op, .slice (some ⟨ci, 0, none⟩) cs.length cpi] 48)).heap.size := by simp
      clear k0 k1 k2 hbx HV
      generalize wr.alloc (.cells #[.int .i64 st, .bool op, .slice (some ⟨ci, 0, none⟩) cs.length cpi] 48) = W1 at *
      generalize wr.heap.size = Xh at *
      obtain ⟨⟨x0, x1, x2⟩, _⟩ := cellk3 gx
      clear gx
      go_wp2_with fail
      refine HT1.out.mono ?_
      rintro e z ⟨sv, lo, up, rfl, hsub, hlo, hz⟩
      have HBz := hid (btrans HB1.out hz)
      have HIz := hid (HI1.out.below hz)
      have HO := hid hsub
      have hzs := hz.size
      have hwz := HBz.out.size
      obtain ⟨sa, sn, sc, hsv⟩ : ∃ a n c, sv = .slice a n c := by obtain ⟨a, c, e, _⟩ := LC.form (xs := cs) HO.out; exact ⟨_, _, _, e⟩
      clear hz hsub x0 x1 x2 HT1 HI1 HB1
      subst hsv
      go_upto_region 7 with fail
      have hal : Below z.heap.size z (z.alloc (.cells #[.int .i64 st, .bool op, .slice sa sn sc] 48)) := balloc (Below.refl _ _) _
      have gy := new_alloc z z.heap.size (.cells #[.int .i64 st, .bool op, .slice sa sn sc] 48) rfl
      have HIa := hid (HIz.out.below hal)
      have HBa := hid (btrans HBz.out hal)
      have HOa := hid (KT.frame HO.out (fun c _ h2 => hal.block c (by have := KT.top HO.out; omega)) hal.size)
      have has : z.heap.size < (z.alloc (.cells #[.int .i64 st, .bool op, .slice sa sn sc] 48)).heap.size := by simp
      clear hal HO HIz HBz
      generalize z.alloc (.cells #[.int .i64 st, .bool op, .slice sa sn sc] 48) = Z at *
      obtain ⟨⟨x0, x1, x2⟩, _⟩ := cellk3 gy
      clear gy
      have hownZ : Z.ownsRow w.heap.size 48 3 (.slice (some ⟨g5, 0, none⟩) i c5) i (flatK KT ps') := by have := HIa.out.2.1; rw [hil] at this; exact this
      go_wp2_with (at_builtin; (refine wpList_append_lies _ rfl (.tmp 26) (.tmp 28) 32 rfl w.heap.size 48 i0 _ 3 40 Tryz.underlying32 hi0 hz0 hz1 hz2 rfl (by decide) (.slice (some ⟨g5, 0, none⟩) i c5) i (flatK KT ps') rfl (hownZ.alloc _) ⟨Z.heap.size, 0, none⟩ 1 1 [.int .i64 st, .bool op, .slice sa sn sc] rfl rfl (World.news_of_block (cs := #[.int .i64 st, .bool op, .slice sa sn sc]) (t := 48) (fr := (0, 0)) (heap_alloc_new Z _)) (by simp [Value.oneCell']) (by omega) (by unfold maxLen; omega) (by omega) (by simp; omega) (Z.heap.size + 1) (by simp) ?_; intro gg cq w2 hown2 hgrow hat hlt2))
      have hal2 : Below Z.heap.size Z (Z.alloc (.cells #[.int .i64 st, .bool op, .slice sa sn sc] 48)) := balloc (Below.refl _ _) _
      have hsn := LX.snoc (x := (st, op, cs)) (sv := .slice sa sn sc) (l := lo) (u := up) (g := gg) (cap := cq) (HIa.out.below hal2) (by omega) (by omega) (KT.frame HOa.out (fun c _ h2 => hal2.block c (by have := KT.top HOa.out; omega)) hal2.size) (by rw [hil]; exact hown2) hgrow (by simpa using hat) hlt2
      rw [hil] at hsn
      have hb2 : Below w.heap.size w w2 := Below.grown (balloc HBa.out _) hgrow (by simp; omega) (fun k e => (hownZ.lt k e).1)
      have HSN2 : Hid (LX KT 48 w.heap.size w2.heap.size w2 (.slice (some ⟨gg, 0, none⟩) (i + 1) cq) (xs.take (i + 1)) (ps' ++ [((st, op, cs), .slice sa sn sc)])) := hid (by rw [HX.out]; exact hsn)
      have HB2 := hid hb2
      clear hsn hb2 hown2 hgrow hal2 hownZ x0 x1 x2
      go_roundw
      case rel => exact ⟨i + 1, gg, cq, _, by go_num, by omega, rfl, HSN2, HB2⟩
      case measure => simp [intOf]; omega
    · have d1 : (n : Int) ≤ (i : Int) := by omega
      have hin : i = n := by omega
      subst hin
      have HF : Hid (LX KT 48 w.heap.size wr.heap.size wr (.slice (some ⟨g5, 0, none⟩) i c5) xs ps') := hid (by have := HV.out; rw [← HN.out, List.take_length] at this; rw [← HN.out]; exact this)
      clear HV
      go_wp2_with fail
      go_ret
      exact ⟨_, ps', rfl, HF.out, ⟨g5, c5, rfl⟩, HBW.out⟩
set_option maxRecDepth 100000 in
set_option maxHeartbeats 1000000 in
theorem rwX_copied (id : Int) (fr : Int) (te : Int) (kd : Int) (ps : List (Int × Int)) (b cap : Nat) (w : World) (hm : ps.length ≤ 1099511627776) (hbs : b < w.heap.size) (h : Pts w (some ⟨b, 0, none⟩) ps) : Calls Tryz.prog 89 #[.agg #[.int .i64 id, .int .i64 fr, .int .i64 te, .int .i64 kd, .slice (some ⟨b, 0, none⟩) ps.length cap]] w fun e w' => ∃ sv lo up, e = .returned (.agg #[.int .i64 id, .int .i64 fr, .int .i64 te, .int .i64 kd, sv]) ∧ KR.sub lo up w' sv (id, fr, te, kd, ps) ∧ w.heap.size ≤ lo ∧ Below w.heap.size w w' := by
  have hB : Below w.heap.size w ((w.alloc (.cells #[.int .i64 id, .int .i64 fr, .int .i64 te, .int .i64 kd, .slice (some ⟨b, 0, none⟩) ps.length cap] 78)).alloc (.cells #[.int .i64 0, .int .i64 0, .int .i64 0, .int .i64 0, .slice none 0 0] 78)) := balloc (balloc (Below.refl _ _) _) _
  have HC := hid (impl_copyG kd b 0 cap ps _ hm (h.below hB) (Nat.lt_of_lt_of_le hbs hB.size))
  clear h
  have g0 := old_alloc (o' := .cells #[.int .i64 0, .int .i64 0, .int .i64 0, .int .i64 0, .slice none 0 0] 78) (new_alloc w w.heap.size (.cells #[.int .i64 id, .int .i64 fr, .int .i64 te, .int .i64 kd, .slice (some ⟨b, 0, none⟩) ps.length cap] 78) rfl)
  have g1 := new_alloc (w.alloc (.cells #[.int .i64 id, .int .i64 fr, .int .i64 te, .int .i64 kd, .slice (some ⟨b, 0, none⟩) ps.length cap] 78)) (w.heap.size + 1) (.cells #[.int .i64 0, .int .i64 0, .int .i64 0, .int .i64 0, .slice none 0 0] 78) (by simp)
  go_enter Tryz.func89, Tryz.ntmps89
  go_upto_region 1 with fail
  have hWz : ((w.alloc (.cells #[.int .i64 id, .int .i64 fr, .int .i64 te, .int .i64 kd, .slice (some ⟨b, 0, none⟩) ps.length cap] 78)).alloc (.cells #[.int .i64 0, .int .i64 0, .int .i64 0, .int .i64 0, .slice none 0 0] 78)).heap.size = w.heap.size + 2 := by simp
  generalize (w.alloc (.cells #[.int .i64 id, .int .i64 fr, .int .i64 te, .int .i64 kd, .slice (some ⟨b, 0, none⟩) ps.length cap] 78)).alloc (.cells #[.int .i64 0, .int .i64 0, .int .i64 0, .int .i64 0, .slice none 0 0] 78) = W at *
  obtain ⟨⟨x0, x1, x2, x3, x4⟩, _⟩ := cell5g g0
  go_wp2_with fail
  refine HC.out.mono ?_
  rintro e y ⟨g, cp, rfl, hcp, hgs, ho, hy⟩
  obtain ⟨sv, hsv⟩ : ∃ sv, sv = Value.slice (some ⟨g, 0, none⟩) ps.length cp := ⟨_, rfl⟩
  rw [← hsv]
  have hWs := lt_of_block g1
  replace g0 := keepheap2 hy g0
  replace g1 := keepheap2 hy g1
  have HB := hid (btrans hB hy)
  have hyz := hy.size
  have HO := hid ho
  clear hB hy ho HC x0 x1 x2 x3 x4
  obtain ⟨⟨x0, x1, x2, x3, x4⟩, y0, y1, y2, y3, y4⟩ := cell5g g0
  obtain ⟨⟨v0, v1, v2, v3, v4⟩, u0, u1, u2, u3, u4⟩ := cell5g g1
  rw [hsv]
  go_wp2_with fail
  rw [← hsv]
  have gF := set5 (set_far (q := w.heap.size) (k := 4) (u := sv) (set_far (q := w.heap.size) (k := 3) (u := .int .i64 kd) g1 (by omega)) (by omega)) (.int .i64 id) (.int .i64 fr) (.int .i64 te) (.int .i64 kd) (sv)
  have bF := (bset (bset (bset (bset (bset (bset (bset HB.out (q := w.heap.size) (k := 3) (Nat.le_refl _) (.int .i64 kd)) (q := w.heap.size) (k := 4) (Nat.le_refl _) (sv)) (q := w.heap.size + 1) (k := 0) (by omega) (.int .i64 id)) (q := w.heap.size + 1) (k := 1) (by omega) (.int .i64 fr)) (q := w.heap.size + 1) (k := 2) (by omega) (.int .i64 te)) (q := w.heap.size + 1) (k := 3) (by omega) (.int .i64 kd)) (q := w.heap.size + 1) (k := 4) (by omega) (sv))
  have oF := own_blk (w' := (((((((y.setCell ⟨w.heap.size, 3, none⟩ (.int .i64 kd)).setCell ⟨w.heap.size, 4, none⟩ (sv)).setCell ⟨w.heap.size + 1, 0, none⟩ (.int .i64 id)).setCell ⟨w.heap.size + 1, 1, none⟩ (.int .i64 fr)).setCell ⟨w.heap.size + 1, 2, none⟩ (.int .i64 te)).setCell ⟨w.heap.size + 1, 3, none⟩ (.int .i64 kd)).setCell ⟨w.heap.size + 1, 4, none⟩ (sv))) HO.out (by rw [Below.heap_setCell _ _ _ _ (by dsimp only; omega), Below.heap_setCell _ _ _ _ (by dsimp only; omega), Below.heap_setCell _ _ _ _ (by dsimp only; omega), Below.heap_setCell _ _ _ _ (by dsimp only; omega), Below.heap_setCell _ _ _ _ (by dsimp only; omega), Below.heap_setCell _ _ _ _ (by dsimp only; omega), Below.heap_setCell _ _ _ _ (by dsimp only; omega)]) (by simp only [World.size_setCell]; exact HO.out.1)
  have hwz : (((((((y.setCell ⟨w.heap.size, 3, none⟩ (.int .i64 kd)).setCell ⟨w.heap.size, 4, none⟩ (sv)).setCell ⟨w.heap.size + 1, 0, none⟩ (.int .i64 id)).setCell ⟨w.heap.size + 1, 1, none⟩ (.int .i64 fr)).setCell ⟨w.heap.size + 1, 2, none⟩ (.int .i64 te)).setCell ⟨w.heap.size + 1, 3, none⟩ (.int .i64 kd)).setCell ⟨w.heap.size + 1, 4, none⟩ (sv)).heap.size = y.heap.size := by simp only [World.size_setCell]
  generalize (((((((y.setCell ⟨w.heap.size, 3, none⟩ (.int .i64 kd)).setCell ⟨w.heap.size, 4, none⟩ (sv)).setCell ⟨w.heap.size + 1, 0, none⟩ (.int .i64 id)).setCell ⟨w.heap.size + 1, 1, none⟩ (.int .i64 fr)).setCell ⟨w.heap.size + 1, 2, none⟩ (.int .i64 te)).setCell ⟨w.heap.size + 1, 3, none⟩ (.int .i64 kd)).setCell ⟨w.heap.size + 1, 4, none⟩ (sv)) = wf at *
  obtain ⟨⟨z0, z1, z2, z3, z4⟩, _⟩ := cell5g gF
  exact bodyPost_ret (v := .agg #[.int .i64 id, .int .i64 fr, .int .i64 te, .int .i64 kd, sv]) (by simp [results, Tryz.results89, go_sem, z0, z1, z2, z3, z4]) rfl ⟨sv, g, g + 1, rfl, ⟨by have := HO.out.1; omega, g, cp, hsv, hcp, hm, Nat.le_refl _, by omega, oF⟩, by omega, bF⟩
set_option maxRecDepth 100000 in
set_option maxHeartbeats 1000000 in
theorem rwX_clo (id : Int) (fr : Int) (te : Int) (kd : Int) (ps : List (Int × Int)) (b cap : Nat) (w : World) (hm : ps.length ≤ 1099511627776) (hbs : b < w.heap.size) (h : Pts w (some ⟨b, 0, none⟩) ps) : Calls Tryz.prog 88 #[.agg #[.int .i64 id, .int .i64 fr, .int .i64 te, .int .i64 kd, .slice (some ⟨b, 0, none⟩) ps.length cap]] w fun e w' => ∃ sv lo up, e = .returned (.tuple #[.agg #[.int .i64 id, .int .i64 fr, .int .i64 te, .int .i64 kd, sv], .bool true]) ∧ KR.sub lo up w' sv (id, fr, te, kd, ps) ∧ w.heap.size ≤ lo ∧ Below w.heap.size w w' := by
  have hB : Below w.heap.size w ((w.alloc (.cells #[.int .i64 id, .int .i64 fr, .int .i64 te, .int .i64 kd, .slice (some ⟨b, 0, none⟩) ps.length cap] 78)).alloc (.cells #[.int .i64 0, .int .i64 0, .int .i64 0, .int .i64 0, .slice none 0 0] 78)) := balloc (balloc (Below.refl _ _) _) _
  have HC := hid (rwX_copied id fr te kd ps b cap _ hm (Nat.lt_of_lt_of_le hbs hB.size) (h.below hB))
  clear h
  have g0 := old_alloc (o' := .cells #[.int .i64 0, .int .i64 0, .int .i64 0, .int .i64 0, .slice none 0 0] 78) (new_alloc w w.heap.size (.cells #[.int .i64 id, .int .i64 fr, .int .i64 te, .int .i64 kd, .slice (some ⟨b, 0, none⟩) ps.length cap] 78) rfl)
  have g1 := new_alloc (w.alloc (.cells #[.int .i64 id, .int .i64 fr, .int .i64 te, .int .i64 kd, .slice (some ⟨b, 0, none⟩) ps.length cap] 78)) (w.heap.size + 1) (.cells #[.int .i64 0, .int .i64 0, .int .i64 0, .int .i64 0, .slice none 0 0] 78) (by simp)
  go_enter Tryz.func88, Tryz.ntmps88
  go_upto_region 1 with fail
  have hWz : ((w.alloc (.cells #[.int .i64 id, .int .i64 fr, .int .i64 te, .int .i64 kd, .slice (some ⟨b, 0, none⟩) ps.length cap] 78)).alloc (.cells #[.int .i64 0, .int .i64 0, .int .i64 0, .int .i64 0, .slice none 0 0] 78)).heap.size = w.heap.size + 2 := by simp
  generalize (w.alloc (.cells #[.int .i64 id, .int .i64 fr, .int .i64 te, .int .i64 kd, .slice (some ⟨b, 0, none⟩) ps.length cap] 78)).alloc (.cells #[.int .i64 0, .int .i64 0, .int .i64 0, .int .i64 0, .slice none 0 0] 78) = W at *
  obtain ⟨⟨x0, x1, x2, x3, x4⟩, _⟩ := cell5g g0
  go_wp2_with fail
  refine HC.out.mono ?_
  rintro e y ⟨sv, lo, up, rfl, hsub, hlo, hy⟩
  have hyz := hy.size
  replace g1 := keepheap2 hy g1
  have HB := hid (btrans hB hy)
  have HO := hid hsub
  have hone := KR.one hsub sv (by simp [KR])
  clear hB hy hsub HC g0 x0 x1 x2 x3 x4
  obtain ⟨⟨v0, v1, v2, v3, v4⟩, u0, u1, u2, u3, u4⟩ := cell5g g1
  obtain ⟨sa, sn, sc, hsv⟩ : ∃ a n c, sv = .slice a n c := by obtain ⟨_, c, cp, e, _⟩ := HO.out; exact ⟨_, _, _, e⟩
  have HSV := hid hsv.symm
  subst hsv
  go_wp2_with fail
  have gF := set5 g1 (.int .i64 id) (.int .i64 fr) (.int .i64 te) (.int .i64 kd) (.slice sa sn sc)
  have bF := (bset (bset (bset (bset (bset HB.out (q := w.heap.size + 1) (k := 0) (by omega) (.int .i64 id)) (q := w.heap.size + 1) (k := 1) (by omega) (.int .i64 fr)) (q := w.heap.size + 1) (k := 2) (by omega) (.int .i64 te)) (q := w.heap.size + 1) (k := 3) (by omega) (.int .i64 kd)) (q := w.heap.size + 1) (k := 4) (by omega) (.slice sa sn sc))
  have oF := KR.frame (w' := (((((y.setCell ⟨w.heap.size + 1, 0, none⟩ (.int .i64 id)).setCell ⟨w.heap.size + 1, 1, none⟩ (.int .i64 fr)).setCell ⟨w.heap.size + 1, 2, none⟩ (.int .i64 te)).setCell ⟨w.heap.size + 1, 3, none⟩ (.int .i64 kd)).setCell ⟨w.heap.size + 1, 4, none⟩ (.slice sa sn sc))) HO.out (fun c c1 c2 => by rw [Below.heap_setCell _ _ _ _ (by dsimp only; omega), Below.heap_setCell _ _ _ _ (by dsimp only; omega), Below.heap_setCell _ _ _ _ (by dsimp only; omega), Below.heap_setCell _ _ _ _ (by dsimp only; omega), Below.heap_setCell _ _ _ _ (by dsimp only; omega)]) (by simp only [World.size_setCell]; omega)
  generalize (((((y.setCell ⟨w.heap.size + 1, 0, none⟩ (.int .i64 id)).setCell ⟨w.heap.size + 1, 1, none⟩ (.int .i64 fr)).setCell ⟨w.heap.size + 1, 2, none⟩ (.int .i64 te)).setCell ⟨w.heap.size + 1, 3, none⟩ (.int .i64 kd)).setCell ⟨w.heap.size + 1, 4, none⟩ (.slice sa sn sc)) = wf at *
  obtain ⟨⟨z0, z1, z2, z3, z4⟩, _⟩ := cell5g gF
  exact bodyPost_ret (v := .tuple #[.agg #[.int .i64 id, .int .i64 fr, .int .i64 te, .int .i64 kd, .slice sa sn sc], .bool true]) (by simp [results, Tryz.results88, go_sem, z0, z1, z2, z3, z4]) rfl ⟨_, lo, up, rfl, oF, by omega, bF⟩
theorem make_rwX0 (n : Nat) (hn : n ≤ 1099511627776) (w : World) : (Instr.makeSlice 29 (.int .i64 0) (.int .i64 n)).run Tryz.prog w = .ok (.slice (some ⟨w.heap.size, 0, none⟩) 0 n) (w.alloc (.cells (madeCells #[.int .i64 0, .int .i64 0, .int .i64 0, .int .i64 0, .slice none 0 0] (n * 5)) 78)) := by
  obtain ⟨i0, hi, hz0, hz1, hz2⟩ := info_parts Tryz.infoRow
  have := run_make (P := Tryz.prog) w 29 78 i0 _ Tryz.underlying29 hi hz0 .i64 .i64 0 n (by omega) (by omega) (by rw [hz2]; omega) (by omega)
  rw [hz1] at this
  exact this
set_option maxRecDepth 100000 in
set_option maxHeartbeats 2000000 in
theorem kept_rw (B cap : Nat) (xs : List Rw) (w : World) (hm : xs.length ≤ 1099511627776) (h : RwsZ w B xs) : Calls Tryz.prog 87 #[.slice (some ⟨B, 0, none⟩) xs.length cap, .func (.func 88) #[] #[]] w fun e w' => ∃ v ps, e = .returned v ∧ LX KR 78 w.heap.size w'.heap.size w' v xs ps ∧ (∃ g c, v = .slice (some ⟨g, 0, none⟩) xs.length c) ∧ Below w.heap.size w w' := by
  obtain ⟨i0, hi0, hz0, hz1, hz2⟩ := info_parts Tryz.infoRow
  have HR := hid h
  clear h
  have hmk := make_rwX0 xs.length hm
  obtain ⟨n, hn⟩ : ∃ n, n = xs.length := ⟨_, rfl⟩
  have HN := hid hn.symm
  rw [← hn] at hm hmk ⊢
  clear hn
  have hB0 : Below w.heap.size w (w.alloc (.cells (madeCells #[.int .i64 0, .int .i64 0, .int .i64 0, .int .i64 0, .slice none 0 0] (n * 5)) 78)) := balloc (Below.refl _ _) _
  have HI : Hid (LX KR 78 w.heap.size (w.alloc (.cells (madeCells #[.int .i64 0, .int .i64 0, .int .i64 0, .int .i64 0, .slice none 0 0] (n * 5)) 78)).heap.size (w.alloc (.cells (madeCells #[.int .i64 0, .int .i64 0, .int .i64 0, .int .i64 0, .slice none 0 0] (n * 5)) 78)) (.slice (some ⟨w.heap.size, 0, none⟩) 0 n) [] []) := hid (by
    have := World.ownsRow_made (base := w.heap.size) (e := 78) (size := 5) w (madeCells #[.int .i64 0, .int .i64 0, .int .i64 0, .int .i64 0, .slice none 0 0] (n * 5)) n (Nat.le_refl _) (by unfold maxLen; omega) (size_madeCells _ _)
    exact LX.nil this (fun g e => by simp [Value.ownBlock] at e; subst e; simp) (Nat.le_refl _))
  go_enter Tryz.func87, Tryz.ntmps87
  go_upto_region 2 with fail
  generalize w.alloc (.cells (madeCells #[.int .i64 0, .int .i64 0, .int .i64 0, .int .i64 0, .slice none 0 0] (n * 5)) 78) = W0 at *
  clear hmk
  go_wp2_with fail
  go_loopw [5, 15] (fun tv ti wr => ∃ i : Nat, ∃ g5 c5 : Nat, ∃ ps' : List (Rw × Value), ti = .int .i64 i ∧ i ≤ n ∧ tv = .slice (some ⟨g5, 0, none⟩) i c5 ∧ Hid (LX KR 78 w.heap.size wr.heap.size wr (.slice (some ⟨g5, 0, none⟩) i c5) (xs.take i) ps') ∧ Hid (Below w.heap.size w wr)) (fun _ ti _ => n - (intOf ti).toNat)
  case atStart => exact ⟨0, w.heap.size, n, [], rfl, Nat.zero_le _, rfl, HI, hid hB0⟩
  case round =>
    clear HI hB0
    obtain ⟨i, g5, c5, ps', rfl, hi, rfl, HV, HBW⟩ := hrel
    have hwX := HBW.out.size
    by_cases hlt : i < n
    · have d1 : (i : Int) < (n : Int) := by omega
      have hir : i < xs.length := by rw [HN.out]; exact hlt
      obtain ⟨ci, cpi, k9, ⟨k0, k1, k2, k3, k4⟩, k6, k7⟩ := (HR.out.below HBW.out).2 i hir
      have HX : Hid (xs.take (i + 1) = xs.take i ++ [xs[i]]) := hid (by rw [List.take_add_one, List.getElem?_eq_getElem hir]; rfl)
      have hil : (xs.take i).length = i := by rw [List.length_take]; omega
      obtain ⟨r, hr⟩ : ∃ r, r = xs[i] := ⟨_, rfl⟩
      rw [← hr] at k0 k1 k2 k3 k4 k6 k7 HX
      clear hr
      obtain ⟨id, fr, te, kd, ps⟩ := r
      simp only at k0 k1 k2 k3 k4 k6 k7
      have hbx : Below wr.heap.size wr (wr.alloc (.cells #[.int .i64 id, .int .i64 fr, .int .i64 te, .int .i64 kd, .slice (some ⟨ci, 0, none⟩) ps.length cpi] 78)) := balloc (Below.refl _ _) _
      have HT1 := hid (rwX_clo id fr te kd ps ci cpi _ k6 (Nat.lt_of_lt_of_le k9 hbx.size) (k7.below hbx))
      clear k7
      go_upto_region 5 with fail
      have gx := new_alloc wr wr.heap.size (.cells #[.int .i64 id, .int .i64 fr, .int .i64 te, .int .i64 kd, .slice (some ⟨ci, 0, none⟩) ps.length cpi] 78) rfl
      have HI1 := hid (HV.out.below hbx)
      have HB1 := hid (btrans HBW.out hbx)
      have hs1 := hbx.size
      have hs2 : wr.heap.size < (wr.alloc (.cells #[.int .i64 id, .int .i64 fr, .int .i64 te, .int .i64 kd, .slice (some ⟨ci, 0, none⟩) ps.length cpi] 78)).heap.size := by simp
      clear k0 k1 k2 k3 k4 hbx HV
      generalize wr.alloc (.cells #[.int .i64 id, .int .i64 fr, .int .i64 te, .int .i64 kd, .slice (some ⟨ci, 0, none⟩) ps.length cpi] 78) = W1 at *
      generalize wr.heap.size = Xh at *
      obtain ⟨⟨x0, x1, x2, x3, x4⟩, _⟩ := cell5g gx
      clear gx
      go_wp2_with fail
      refine HT1.out.mono ?_
      rintro e z ⟨sv, lo, up, rfl, hsub, hlo, hz⟩
      have HBz := hid (btrans HB1.out hz)
      have HIz := hid (HI1.out.below hz)
      have HO := hid hsub
      have hzs := hz.size
      have hwz := HBz.out.size
      obtain ⟨sa, sn, sc, hsv⟩ : ∃ a n c, sv = .slice a n c := by obtain ⟨_, c, cp, e, _⟩ := HO.out; exact ⟨_, _, _, e⟩
      clear hz hsub x0 x1 x2 x3 x4 HT1 HI1 HB1
      subst hsv
      go_upto_region 7 with fail
      have hal : Below z.heap.size z (z.alloc (.cells #[.int .i64 id, .int .i64 fr, .int .i64 te, .int .i64 kd, .slice sa sn sc] 78)) := balloc (Below.refl _ _) _
      have gy := new_alloc z z.heap.size (.cells #[.int .i64 id, .int .i64 fr, .int .i64 te, .int .i64 kd, .slice sa sn sc] 78) rfl
      have HIa := hid (HIz.out.below hal)
      have HBa := hid (btrans HBz.out hal)
      have HOa := hid (KR.frame HO.out (fun c _ h2 => hal.block c (by have := KR.top HO.out; omega)) hal.size)
      have has : z.heap.size < (z.alloc (.cells #[.int .i64 id, .int .i64 fr, .int .i64 te, .int .i64 kd, .slice sa sn sc] 78)).heap.size := by simp
      clear hal HO HIz HBz
      generalize z.alloc (.cells #[.int .i64 id, .int .i64 fr, .int .i64 te, .int .i64 kd, .slice sa sn sc] 78) = Z at *
      obtain ⟨⟨x0, x1, x2, x3, x4⟩, _⟩ := cell5g gy
      clear gy
      have hownZ : Z.ownsRow w.heap.size 78 5 (.slice (some ⟨g5, 0, none⟩) i c5) i (flatK KR ps') := by have := HIa.out.2.1; rw [hil] at this; exact this
      go_wp2_with (at_builtin; (refine wpList_append_lies _ rfl (.tmp 26) (.tmp 28) 29 rfl w.heap.size 78 i0 _ 5 56 Tryz.underlying29 hi0 hz0 hz1 hz2 rfl (by decide) (.slice (some ⟨g5, 0, none⟩) i c5) i (flatK KR ps') rfl (hownZ.alloc _) ⟨Z.heap.size, 0, none⟩ 1 1 [.int .i64 id, .int .i64 fr, .int .i64 te, .int .i64 kd, .slice sa sn sc] rfl rfl (World.news_of_block (cs := #[.int .i64 id, .int .i64 fr, .int .i64 te, .int .i64 kd, .slice sa sn sc]) (t := 78) (fr := (0, 0)) (heap_alloc_new Z _)) (by simp [Value.oneCell']) (by omega) (by unfold maxLen; omega) (by omega) (by simp; omega) (Z.heap.size + 1) (by simp) ?_; intro gg cq w2 hown2 hgrow hat hlt2))
      have hal2 : Below Z.heap.size Z (Z.alloc (.cells #[.int .i64 id, .int .i64 fr, .int .i64 te, .int .i64 kd, .slice sa sn sc] 78)) := balloc (Below.refl _ _) _
      have hsn := LX.snoc (x := (id, fr, te, kd, ps)) (sv := .slice sa sn sc) (l := lo) (u := up) (g := gg) (cap := cq) (HIa.out.below hal2) (by omega) (by omega) (KR.frame HOa.out (fun c _ h2 => hal2.block c (by have := KR.top HOa.out; omega)) hal2.size) (by rw [hil]; exact hown2) hgrow (by simpa using hat) hlt2
      rw [hil] at hsn
      have hb2 : Below w.heap.size w w2 := Below.grown (balloc HBa.out _) hgrow (by simp; omega) (fun k e => (hownZ.lt k e).1)
      have HSN2 : Hid (LX KR 78 w.heap.size w2.heap.size w2 (.slice (some ⟨gg, 0, none⟩) (i + 1) cq) (xs.take (i + 1)) (ps' ++ [((id, fr, te, kd, ps), .slice sa sn sc)])) := hid (by rw [HX.out]; exact hsn)
      have HB2 := hid hb2
      clear hsn hb2 hown2 hgrow hal2 hownZ x0 x1 x2 x3 x4
      go_roundw
      case rel => exact ⟨i + 1, gg, cq, _, by go_num, by omega, rfl, HSN2, HB2⟩
      case measure => simp [intOf]; omega
    · have d1 : (n : Int) ≤ (i : Int) := by omega
      have hin : i = n := by omega
      subst hin
      have HF : Hid (LX KR 78 w.heap.size wr.heap.size wr (.slice (some ⟨g5, 0, none⟩) i c5) xs ps') := hid (by have := HV.out; rw [← HN.out, List.take_length] at this; rw [← HN.out]; exact this)
      clear HV
      go_wp2_with fail
      go_ret
      exact ⟨_, ps', rfl, HF.out, ⟨g5, c5, rfl⟩, HBW.out⟩
end Go.Proofs.YtkdoigibpaempaaGreatDoor
