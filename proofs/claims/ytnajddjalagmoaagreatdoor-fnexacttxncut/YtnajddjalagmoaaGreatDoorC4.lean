/- Texts of stores, joined: Xc, Ve, Xt, Pc, Vf, Xs, Xu, Vg, Xp, Pd, Zac, Zaf. -/
import Derived.Test.YtnajddjalagmoaaGreatDoorC3
import Derived.Test.YtnajddjalagmoaaGreatDoorRwJ
import Derived.Test.YtnajddjalagmoaaGreatDoorC1
import Derived.Test.YtnajddjalagmoaaGreatDoorC2
import Derived.Test.YtnajddjalagmoaaGreatDoorSj
import Derived.BigQuiet
namespace Go.Proofs.YtnajddjalagmoaaGreatDoor
open Go.RowKit
set_option linter.unusedSimpArgs false
set_option linter.unusedVariables false
/-- Lists as the law hands them in: each list inside has an address. -/
def ChsS (w : World) (B : Nat) (xs : List Ch) : Prop := B < w.heap.size ∧ ∀ j (h : j < xs.length), ∃ c cp, c < w.heap.size ∧ (w.cell? ⟨B, j * 4, none⟩ = some (.int .i64 xs[j].1) ∧ w.cell? ⟨B, j * 4 + 1, none⟩ = some (.bool xs[j].2.1) ∧ w.cell? ⟨B, j * 4 + 2, none⟩ = some (.int .i64 xs[j].2.2.1) ∧ w.cell? ⟨B, j * 4 + 3, none⟩ = some (.slice (some ⟨c, 0, none⟩) xs[j].2.2.2.length cp)) ∧ xs[j].2.2.2.length ≤ 1099511627776 ∧ Pts w (some ⟨c, 0, none⟩) xs[j].2.2.2
theorem ChsS.below {w w' : World} {B : Nat} {xs : List Ch} (h : ChsS w B xs) (H : Below w.heap.size w w') : ChsS w' B xs := by
  refine ⟨Nat.lt_of_lt_of_le h.1 H.size, fun j hj => ?_⟩
  obtain ⟨c, cp, a0, ⟨a1, a2, a3, a4⟩, a6, a7⟩ := h.2 j hj
  exact ⟨c, cp, Nat.lt_of_lt_of_le a0 H.size, ⟨keepcell H a1, keepcell H a2, keepcell H a3, keepcell H a4⟩, a6, a7.below H⟩
def TxsS (w : World) (B : Nat) (xs : List Tx) : Prop := B < w.heap.size ∧ ∀ j (h : j < xs.length), ∃ c cp, c < w.heap.size ∧ (w.cell? ⟨B, j * 3, none⟩ = some (.int .i64 xs[j].1) ∧ w.cell? ⟨B, j * 3 + 1, none⟩ = some (.bool xs[j].2.1) ∧ w.cell? ⟨B, j * 3 + 2, none⟩ = some (.slice (some ⟨c, 0, none⟩) xs[j].2.2.length cp)) ∧ xs[j].2.2.length ≤ 1099511627776 ∧ ChsS w c xs[j].2.2
theorem TxsS.below {w w' : World} {B : Nat} {xs : List Tx} (h : TxsS w B xs) (H : Below w.heap.size w w') : TxsS w' B xs := by
  refine ⟨Nat.lt_of_lt_of_le h.1 H.size, fun j hj => ?_⟩
  obtain ⟨c, cp, a0, ⟨a1, a2, a3⟩, a6, a7⟩ := h.2 j hj
  exact ⟨c, cp, Nat.lt_of_lt_of_le a0 H.size, ⟨keepcell H a1, keepcell H a2, keepcell H a3⟩, a6, a7.below H⟩
def RwsZ (w : World) (B : Nat) (xs : List Rw) : Prop := B < w.heap.size ∧ ∀ j (h : j < xs.length), ∃ c cp, c < w.heap.size ∧ (w.cell? ⟨B, j * 5, none⟩ = some (.int .i64 xs[j].1) ∧ w.cell? ⟨B, j * 5 + 1, none⟩ = some (.int .i64 xs[j].2.1) ∧ w.cell? ⟨B, j * 5 + 2, none⟩ = some (.int .i64 xs[j].2.2.1) ∧ w.cell? ⟨B, j * 5 + 3, none⟩ = some (.int .i64 xs[j].2.2.2.1) ∧ w.cell? ⟨B, j * 5 + 4, none⟩ = some (.slice (some ⟨c, 0, none⟩) xs[j].2.2.2.2.length cp)) ∧ xs[j].2.2.2.2.length ≤ 1099511627776 ∧ Pts w (some ⟨c, 0, none⟩) xs[j].2.2.2.2
theorem RwsZ.below {w w' : World} {B : Nat} {xs : List Rw} (h : RwsZ w B xs) (H : Below w.heap.size w w') : RwsZ w' B xs := by
  refine ⟨Nat.lt_of_lt_of_le h.1 H.size, fun j hj => ?_⟩
  obtain ⟨c, cp, a0, ⟨a1, a2, a3, a4, a5⟩, a6, a7⟩ := h.2 j hj
  exact ⟨c, cp, Nat.lt_of_lt_of_le a0 H.size, ⟨keepcell H a1, keepcell H a2, keepcell H a3, keepcell H a4, keepcell H a5⟩, a6, a7.below H⟩
set_option maxRecDepth 100000 in
set_option maxHeartbeats 1000000 in
theorem chX_copied (id : Int) (gn : Bool) (kd : Int) (ps : List (Int × Int)) (b cap : Nat) (w : World) (hm : ps.length ≤ 1099511627776) (hbs : b < w.heap.size) (h : Pts w (some ⟨b, 0, none⟩) ps) : Calls Tryz.prog 112 #[.agg #[.int .i64 id, .bool gn, .int .i64 kd, .slice (some ⟨b, 0, none⟩) ps.length cap]] w fun e w' => ∃ sv lo up, e = .returned (.agg #[.int .i64 id, .bool gn, .int .i64 kd, sv]) ∧ KC.sub lo up w' sv (id, gn, kd, ps) ∧ w.heap.size ≤ lo ∧ Below w.heap.size w w' := by
  have hB : Below w.heap.size w ((w.alloc (.cells #[.int .i64 id, .bool gn, .int .i64 kd, .slice (some ⟨b, 0, none⟩) ps.length cap] 66)).alloc (.cells #[.int .i64 0, .bool false, .int .i64 0, .slice none 0 0] 66)) := balloc (balloc (Below.refl _ _) _) _
  have HC := hid (impl_copyG kd b 0 cap ps _ hm (h.below hB) (Nat.lt_of_lt_of_le hbs hB.size))
  clear h
  have g0 := old_alloc (o' := .cells #[.int .i64 0, .bool false, .int .i64 0, .slice none 0 0] 66) (new_alloc w w.heap.size (.cells #[.int .i64 id, .bool gn, .int .i64 kd, .slice (some ⟨b, 0, none⟩) ps.length cap] 66) rfl)
  have g1 := new_alloc (w.alloc (.cells #[.int .i64 id, .bool gn, .int .i64 kd, .slice (some ⟨b, 0, none⟩) ps.length cap] 66)) (w.heap.size + 1) (.cells #[.int .i64 0, .bool false, .int .i64 0, .slice none 0 0] 66) (by simp)
  go_enter Tryz.func112, Tryz.ntmps112
  go_upto_region 1 with fail
  have hWz : ((w.alloc (.cells #[.int .i64 id, .bool gn, .int .i64 kd, .slice (some ⟨b, 0, none⟩) ps.length cap] 66)).alloc (.cells #[.int .i64 0, .bool false, .int .i64 0, .slice none 0 0] 66)).heap.size = w.heap.size + 2 := by simp
  generalize (w.alloc (.cells #[.int .i64 id, .bool gn, .int .i64 kd, .slice (some ⟨b, 0, none⟩) ps.length cap] 66)).alloc (.cells #[.int .i64 0, .bool false, .int .i64 0, .slice none 0 0] 66) = W at *
  obtain ⟨⟨x0, x1, x2, x3⟩, _⟩ := cellk4 g0
  go_wp2_with fail
  refine HC.out.mono ?_
  rintro e y ⟨g, cp, rfl, hcp, hgs, ho, hy⟩
  obtain ⟨sv, hsv⟩ : ∃ sv, sv = Value.slice (some ⟨g, 0, none⟩) ps.length cp := ⟨_, rfl⟩
  rw [← hsv]
  have hWs := lt_of_block g1
  replace g0 := keepheap2 hy g0
  replace g1 := keepheap2 hy g1
  have HB := hid (btrans hB hy)
  have hyz := hy.size
  have HO := hid ho
  clear hB hy ho HC x0 x1 x2 x3
  obtain ⟨⟨x0, x1, x2, x3⟩, y0, y1, y2, y3⟩ := cellk4 g0
  obtain ⟨⟨v0, v1, v2, v3⟩, u0, u1, u2, u3⟩ := cellk4 g1
  rw [hsv]
  go_wp2_with fail
  rw [← hsv]
  have gF := setk4 (set_far (q := w.heap.size) (k := 3) (u := sv) (set_far (q := w.heap.size) (k := 2) (u := .int .i64 kd) g1 (by omega)) (by omega)) (.int .i64 id) (.bool gn) (.int .i64 kd) (sv)
  have bF := (bset (bset (bset (bset (bset (bset HB.out (q := w.heap.size) (k := 2) (Nat.le_refl _) (.int .i64 kd)) (q := w.heap.size) (k := 3) (Nat.le_refl _) (sv)) (q := w.heap.size + 1) (k := 0) (by omega) (.int .i64 id)) (q := w.heap.size + 1) (k := 1) (by omega) (.bool gn)) (q := w.heap.size + 1) (k := 2) (by omega) (.int .i64 kd)) (q := w.heap.size + 1) (k := 3) (by omega) (sv))
  have oF := own_blk (w' := ((((((y.setCell ⟨w.heap.size, 2, none⟩ (.int .i64 kd)).setCell ⟨w.heap.size, 3, none⟩ (sv)).setCell ⟨w.heap.size + 1, 0, none⟩ (.int .i64 id)).setCell ⟨w.heap.size + 1, 1, none⟩ (.bool gn)).setCell ⟨w.heap.size + 1, 2, none⟩ (.int .i64 kd)).setCell ⟨w.heap.size + 1, 3, none⟩ (sv))) HO.out (by rw [Below.heap_setCell _ _ _ _ (by dsimp only; omega), Below.heap_setCell _ _ _ _ (by dsimp only; omega), Below.heap_setCell _ _ _ _ (by dsimp only; omega), Below.heap_setCell _ _ _ _ (by dsimp only; omega), Below.heap_setCell _ _ _ _ (by dsimp only; omega), Below.heap_setCell _ _ _ _ (by dsimp only; omega)]) (by simp only [World.size_setCell]; exact HO.out.1)
  have hwz : ((((((y.setCell ⟨w.heap.size, 2, none⟩ (.int .i64 kd)).setCell ⟨w.heap.size, 3, none⟩ (sv)).setCell ⟨w.heap.size + 1, 0, none⟩ (.int .i64 id)).setCell ⟨w.heap.size + 1, 1, none⟩ (.bool gn)).setCell ⟨w.heap.size + 1, 2, none⟩ (.int .i64 kd)).setCell ⟨w.heap.size + 1, 3, none⟩ (sv)).heap.size = y.heap.size := by simp only [World.size_setCell]
  generalize ((((((y.setCell ⟨w.heap.size, 2, none⟩ (.int .i64 kd)).setCell ⟨w.heap.size, 3, none⟩ (sv)).setCell ⟨w.heap.size + 1, 0, none⟩ (.int .i64 id)).setCell ⟨w.heap.size + 1, 1, none⟩ (.bool gn)).setCell ⟨w.heap.size + 1, 2, none⟩ (.int .i64 kd)).setCell ⟨w.heap.size + 1, 3, none⟩ (sv)) = wf at *
  obtain ⟨⟨z0, z1, z2, z3⟩, _⟩ := cellk4 gF
  exact bodyPost_ret (v := .agg #[.int .i64 id, .bool gn, .int .i64 kd, sv]) (by simp [results, Tryz.results112, go_sem, z0, z1, z2, z3]) rfl ⟨sv, g, g + 1, rfl, ⟨by have := HO.out.1; omega, g, cp, hsv, hcp, hm, Nat.le_refl _, by omega, oF⟩, by omega, bF⟩
set_option maxRecDepth 100000 in
set_option maxHeartbeats 1000000 in
theorem chX_clo (id : Int) (gn : Bool) (kd : Int) (ps : List (Int × Int)) (b cap : Nat) (w : World) (hm : ps.length ≤ 1099511627776) (hbs : b < w.heap.size) (h : Pts w (some ⟨b, 0, none⟩) ps) : Calls Tryz.prog 111 #[.agg #[.int .i64 id, .bool gn, .int .i64 kd, .slice (some ⟨b, 0, none⟩) ps.length cap]] w fun e w' => ∃ sv lo up, e = .returned (.tuple #[.agg #[.int .i64 id, .bool gn, .int .i64 kd, sv], .bool true]) ∧ KC.sub lo up w' sv (id, gn, kd, ps) ∧ w.heap.size ≤ lo ∧ Below w.heap.size w w' := by
  have hB : Below w.heap.size w ((w.alloc (.cells #[.int .i64 id, .bool gn, .int .i64 kd, .slice (some ⟨b, 0, none⟩) ps.length cap] 66)).alloc (.cells #[.int .i64 0, .bool false, .int .i64 0, .slice none 0 0] 66)) := balloc (balloc (Below.refl _ _) _) _
  have HC := hid (chX_copied id gn kd ps b cap _ hm (Nat.lt_of_lt_of_le hbs hB.size) (h.below hB))
  clear h
  have g0 := old_alloc (o' := .cells #[.int .i64 0, .bool false, .int .i64 0, .slice none 0 0] 66) (new_alloc w w.heap.size (.cells #[.int .i64 id, .bool gn, .int .i64 kd, .slice (some ⟨b, 0, none⟩) ps.length cap] 66) rfl)
  have g1 := new_alloc (w.alloc (.cells #[.int .i64 id, .bool gn, .int .i64 kd, .slice (some ⟨b, 0, none⟩) ps.length cap] 66)) (w.heap.size + 1) (.cells #[.int .i64 0, .bool false, .int .i64 0, .slice none 0 0] 66) (by simp)
  go_enter Tryz.func111, Tryz.ntmps111
  go_upto_region 1 with fail
  have hWz : ((w.alloc (.cells #[.int .i64 id, .bool gn, .int .i64 kd, .slice (some ⟨b, 0, none⟩) ps.length cap] 66)).alloc (.cells #[.int .i64 0, .bool false, .int .i64 0, .slice none 0 0] 66)).heap.size = w.heap.size + 2 := by simp
  generalize (w.alloc (.cells #[.int .i64 id, .bool gn, .int .i64 kd, .slice (some ⟨b, 0, none⟩) ps.length cap] 66)).alloc (.cells #[.int .i64 0, .bool false, .int .i64 0, .slice none 0 0] 66) = W at *
  obtain ⟨⟨x0, x1, x2, x3⟩, _⟩ := cellk4 g0
  go_wp2_with fail
  refine HC.out.mono ?_
  rintro e y ⟨sv, lo, up, rfl, hsub, hlo, hy⟩
  have hyz := hy.size
  replace g1 := keepheap2 hy g1
  have HB := hid (btrans hB hy)
  have HO := hid hsub
  have hone := KC.one hsub sv (by simp [KC])
  clear hB hy hsub HC g0 x0 x1 x2 x3
  obtain ⟨⟨v0, v1, v2, v3⟩, u0, u1, u2, u3⟩ := cellk4 g1
  obtain ⟨sa, sn, sc, hsv⟩ : ∃ a n c, sv = .slice a n c := by obtain ⟨_, c, cp, e, _⟩ := HO.out; exact ⟨_, _, _, e⟩
  have HSV := hid hsv.symm
  subst hsv
  go_wp2_with fail
  have gF := setk4 g1 (.int .i64 id) (.bool gn) (.int .i64 kd) (.slice sa sn sc)
  have bF := (bset (bset (bset (bset HB.out (q := w.heap.size + 1) (k := 0) (by omega) (.int .i64 id)) (q := w.heap.size + 1) (k := 1) (by omega) (.bool gn)) (q := w.heap.size + 1) (k := 2) (by omega) (.int .i64 kd)) (q := w.heap.size + 1) (k := 3) (by omega) (.slice sa sn sc))
  have oF := KC.frame (w' := ((((y.setCell ⟨w.heap.size + 1, 0, none⟩ (.int .i64 id)).setCell ⟨w.heap.size + 1, 1, none⟩ (.bool gn)).setCell ⟨w.heap.size + 1, 2, none⟩ (.int .i64 kd)).setCell ⟨w.heap.size + 1, 3, none⟩ (.slice sa sn sc))) HO.out (fun c c1 c2 => by rw [Below.heap_setCell _ _ _ _ (by dsimp only; omega), Below.heap_setCell _ _ _ _ (by dsimp only; omega), Below.heap_setCell _ _ _ _ (by dsimp only; omega), Below.heap_setCell _ _ _ _ (by dsimp only; omega)]) (by simp only [World.size_setCell]; omega)
  generalize ((((y.setCell ⟨w.heap.size + 1, 0, none⟩ (.int .i64 id)).setCell ⟨w.heap.size + 1, 1, none⟩ (.bool gn)).setCell ⟨w.heap.size + 1, 2, none⟩ (.int .i64 kd)).setCell ⟨w.heap.size + 1, 3, none⟩ (.slice sa sn sc)) = wf at *
  obtain ⟨⟨z0, z1, z2, z3⟩, _⟩ := cellk4 gF
  exact bodyPost_ret (v := .tuple #[.agg #[.int .i64 id, .bool gn, .int .i64 kd, .slice sa sn sc], .bool true]) (by simp [results, Tryz.results111, go_sem, z0, z1, z2, z3]) rfl ⟨_, lo, up, rfl, oF, by omega, bF⟩
theorem make_chX0 (n : Nat) (hn : n ≤ 1099511627776) (w : World) : (Instr.makeSlice 60 (.int .i64 0) (.int .i64 n)).run Tryz.prog w = .ok (.slice (some ⟨w.heap.size, 0, none⟩) 0 n) (w.alloc (.cells (madeCells #[.int .i64 0, .bool false, .int .i64 0, .slice none 0 0] (n * 4)) 66)) := by
  obtain ⟨i0, hi, hz0, hz1, hz2⟩ := info_parts Tryz.infoCh
  have := run_make (P := Tryz.prog) w 60 66 i0 _ Tryz.underlying60 hi hz0 .i64 .i64 0 n (by omega) (by omega) (by rw [hz2]; omega) (by omega)
  rw [hz1] at this
  exact this
set_option maxRecDepth 100000 in
set_option maxHeartbeats 2000000 in
theorem kept_ch (B cap : Nat) (xs : List Ch) (w : World) (hm : xs.length ≤ 1099511627776) (h : ChsS w B xs) : Calls Tryz.prog 110 #[.slice (some ⟨B, 0, none⟩) xs.length cap, .func (.func 111) #[] #[]] w fun e w' => ∃ v ps, e = .returned v ∧ LX KC 66 w.heap.size w'.heap.size w' v xs ps ∧ (∃ g c, v = .slice (some ⟨g, 0, none⟩) xs.length c) ∧ Below w.heap.size w w' := by
  obtain ⟨i0, hi0, hz0, hz1, hz2⟩ := info_parts Tryz.infoCh
  have HR := hid h
  clear h
  have hmk := make_chX0 xs.length hm
  obtain ⟨n, hn⟩ : ∃ n, n = xs.length := ⟨_, rfl⟩
  have HN := hid hn.symm
  rw [← hn] at hm hmk ⊢
  clear hn
  have hB0 : Below w.heap.size w (w.alloc (.cells (madeCells #[.int .i64 0, .bool false, .int .i64 0, .slice none 0 0] (n * 4)) 66)) := balloc (Below.refl _ _) _
  have HI : Hid (LX KC 66 w.heap.size (w.alloc (.cells (madeCells #[.int .i64 0, .bool false, .int .i64 0, .slice none 0 0] (n * 4)) 66)).heap.size (w.alloc (.cells (madeCells #[.int .i64 0, .bool false, .int .i64 0, .slice none 0 0] (n * 4)) 66)) (.slice (some ⟨w.heap.size, 0, none⟩) 0 n) [] []) := hid (by
    have := World.ownsRow_made (base := w.heap.size) (e := 66) (size := 4) w (madeCells #[.int .i64 0, .bool false, .int .i64 0, .slice none 0 0] (n * 4)) n (Nat.le_refl _) (by unfold maxLen; omega) (size_madeCells _ _)
    exact LX.nil this (fun g e => by simp [Value.ownBlock] at e; subst e; simp) (Nat.le_refl _))
  go_enter Tryz.func110, Tryz.ntmps110
  go_upto_region 2 with fail
  generalize w.alloc (.cells (madeCells #[.int .i64 0, .bool false, .int .i64 0, .slice none 0 0] (n * 4)) 66) = W0 at *
  clear hmk
  go_wp2_with fail
  go_loopw [5, 15] (fun tv ti wr => ∃ i : Nat, ∃ g5 c5 : Nat, ∃ ps' : List (Ch × Value), ti = .int .i64 i ∧ i ≤ n ∧ tv = .slice (some ⟨g5, 0, none⟩) i c5 ∧ Hid (LX KC 66 w.heap.size wr.heap.size wr (.slice (some ⟨g5, 0, none⟩) i c5) (xs.take i) ps') ∧ Hid (Below w.heap.size w wr)) (fun _ ti _ => n - (intOf ti).toNat)
  case atStart => exact ⟨0, w.heap.size, n, [], rfl, Nat.zero_le _, rfl, HI, hid hB0⟩
  case round =>
    clear HI hB0
    obtain ⟨i, g5, c5, ps', rfl, hi, rfl, HV, HBW⟩ := hrel
    have hwX := HBW.out.size
    by_cases hlt : i < n
    · have d1 : (i : Int) < (n : Int) := by omega
      have hir : i < xs.length := by rw [HN.out]; exact hlt
      obtain ⟨ci, cpi, k9, ⟨k0, k1, k2, k3⟩, k6, k7⟩ := (HR.out.below HBW.out).2 i hir
      have HX : Hid (xs.take (i + 1) = xs.take i ++ [xs[i]]) := hid (by rw [List.take_add_one, List.getElem?_eq_getElem hir]; rfl)
      have hil : (xs.take i).length = i := by rw [List.length_take]; omega
      obtain ⟨r, hr⟩ : ∃ r, r = xs[i] := ⟨_, rfl⟩
      rw [← hr] at k0 k1 k2 k3 k6 k7 HX
      clear hr
      obtain ⟨id, gn, kd, ps⟩ := r
      simp only at k0 k1 k2 k3 k6 k7
      have hbx : Below wr.heap.size wr (wr.alloc (.cells #[.int .i64 id, .bool gn, .int .i64 kd, .slice (some ⟨ci, 0, none⟩) ps.length cpi] 66)) := balloc (Below.refl _ _) _
      have HT1 := hid (chX_clo id gn kd ps ci cpi _ k6 (Nat.lt_of_lt_of_le k9 hbx.size) (k7.below hbx))
      clear k7
      go_upto_region 5 with fail
      have gx := new_alloc wr wr.heap.size (.cells #[.int .i64 id, .bool gn, .int .i64 kd, .slice (some ⟨ci, 0, none⟩) ps.length cpi] 66) rfl
      have HI1 := hid (HV.out.below hbx)
      have HB1 := hid (btrans HBW.out hbx)
      have hs1 := hbx.size
      have hs2 : wr.heap.size < (wr.alloc (.cells #[.int .i64 id, .bool gn, .int .i64 kd, .slice (some ⟨ci, 0, none⟩) ps.length cpi] 66)).heap.size := by simp
      clear k0 k1 k2 k3 hbx HV
      generalize wr.alloc (.cells #[.int .i64 id, .bool gn, .int .i64 kd, .slice (some ⟨ci, 0, none⟩) ps.length cpi] 66) = W1 at *
      generalize wr.heap.size = Xh at *
      obtain ⟨⟨x0, x1, x2, x3⟩, _⟩ := cellk4 gx
      clear gx
      go_wp2_with fail
      refine HT1.out.mono ?_
      rintro e z ⟨sv, lo, up, rfl, hsub, hlo, hz⟩
      have HBz := hid (btrans HB1.out hz)
      have HIz := hid (HI1.out.below hz)
      have HO := hid hsub
      have hzs := hz.size
      have hwz := HBz.out.size
      obtain ⟨sa, sn, sc, hsv⟩ : ∃ a n c, sv = .slice a n c := by obtain ⟨_, c, cp, e, _⟩ := HO.out; exact ⟨_, _, _, e⟩
      clear hz hsub x0 x1 x2 x3 HT1 HI1 HB1
      subst hsv
      go_upto_region 7 with fail
      have hal : Below z.heap.size z (z.alloc (.cells #[.int .i64 id, .bool gn, .int .i64 kd, .slice sa sn sc] 66)) := balloc (Below.refl _ _) _
      have gy := new_alloc z z.heap.size (.cells #[.int .i64 id, .bool gn, .int .i64 kd, .slice sa sn sc] 66) rfl
      have HIa := hid (HIz.out.below hal)
      have HBa := hid (btrans HBz.out hal)
      have HOa := hid (KC.frame HO.out (fun c _ h2 => hal.block c (by have := KC.top HO.out; omega)) hal.size)
      have has : z.heap.size < (z.alloc (.cells #[.int .i64 id, .bool gn, .int .i64 kd, .slice sa sn sc] 66)).heap.size := by simp
      clear hal HO HIz HBz
      generalize z.alloc (.cells #[.int .i64 id, .bool gn, .int .i64 kd, .slice sa sn sc] 66) = Z at *
      obtain ⟨⟨x0, x1, x2, x3⟩, _⟩ := cellk4 gy
      clear gy
      have hownZ : Z.ownsRow w.heap.size 66 4 (.slice (some ⟨g5, 0, none⟩) i c5) i (flatK KC ps') := by have := HIa.out.2.1; rw [hil] at this; exact this
      go_wp2_with (at_builtin; (refine wpList_append_lies _ rfl (.tmp 26) (.tmp 28) 60 rfl w.heap.size 66 i0 _ 4 48 Tryz.underlying60 hi0 hz0 hz1 hz2 rfl (by decide) (.slice (some ⟨g5, 0, none⟩) i c5) i (flatK KC ps') rfl (hownZ.alloc _) ⟨Z.heap.size, 0, none⟩ 1 1 [.int .i64 id, .bool gn, .int .i64 kd, .slice sa sn sc] rfl rfl (World.news_of_block (cs := #[.int .i64 id, .bool gn, .int .i64 kd, .slice sa sn sc]) (t := 66) (fr := (0, 0)) (heap_alloc_new Z _)) (by simp [Value.oneCell']) (by omega) (by unfold maxLen; omega) (by omega) (by simp; omega) (Z.heap.size + 1) (by simp) ?_; intro gg cq w2 hown2 hgrow hat hlt2))
      have hal2 : Below Z.heap.size Z (Z.alloc (.cells #[.int .i64 id, .bool gn, .int .i64 kd, .slice sa sn sc] 66)) := balloc (Below.refl _ _) _
      have hsn := LX.snoc (x := (id, gn, kd, ps)) (sv := .slice sa sn sc) (l := lo) (u := up) (g := gg) (cap := cq) (HIa.out.below hal2) (by omega) (by omega) (KC.frame HOa.out (fun c _ h2 => hal2.block c (by have := KC.top HOa.out; omega)) hal2.size) (by rw [hil]; exact hown2) hgrow (by simpa using hat) hlt2
      rw [hil] at hsn
      have hb2 : Below w.heap.size w w2 := Below.grown (balloc HBa.out _) hgrow (by simp; omega) (fun k e => (hownZ.lt k e).1)
      have HSN2 : Hid (LX KC 66 w.heap.size w2.heap.size w2 (.slice (some ⟨gg, 0, none⟩) (i + 1) cq) (xs.take (i + 1)) (ps' ++ [((id, gn, kd, ps), .slice sa sn sc)])) := hid (by rw [HX.out]; exact hsn)
      have HB2 := hid hb2
      clear hsn hb2 hown2 hgrow hal2 hownZ x0 x1 x2 x3
      go_roundw
      case rel => exact ⟨i + 1, gg, cq, _, by go_num, by omega, rfl, HSN2, HB2⟩
      case measure => simp [intOf]; omega
    · have d1 : (n : Int) ≤ (i : Int) := by omega
      have hin : i = n := by omega
      subst hin
      have HF : Hid (LX KC 66 w.heap.size wr.heap.size wr (.slice (some ⟨g5, 0, none⟩) i c5) xs ps') := hid (by have := HV.out; rw [← HN.out, List.take_length] at this; rw [← HN.out]; exact this)
      clear HV
      go_wp2_with fail
      go_ret
      exact ⟨_, ps', rfl, HF.out, ⟨g5, c5, rfl⟩, HBW.out⟩
theorem make_txX0 (n : Nat) (hn : n ≤ 1099511627776) (w : World) : (Instr.makeSlice 36 (.int .i64 0) (.int .i64 n)).run Tryz.prog w = .ok (.slice (some ⟨w.heap.size, 0, none⟩) 0 n) (w.alloc (.cells (madeCells #[.int .i64 0, .bool false, .slice none 0 0] (n * 3)) 63)) := by
  obtain ⟨i0, hi, hz0, hz1, hz2⟩ := info_parts Tryz.infoTx
  have := run_make (P := Tryz.prog) w 36 63 i0 _ Tryz.underlying36 hi hz0 .i64 .i64 0 n (by omega) (by omega) (by rw [hz2]; omega) (by omega)
  rw [hz1] at this
  exact this
set_option maxRecDepth 100000 in
set_option maxHeartbeats 1000000 in
theorem rwX_copied (id : Int) (fr : Int) (te : Int) (kd : Int) (ps : List (Int × Int)) (b cap : Nat) (w : World) (hm : ps.length ≤ 1099511627776) (hbs : b < w.heap.size) (h : Pts w (some ⟨b, 0, none⟩) ps) : Calls Tryz.prog 115 #[.agg #[.int .i64 id, .int .i64 fr, .int .i64 te, .int .i64 kd, .slice (some ⟨b, 0, none⟩) ps.length cap]] w fun e w' => ∃ sv lo up, e = .returned (.agg #[.int .i64 id, .int .i64 fr, .int .i64 te, .int .i64 kd, sv]) ∧ KR.sub lo up w' sv (id, fr, te, kd, ps) ∧ w.heap.size ≤ lo ∧ Below w.heap.size w w' := by
  have hB : Below w.heap.size w ((w.alloc (.cells #[.int .i64 id, .int .i64 fr, .int .i64 te, .int .i64 kd, .slice (some ⟨b, 0, none⟩) ps.length cap] 126)).alloc (.cells #[.int .i64 0, .int .i64 0, .int .i64 0, .int .i64 0, .slice none 0 0] 126)) := balloc (balloc (Below.refl _ _) _) _
  have HC := hid (impl_copyG kd b 0 cap ps _ hm (h.below hB) (Nat.lt_of_lt_of_le hbs hB.size))
  clear h
  have g0 := old_alloc (o' := .cells #[.int .i64 0, .int .i64 0, .int .i64 0, .int .i64 0, .slice none 0 0] 126) (new_alloc w w.heap.size (.cells #[.int .i64 id, .int .i64 fr, .int .i64 te, .int .i64 kd, .slice (some ⟨b, 0, none⟩) ps.length cap] 126) rfl)
  have g1 := new_alloc (w.alloc (.cells #[.int .i64 id, .int .i64 fr, .int .i64 te, .int .i64 kd, .slice (some ⟨b, 0, none⟩) ps.length cap] 126)) (w.heap.size + 1) (.cells #[.int .i64 0, .int .i64 0, .int .i64 0, .int .i64 0, .slice none 0 0] 126) (by simp)
  go_enter Tryz.func115, Tryz.ntmps115
  go_upto_region 1 with fail
  have hWz : ((w.alloc (.cells #[.int .i64 id, .int .i64 fr, .int .i64 te, .int .i64 kd, .slice (some ⟨b, 0, none⟩) ps.length cap] 126)).alloc (.cells #[.int .i64 0, .int .i64 0, .int .i64 0, .int .i64 0, .slice none 0 0] 126)).heap.size = w.heap.size + 2 := by simp
  generalize (w.alloc (.cells #[.int .i64 id, .int .i64 fr, .int .i64 te, .int .i64 kd, .slice (some ⟨b, 0, none⟩) ps.length cap] 126)).alloc (.cells #[.int .i64 0, .int .i64 0, .int .i64 0, .int .i64 0, .slice none 0 0] 126) = W at *
  obtain ⟨⟨x0, x1, x2, x3, x4⟩, _⟩ := cell5g g0
  go_wp2_with fail
  refine HC.out.mono ?_
  rintro e y ⟨g, cp, rfl, hcp, hgs, ho, hy⟩
  obtain ⟨sv, hsv⟩ : ∃ sv, sv = Value.slice (some ⟨g, 0, none⟩) ps.length cp := ⟨_, rfl⟩
  rw [← hsv]
  have hWs := lt_of_block g1
  replace g0 := keepheap2 hy g0
  replace g1 := keepheap2 hy g1
  have HB := hid (btrans hB hy)
  have hyz := hy.size
  have HO := hid ho
  clear hB hy ho HC x0 x1 x2 x3 x4
  obtain ⟨⟨x0, x1, x2, x3, x4⟩, y0, y1, y2, y3, y4⟩ := cell5g g0
  obtain ⟨⟨v0, v1, v2, v3, v4⟩, u0, u1, u2, u3, u4⟩ := cell5g g1
  rw [hsv]
  go_wp2_with fail
  rw [← hsv]
  have gF := set5 (set_far (q := w.heap.size) (k := 4) (u := sv) (set_far (q := w.heap.size) (k := 3) (u := .int .i64 kd) g1 (by omega)) (by omega)) (.int .i64 id) (.int .i64 fr) (.int .i64 te) (.int .i64 kd) (sv)
  have bF := (bset (bset (bset (bset (bset (bset (bset HB.out (q := w.heap.size) (k := 3) (Nat.le_refl _) (.int .i64 kd)) (q := w.heap.size) (k := 4) (Nat.le_refl _) (sv)) (q := w.heap.size + 1) (k := 0) (by omega) (.int .i64 id)) (q := w.heap.size + 1) (k := 1) (by omega) (.int .i64 fr)) (q := w.heap.size + 1) (k := 2) (by omega) (.int .i64 te)) (q := w.heap.size + 1) (k := 3) (by omega) (.int .i64 kd)) (q := w.heap.size + 1) (k := 4) (by omega) (sv))
  have oF := own_blk (w' := (((((((y.setCell ⟨w.heap.size, 3, none⟩ (.int .i64 kd)).setCell ⟨w.heap.size, 4, none⟩ (sv)).setCell ⟨w.heap.size + 1, 0, none⟩ (.int .i64 id)).setCell ⟨w.heap.size + 1, 1, none⟩ (.int .i64 fr)).setCell ⟨w.heap.size + 1, 2, none⟩ (.int .i64 te)).setCell ⟨w.heap.size + 1, 3, none⟩ (.int .i64 kd)).setCell ⟨w.heap.size + 1, 4, none⟩ (sv))) HO.out (by rw [Below.heap_setCell _ _ _ _ (by dsimp only; omega), Below.heap_setCell _ _ _ _ (by dsimp only; omega), Below.heap_setCell _ _ _ _ (by dsimp only; omega), Below.heap_setCell _ _ _ _ (by dsimp only; omega), Below.heap_setCell _ _ _ _ (by dsimp only; omega), Below.heap_setCell _ _ _ _ (by dsimp only; omega), Below.heap_setCell _ _ _ _ (by dsimp only; omega)]) (by simp only [World.size_setCell]; exact HO.out.1)
  have hwz : (((((((y.setCell ⟨w.heap.size, 3, none⟩ (.int .i64 kd)).setCell ⟨w.heap.size, 4, none⟩ (sv)).setCell ⟨w.heap.size + 1, 0, none⟩ (.int .i64 id)).setCell ⟨w.heap.size + 1, 1, none⟩ (.int .i64 fr)).setCell ⟨w.heap.size + 1, 2, none⟩ (.int .i64 te)).setCell ⟨w.heap.size + 1, 3, none⟩ (.int .i64 kd)).setCell ⟨w.heap.size + 1, 4, none⟩ (sv)).heap.size = y.heap.size := by simp only [World.size_setCell]
  generalize (((((((y.setCell ⟨w.heap.size, 3, none⟩ (.int .i64 kd)).setCell ⟨w.heap.size, 4, none⟩ (sv)).setCell ⟨w.heap.size + 1, 0, none⟩ (.int .i64 id)).setCell ⟨w.heap.size + 1, 1, none⟩ (.int .i64 fr)).setCell ⟨w.heap.size + 1, 2, none⟩ (.int .i64 te)).setCell ⟨w.heap.size + 1, 3, none⟩ (.int .i64 kd)).setCell ⟨w.heap.size + 1, 4, none⟩ (sv)) = wf at *
  obtain ⟨⟨z0, z1, z2, z3, z4⟩, _⟩ := cell5g gF
  exact bodyPost_ret (v := .agg #[.int .i64 id, .int .i64 fr, .int .i64 te, .int .i64 kd, sv]) (by simp [results, Tryz.results115, go_sem, z0, z1, z2, z3, z4]) rfl ⟨sv, g, g + 1, rfl, ⟨by have := HO.out.1; omega, g, cp, hsv, hcp, hm, Nat.le_refl _, by omega, oF⟩, by omega, bF⟩
set_option maxRecDepth 100000 in
set_option maxHeartbeats 1000000 in
theorem rwX_clo (id : Int) (fr : Int) (te : Int) (kd : Int) (ps : List (Int × Int)) (b cap : Nat) (w : World) (hm : ps.length ≤ 1099511627776) (hbs : b < w.heap.size) (h : Pts w (some ⟨b, 0, none⟩) ps) : Calls Tryz.prog 114 #[.agg #[.int .i64 id, .int .i64 fr, .int .i64 te, .int .i64 kd, .slice (some ⟨b, 0, none⟩) ps.length cap]] w fun e w' => ∃ sv lo up, e = .returned (.tuple #[.agg #[.int .i64 id, .int .i64 fr, .int .i64 te, .int .i64 kd, sv], .bool true]) ∧ KR.sub lo up w' sv (id, fr, te, kd, ps) ∧ w.heap.size ≤ lo ∧ Below w.heap.size w w' := by
  have hB : Below w.heap.size w ((w.alloc (.cells #[.int .i64 id, .int .i64 fr, .int .i64 te, .int .i64 kd, .slice (some ⟨b, 0, none⟩) ps.length cap] 126)).alloc (.cells #[.int .i64 0, .int .i64 0, .int .i64 0, .int .i64 0, .slice none 0 0] 126)) := balloc (balloc (Below.refl _ _) _) _
  have HC := hid (rwX_copied id fr te kd ps b cap _ hm (Nat.lt_of_lt_of_le hbs hB.size) (h.below hB))
  clear h
  have g0 := old_alloc (o' := .cells #[.int .i64 0, .int .i64 0, .int .i64 0, .int .i64 0, .slice none 0 0] 126) (new_alloc w w.heap.size (.cells #[.int .i64 id, .int .i64 fr, .int .i64 te, .int .i64 kd, .slice (some ⟨b, 0, none⟩) ps.length cap] 126) rfl)
  have g1 := new_alloc (w.alloc (.cells #[.int .i64 id, .int .i64 fr, .int .i64 te, .int .i64 kd, .slice (some ⟨b, 0, none⟩) ps.length cap] 126)) (w.heap.size + 1) (.cells #[.int .i64 0, .int .i64 0, .int .i64 0, .int .i64 0, .slice none 0 0] 126) (by simp)
  go_enter Tryz.func114, Tryz.ntmps114
  go_upto_region 1 with fail
  have hWz : ((w.alloc (.cells #[.int .i64 id, .int .i64 fr, .int .i64 te, .int .i64 kd, .slice (some ⟨b, 0, none⟩) ps.length cap] 126)).alloc (.cells #[.int .i64 0, .int .i64 0, .int .i64 0, .int .i64 0, .slice none 0 0] 126)).heap.size = w.heap.size + 2 := by simp
  generalize (w.alloc (.cells #[.int .i64 id, .int .i64 fr, .int .i64 te, .int .i64 kd, .slice (some ⟨b, 0, none⟩) ps.length cap] 126)).alloc (.cells #[.int .i64 0, .int .i64 0, .int .i64 0, .int .i64 0, .slice none 0 0] 126) = W at *
  obtain ⟨⟨x0, x1, x2, x3, x4⟩, _⟩ := cell5g g0
  go_wp2_with fail
  refine HC.out.mono ?_
  rintro e y ⟨sv, lo, up, rfl, hsub, hlo, hy⟩
  have hyz := hy.size
  replace g1 := keepheap2 hy g1
  have HB := hid (btrans hB hy)
  have HO := hid hsub
  have hone := KR.one hsub sv (by simp [KR])
  clear hB hy hsub HC g0 x0 x1 x2 x3 x4
  obtain ⟨⟨v0, v1, v2, v3, v4⟩, u0, u1, u2, u3, u4⟩ := cell5g g1
  obtain ⟨sa, sn, sc, hsv⟩ : ∃ a n c, sv = .slice a n c := by obtain ⟨_, c, cp, e, _⟩ := HO.out; exact ⟨_, _, _, e⟩
  have HSV := hid hsv.symm
  subst hsv
  go_wp2_with fail
  have gF := set5 g1 (.int .i64 id) (.int .i64 fr) (.int .i64 te) (.int .i64 kd) (.slice sa sn sc)
  have bF := (bset (bset (bset (bset (bset HB.out (q := w.heap.size + 1) (k := 0) (by omega) (.int .i64 id)) (q := w.heap.size + 1) (k := 1) (by omega) (.int .i64 fr)) (q := w.heap.size + 1) (k := 2) (by omega) (.int .i64 te)) (q := w.heap.size + 1) (k := 3) (by omega) (.int .i64 kd)) (q := w.heap.size + 1) (k := 4) (by omega) (.slice sa sn sc))
  have oF := KR.frame (w' := (((((y.setCell ⟨w.heap.size + 1, 0, none⟩ (.int .i64 id)).setCell ⟨w.heap.size + 1, 1, none⟩ (.int .i64 fr)).setCell ⟨w.heap.size + 1, 2, none⟩ (.int .i64 te)).setCell ⟨w.heap.size + 1, 3, none⟩ (.int .i64 kd)).setCell ⟨w.heap.size + 1, 4, none⟩ (.slice sa sn sc))) HO.out (fun c c1 c2 => by rw [Below.heap_setCell _ _ _ _ (by dsimp only; omega), Below.heap_setCell _ _ _ _ (by dsimp only; omega), Below.heap_setCell _ _ _ _ (by dsimp only; omega), Below.heap_setCell _ _ _ _ (by dsimp only; omega), Below.heap_setCell _ _ _ _ (by dsimp only; omega)]) (by simp only [World.size_setCell]; omega)
  generalize (((((y.setCell ⟨w.heap.size + 1, 0, none⟩ (.int .i64 id)).setCell ⟨w.heap.size + 1, 1, none⟩ (.int .i64 fr)).setCell ⟨w.heap.size + 1, 2, none⟩ (.int .i64 te)).setCell ⟨w.heap.size + 1, 3, none⟩ (.int .i64 kd)).setCell ⟨w.heap.size + 1, 4, none⟩ (.slice sa sn sc)) = wf at *
  obtain ⟨⟨z0, z1, z2, z3, z4⟩, _⟩ := cell5g gF
  exact bodyPost_ret (v := .tuple #[.agg #[.int .i64 id, .int .i64 fr, .int .i64 te, .int .i64 kd, .slice sa sn sc], .bool true]) (by simp [results, Tryz.results114, go_sem, z0, z1, z2, z3, z4]) rfl ⟨_, lo, up, rfl, oF, by omega, bF⟩
theorem make_rwX0 (n : Nat) (hn : n ≤ 1099511627776) (w : World) : (Instr.makeSlice 33 (.int .i64 0) (.int .i64 n)).run Tryz.prog w = .ok (.slice (some ⟨w.heap.size, 0, none⟩) 0 n) (w.alloc (.cells (madeCells #[.int .i64 0, .int .i64 0, .int .i64 0, .int .i64 0, .slice none 0 0] (n * 5)) 126)) := by
  obtain ⟨i0, hi, hz0, hz1, hz2⟩ := info_parts Tryz.infoRow
  have := run_make (P := Tryz.prog) w 33 126 i0 _ Tryz.underlying33 hi hz0 .i64 .i64 0 n (by omega) (by omega) (by rw [hz2]; omega) (by omega)
  rw [hz1] at this
  exact this
set_option maxRecDepth 100000 in
set_option maxHeartbeats 2000000 in
theorem kept_rw (B cap : Nat) (xs : List Rw) (w : World) (hm : xs.length ≤ 1099511627776) (h : RwsZ w B xs) : Calls Tryz.prog 113 #[.slice (some ⟨B, 0, none⟩) xs.length cap, .func (.func 114) #[] #[]] w fun e w' => ∃ v ps, e = .returned v ∧ LX KR 126 w.heap.size w'.heap.size w' v xs ps ∧ (∃ g c, v = .slice (some ⟨g, 0, none⟩) xs.length c) ∧ Below w.heap.size w w' := by
  obtain ⟨i0, hi0, hz0, hz1, hz2⟩ := info_parts Tryz.infoRow
  have HR := hid h
  clear h
  have hmk := make_rwX0 xs.length hm
  obtain ⟨n, hn⟩ : ∃ n, n = xs.length := ⟨_, rfl⟩
  have HN := hid hn.symm
  rw [← hn] at hm hmk ⊢
  clear hn
  have hB0 : Below w.heap.size w (w.alloc (.cells (madeCells #[.int .i64 0, .int .i64 0, .int .i64 0, .int .i64 0, .slice none 0 0] (n * 5)) 126)) := balloc (Below.refl _ _) _
  have HI : Hid (LX KR 126 w.heap.size (w.alloc (.cells (madeCells #[.int .i64 0, .int .i64 0, .int .i64 0, .int .i64 0, .slice none 0 0] (n * 5)) 126)).heap.size (w.alloc (.cells (madeCells #[.int .i64 0, .int .i64 0, .int .i64 0, .int .i64 0, .slice none 0 0] (n * 5)) 126)) (.slice (some ⟨w.heap.size, 0, none⟩) 0 n) [] []) := hid (by
    have := World.ownsRow_made (base := w.heap.size) (e := 126) (size := 5) w (madeCells #[.int .i64 0, .int .i64 0, .int .i64 0, .int .i64 0, .slice none 0 0] (n * 5)) n (Nat.le_refl _) (by unfold maxLen; omega) (size_madeCells _ _)
    exact LX.nil this (fun g e => by simp [Value.ownBlock] at e; subst e; simp) (Nat.le_refl _))
  go_enter Tryz.func113, Tryz.ntmps113
  go_upto_region 2 with fail
  generalize w.alloc (.cells (madeCells #[.int .i64 0, .int .i64 0, .int .i64 0, .int .i64 0, .slice none 0 0] (n * 5)) 126) = W0 at *
  clear hmk
  go_wp2_with fail
  go_loopw [5, 15] (fun tv ti wr => ∃ i : Nat, ∃ g5 c5 : Nat, ∃ ps' : List (Rw × Value), ti = .int .i64 i ∧ i ≤ n ∧ tv = .slice (some ⟨g5, 0, none⟩) i c5 ∧ Hid (LX KR 126 w.heap.size wr.heap.size wr (.slice (some ⟨g5, 0, none⟩) i c5) (xs.take i) ps') ∧ Hid (Below w.heap.size w wr)) (fun _ ti _ => n - (intOf ti).toNat)
  case atStart => exact ⟨0, w.heap.size, n, [], rfl, Nat.zero_le _, rfl, HI, hid hB0⟩
  case round =>
    clear HI hB0
    obtain ⟨i, g5, c5, ps', rfl, hi, rfl, HV, HBW⟩ := hrel
    have hwX := HBW.out.size
    by_cases hlt : i < n
    · have d1 : (i : Int) < (n : Int) := by omega
      have hir : i < xs.length := by rw [HN.out]; exact hlt
      obtain ⟨ci, cpi, k9, ⟨k0, k1, k2, k3, k4⟩, k6, k7⟩ := (HR.out.below HBW.out).2 i hir
      have HX : Hid (xs.take (i + 1) = xs.take i ++ [xs[i]]) := hid (by rw [List.take_add_one, List.getElem?_eq_getElem hir]; rfl)
      have hil : (xs.take i).length = i := by rw [List.length_take]; omega
      obtain ⟨r, hr⟩ : ∃ r, r = xs[i] := ⟨_, rfl⟩
      rw [← hr] at k0 k1 k2 k3 k4 k6 k7 HX
      clear hr
      obtain ⟨id, fr, te, kd, ps⟩ := r
      simp only at k0 k1 k2 k3 k4 k6 k7
      have hbx : Below wr.heap.size wr (wr.alloc (.cells #[.int .i64 id, .int .i64 fr, .int .i64 te, .int .i64 kd, .slice (some ⟨ci, 0, none⟩) ps.length cpi] 126)) := balloc (Below.refl _ _) _
      have HT1 := hid (rwX_clo id fr te kd ps ci cpi _ k6 (Nat.lt_of_lt_of_le k9 hbx.size) (k7.below hbx))
      clear k7
      go_upto_region 5 with fail
      have gx := new_alloc wr wr.heap.size (.cells #[.int .i64 id, .int .i64 fr, .int .i64 te, .int .i64 kd, .slice (some ⟨ci, 0, none⟩) ps.length cpi] 126) rfl
      have HI1 := hid (HV.out.below hbx)
      have HB1 := hid (btrans HBW.out hbx)
      have hs1 := hbx.size
      have hs2 : wr.heap.size < (wr.alloc (.cells #[.int .i64 id, .int .i64 fr, .int .i64 te, .int .i64 kd, .slice (some ⟨ci, 0, none⟩) ps.length cpi] 126)).heap.size := by simp
      clear k0 k1 k2 k3 k4 hbx HV
      generalize wr.alloc (.cells #[.int .i64 id, .int .i64 fr, .int .i64 te, .int .i64 kd, .slice (some ⟨ci, 0, none⟩) ps.length cpi] 126) = W1 at *
      generalize wr.heap.size = Xh at *
      obtain ⟨⟨x0, x1, x2, x3, x4⟩, _⟩ := cell5g gx
      clear gx
      go_wp2_with fail
      refine HT1.out.mono ?_
      rintro e z ⟨sv, lo, up, rfl, hsub, hlo, hz⟩
      have HBz := hid (btrans HB1.out hz)
      have HIz := hid (HI1.out.below hz)
      have HO := hid hsub
      have hzs := hz.size
      have hwz := HBz.out.size
      obtain ⟨sa, sn, sc, hsv⟩ : ∃ a n c, sv = .slice a n c := by obtain ⟨_, c, cp, e, _⟩ := HO.out; exact ⟨_, _, _, e⟩
      clear hz hsub x0 x1 x2 x3 x4 HT1 HI1 HB1
      subst hsv
      go_upto_region 7 with fail
      have hal : Below z.heap.size z (z.alloc (.cells #[.int .i64 id, .int .i64 fr, .int .i64 te, .int .i64 kd, .slice sa sn sc] 126)) := balloc (Below.refl _ _) _
      have gy := new_alloc z z.heap.size (.cells #[.int .i64 id, .int .i64 fr, .int .i64 te, .int .i64 kd, .slice sa sn sc] 126) rfl
      have HIa := hid (HIz.out.below hal)
      have HBa := hid (btrans HBz.out hal)
      have HOa := hid (KR.frame HO.out (fun c _ h2 => hal.block c (by have := KR.top HO.out; omega)) hal.size)
      have has : z.heap.size < (z.alloc (.cells #[.int .i64 id, .int .i64 fr, .int .i64 te, .int .i64 kd, .slice sa sn sc] 126)).heap.size := by simp
      clear hal HO HIz HBz
      generalize z.alloc (.cells #[.int .i64 id, .int .i64 fr, .int .i64 te, .int .i64 kd, .slice sa sn sc] 126) = Z at *
      obtain ⟨⟨x0, x1, x2, x3, x4⟩, _⟩ := cell5g gy
      clear gy
      have hownZ : Z.ownsRow w.heap.size 126 5 (.slice (some ⟨g5, 0, none⟩) i c5) i (flatK KR ps') := by have := HIa.out.2.1; rw [hil] at this; exact this
      go_wp2_with (at_builtin; (refine wpList_append_lies _ rfl (.tmp 26) (.tmp 28) 33 rfl w.heap.size 126 i0 _ 5 56 Tryz.underlying33 hi0 hz0 hz1 hz2 rfl (by decide) (.slice (some ⟨g5, 0, none⟩) i c5) i (flatK KR ps') rfl (hownZ.alloc _) ⟨Z.heap.size, 0, none⟩ 1 1 [.int .i64 id, .int .i64 fr, .int .i64 te, .int .i64 kd, .slice sa sn sc] rfl rfl (World.news_of_block (cs := #[.int .i64 id, .int .i64 fr, .int .i64 te, .int .i64 kd, .slice sa sn sc]) (t := 126) (fr := (0, 0)) (heap_alloc_new Z _)) (by simp [Value.oneCell']) (by omega) (by unfold maxLen; omega) (by omega) (by simp; omega) (Z.heap.size + 1) (by simp) ?_; intro gg cq w2 hown2 hgrow hat hlt2))
      have hal2 : Below Z.heap.size Z (Z.alloc (.cells #[.int .i64 id, .int .i64 fr, .int .i64 te, .int .i64 kd, .slice sa sn sc] 126)) := balloc (Below.refl _ _) _
      have hsn := LX.snoc (x := (id, fr, te, kd, ps)) (sv := .slice sa sn sc) (l := lo) (u := up) (g := gg) (cap := cq) (HIa.out.below hal2) (by omega) (by omega) (KR.frame HOa.out (fun c _ h2 => hal2.block c (by have := KR.top HOa.out; omega)) hal2.size) (by rw [hil]; exact hown2) hgrow (by simpa using hat) hlt2
      rw [hil] at hsn
      have hb2 : Below w.heap.size w w2 := Below.grown (balloc HBa.out _) hgrow (by simp; omega) (fun k e => (hownZ.lt k e).1)
      have HSN2 : Hid (LX KR 126 w.heap.size w2.heap.size w2 (.slice (some ⟨gg, 0, none⟩) (i + 1) cq) (xs.take (i + 1)) (ps' ++ [((id, fr, te, kd, ps), .slice sa sn sc)])) := hid (by rw [HX.out]; exact hsn)
      have HB2 := hid hb2
      clear hsn hb2 hown2 hgrow hal2 hownZ x0 x1 x2 x3 x4
      go_roundw
      case rel => exact ⟨i + 1, gg, cq, _, by go_num, by omega, rfl, HSN2, HB2⟩
      case measure => simp [intOf]; omega
    · have d1 : (n : Int) ≤ (i : Int) := by omega
      have hin : i = n := by omega
      subst hin
      have HF : Hid (LX KR 126 w.heap.size wr.heap.size wr (.slice (some ⟨g5, 0, none⟩) i c5) xs ps') := hid (by have := HV.out; rw [← HN.out, List.take_length] at this; rw [← HN.out]; exact this)
      clear HV
      go_wp2_with fail
      go_ret
      exact ⟨_, ps', rfl, HF.out, ⟨g5, c5, rfl⟩, HBW.out⟩
end Go.Proofs.YtnajddjalagmoaaGreatDoor
namespace Go.Proofs.YtnajddjalagmoaaGreatDoor
open Go.RowKit
set_option linter.unusedSimpArgs false
set_option linter.unusedVariables false
/-- Rows as the law hands them in: each list of points has an address. -/
def RwsS (w : World) (B : Nat) (rs : List Rw) : Prop := B < w.heap.size ∧ ∀ j (h : j < rs.length), ∃ c cp, c < w.heap.size ∧ w.cell? ⟨B, j * 5, none⟩ = some (.int .i64 rs[j].1) ∧ w.cell? ⟨B, j * 5 + 1, none⟩ = some (.int .i64 rs[j].2.1) ∧ w.cell? ⟨B, j * 5 + 2, none⟩ = some (.int .i64 rs[j].2.2.1) ∧ w.cell? ⟨B, j * 5 + 3, none⟩ = some (.int .i64 rs[j].2.2.2.1) ∧ w.cell? ⟨B, j * 5 + 4, none⟩ = some (.slice (some ⟨c, 0, none⟩) rs[j].2.2.2.2.length cp) ∧ rs[j].2.2.2.2.length ≤ 1099511627776 ∧ Pts w (some ⟨c, 0, none⟩) rs[j].2.2.2.2
theorem rwsS_of {N : Nat → Prop} {hi : Nat} {w : World} {B : Nat} {rs : List Rw} (hB : B < w.heap.size) (h : RwsAt N w B 0 rs) (ho : RwsO hi w B rs) (hh : hi ≤ w.heap.size) : RwsS w B rs := by
  refine ⟨hB, fun j hj => ?_⟩
  obtain ⟨a, cap, h0, h1, h2, h3, h4, h5, h6, h7, h8⟩ := h j hj
  obtain ⟨c, q0, q1, q2, q3⟩ := ho j hj
  simp only [Nat.zero_add] at h0 h1 h2 h3 h4
  rw [h4] at q0
  cases q0
  exact ⟨c, _, by omega, h0, h1, h2, h3, h4, h6, h7⟩
theorem RwsS.below {w w' : World} {B : Nat} {rs : List Rw} (h : RwsS w B rs) (H : Below w.heap.size w w') : RwsS w' B rs := by
  refine ⟨Nat.lt_of_lt_of_le h.1 H.size, fun j hj => ?_⟩
  obtain ⟨c, cp, a0, a1, a2, a3, a4, a5, a6, a7⟩ := h.2 j hj
  exact ⟨c, cp, Nat.lt_of_lt_of_le a0 H.size, keepcell H a1, keepcell H a2, keepcell H a3, keepcell H a4, keepcell H a5, a6, a7.below H⟩
theorem kept_form {base hi : Nat} {w : World} {v : Value} {rs : List Rw} {xs : List El} (h : RowsX base hi w v rs xs) : ∃ a cap, v = .slice a rs.length cap := by
  rcases h.rows with ⟨rfl, _, e⟩ | ⟨g, cap, e, _⟩
  · exact ⟨none, 0, e⟩
  · exact ⟨_, cap, e⟩
/-- Rows that a call answers, in memory of its own. -/
def VR (w : World) (now : Int) (rs : List Rw) (e : Ending) (w' : World) : Prop :=
  ∃ a cap xs, e = .returned (.agg #[.int .i64 now, .slice a rs.length cap]) ∧ RowsX w.heap.size w'.heap.size w' (.slice a rs.length cap) rs xs ∧ Below w.heap.size w w'
end Go.Proofs.YtnajddjalagmoaaGreatDoor
namespace Go.Proofs.YtnajddjalagmoaaGreatDoor
open Go.RowKit
set_option linter.unusedSimpArgs false
set_option linter.unusedVariables false
theorem RwsS.z {w : World} {B : Nat} {rs : List Rw} (h : RwsS w B rs) : RwsZ w B rs := by
  refine ⟨h.1, fun j hj => ?_⟩
  obtain ⟨c, cp, a0, a1, a2, a3, a4, a5, a6, a7⟩ := h.2 j hj
  exact ⟨c, cp, a0, ⟨a1, a2, a3, a4, a5⟩, a6, a7⟩
theorem RwsZ.s {w : World} {B : Nat} {rs : List Rw} (h : RwsZ w B rs) : RwsS w B rs := by
  refine ⟨h.1, fun j hj => ?_⟩
  obtain ⟨c, cp, a0, ⟨a1, a2, a3, a4, a5⟩, a6, a7⟩ := h.2 j hj
  exact ⟨c, cp, a0, a1, a2, a3, a4, a5, a6, a7⟩
set_option maxRecDepth 100000 in
set_option maxHeartbeats 1000000 in
theorem rowsZ_copied (now : Int) (B cap : Nat) (rs : List Rw) (w : World) (hm : rs.length ≤ 1099511627776) (h : RwsZ w B rs) : Calls Tryz.prog 87 #[.agg #[.int .i64 now, .slice (some ⟨B, 0, none⟩) rs.length cap]] w fun e w' => ∃ g c ps, e = .returned (.agg #[.int .i64 now, .slice (some ⟨g, 0, none⟩) rs.length c]) ∧ LX KR 126 w.heap.size w'.heap.size w' (.slice (some ⟨g, 0, none⟩) rs.length c) rs ps ∧ Below w.heap.size w w' := by
  have HK := hid (fun (W : World) (hb : Below w.heap.size w W) => kept_rw B cap rs W hm (h.below hb))
  clear h
  generalize hn : rs.length = n at *
  have HN := hid hn
  clear hn
  have hB : Below w.heap.size w ((w.alloc (.cells #[.int .i64 now, .slice (some ⟨B, 0, none⟩) n cap] 35)).alloc (.cells #[.int .i64 0, .slice none 0 0] 35)) := balloc (balloc (Below.refl _ _) _) _
  have g0 := old_alloc (o' := .cells #[.int .i64 0, .slice none 0 0] 35) (new_alloc w w.heap.size (.cells #[.int .i64 now, .slice (some ⟨B, 0, none⟩) n cap] 35) rfl)
  have g1 := new_alloc (w.alloc (.cells #[.int .i64 now, .slice (some ⟨B, 0, none⟩) n cap] 35)) (w.heap.size + 1) (.cells #[.int .i64 0, .slice none 0 0] 35) (by simp)
  go_enter Tryz.func87, Tryz.ntmps87
  go_upto_region 1 with fail
  generalize (w.alloc (.cells #[.int .i64 now, .slice (some ⟨B, 0, none⟩) n cap] 35)).alloc (.cells #[.int .i64 0, .slice none 0 0] 35) = W at *
  obtain ⟨d0, d1, _, _⟩ := cell2f g0
  have hWs := lt_of_block g1
  go_wp2_with fail
  refine (HK.out _ hB).mono ?_
  rintro e y ⟨v, xs, rfl, hX, ⟨a, c, rfl⟩, hy⟩
  replace g0 := keepheap2 hy g0
  replace g1 := keepheap2 hy g1
  have HB := hid (btrans hB hy)
  have HX := hid hX
  have hyz := hy.size
  clear hB hy hX HK d0 d1
  obtain ⟨d0, d1, f0, f1⟩ := cell2f g0
  obtain ⟨v0, v1, u0, u1⟩ := cell2f g1
  go_wp2_with fail
  have gF := set2r (set_far (q := w.heap.size) (k := 1) (u := .slice (some ⟨a, 0, none⟩) n c) g1 (by omega)) (.int .i64 now) (.slice (some ⟨a, 0, none⟩) n c)
  have bF := bset (bset (bset HB.out (q := w.heap.size) (k := 1) (Nat.le_refl _) (.slice (some ⟨a, 0, none⟩) n c)) (q := w.heap.size + 1) (k := 0) (by omega) (.int .i64 now)) (q := w.heap.size + 1) (k := 1) (by omega) (.slice (some ⟨a, 0, none⟩) n c)
  have xF := (HX.out.frame (w' := ((y.setCell ⟨w.heap.size, 1, none⟩ (.slice (some ⟨a, 0, none⟩) n c)).setCell ⟨w.heap.size + 1, 0, none⟩ (.int .i64 now)).setCell ⟨w.heap.size + 1, 1, none⟩ (.slice (some ⟨a, 0, none⟩) n c)) (fun b h1 h2 => by rw [Below.heap_setCell _ _ _ _ (by dsimp only; omega), Below.heap_setCell _ _ _ _ (by dsimp only; omega), Below.heap_setCell _ _ _ _ (by dsimp only; omega)]) (by simp)).mono (base' := w.heap.size) (hi' := (((y.setCell ⟨w.heap.size, 1, none⟩ (.slice (some ⟨a, 0, none⟩) n c)).setCell ⟨w.heap.size + 1, 0, none⟩ (.int .i64 now)).setCell ⟨w.heap.size + 1, 1, none⟩ (.slice (some ⟨a, 0, none⟩) n c)).heap.size) (by omega) (by simp) (Nat.le_refl _)
  generalize ((y.setCell ⟨w.heap.size, 1, none⟩ (.slice (some ⟨a, 0, none⟩) n c)).setCell ⟨w.heap.size + 1, 0, none⟩ (.int .i64 now)).setCell ⟨w.heap.size + 1, 1, none⟩ (.slice (some ⟨a, 0, none⟩) n c) = wf at *
  obtain ⟨z0, z1, _, _⟩ := cell2f gF
  exact bodyPost_ret (v := .agg #[.int .i64 now, .slice (some ⟨a, 0, none⟩) n c]) (by simp [results, Tryz.results87, go_sem, z0, z1]) rfl ⟨a, c, xs, rfl, xF, bF⟩
theorem LC.rwsZ {base hi : Nat} {w : World} {g cap : Nat} {xs : List Rw} (h : LC KR base hi w (.slice (some ⟨g, 0, none⟩) xs.length cap) xs) : RwsZ w g xs := by
  obtain ⟨h0, h⟩ := h
  rcases h with ⟨_, e⟩ | ⟨g', cp, ss, lo, up, e, h1, h2, h3, h4, h5, h6⟩
  · cases e
  · cases e
    refine ⟨by omega, fun j hj => ?_⟩
    obtain ⟨⟨b1, _, c, cq, e, b2, b3, b4, b5, b6⟩, a2, a3, a4⟩ := h5 j hj
    have k0 := b1 0 (by decide)
    have k1 := b1 1 (by decide)
    have k2 := b1 2 (by decide)
    have k3 := b1 3 (by decide)
    have k4 := b1 4 (by decide)
    simp only [KR, e] at k0 k1 k2 k3 k4
    exact ⟨c, cq, b6.1, ⟨k0, k1, k2, k3, k4⟩, b3, b6.pts⟩
/-- A store in memory of its own: the rows from b1 on below u1, the transactions from b2 on below u2. -/
def StX (b1 u1 b2 u2 : Nat) (w : World) (a ta : Option Addr) (cap tcap : Nat) (rs : List Rw) (ts : List Tx) : Prop := LC KR b1 u1 w (.slice a rs.length cap) rs ∧ LC KT b2 u2 w (.slice ta ts.length tcap) ts
theorem StX.below {b1 u1 b2 u2 : Nat} {w w' : World} {a ta : Option Addr} {cap tcap : Nat} {rs : List Rw} {ts : List Tx} (h : StX b1 u1 b2 u2 w a ta cap tcap rs ts) (H : Below w.heap.size w w') : StX b1 u1 b2 u2 w' a ta cap tcap rs ts := ⟨h.1.below H, h.2.below H⟩
end Go.Proofs.YtnajddjalagmoaaGreatDoor
namespace Go.Proofs.YtnajddjalagmoaaGreatDoor
open Go.RowKit
set_option linter.unusedSimpArgs false
set_option linter.unusedVariables false
theorem LC.cells3 {base hi g cap i : Nat} {w : World} {ts : List Tx} (h : LC KT base hi w (.slice (some ⟨g, 0, none⟩) ts.length cap) ts) (hi' : i < ts.length) : (∃ u0 u1 u2, w.cell? ⟨g, i * 3, none⟩ = some u0 ∧ w.cell? ⟨g, i * 3 + 1, none⟩ = some u1 ∧ w.cell? ⟨g, i * 3 + 2, none⟩ = some u2) ∧ w.frozen? ⟨g, i * 3, none⟩ = false ∧ w.frozen? ⟨g, i * 3 + 1, none⟩ = false ∧ w.frozen? ⟨g, i * 3 + 2, none⟩ = false ∧ base ≤ g ∧ g < hi := by
  obtain ⟨h0, ⟨_, h⟩ | ⟨g2, cap2, ss, lo, up, h1, h2, h3, h4, h5, h6, h7⟩⟩ := h
  · cases h
  · cases h1
    have ht : ∀ k, k < ts.length * 3 → ∃ u, w.cell? ⟨g, k, none⟩ = some u := fun k hk => by
      obtain ⟨c0, _⟩ := h5 k hk
      obtain ⟨u0, hu0⟩ := Option.isSome_iff_exists.1 c0
      exact ⟨u0, by simpa using hu0⟩
    have hf : ∀ k, k < ts.length * 3 → w.frozen? ⟨g, k, none⟩ = false := fun k hk => by simpa using (h5 k hk).2
    obtain ⟨u0, q0⟩ := ht (i * 3) (by omega)
    obtain ⟨u1, q1⟩ := ht (i * 3 + 1) (by omega)
    obtain ⟨u2, q2⟩ := ht (i * 3 + 2) (by omega)
    exact ⟨⟨u0, u1, u2, q0, q1, q2⟩, hf _ (by omega), hf _ (by omega), hf _ (by omega), h3, h4⟩
theorem LC.some_form {α : Type} {K : Kd α} {base hi n : Nat} {w : World} {a : Option Addr} {cap : Nat} {xs : List α} (h : LC K base hi w (.slice a n cap) xs) (hx : 0 < xs.length) : ∃ g, a = some ⟨g, 0, none⟩ := by
  obtain ⟨h0, ⟨e, h⟩ | ⟨g2, cap2, ss, lo, up, h1, h2, h3, h4, h5, h6, h7⟩⟩ := h
  · subst e; simp at hx
  · cases h1; exact ⟨g2, rfl⟩
end Go.Proofs.YtnajddjalagmoaaGreatDoor
namespace Go.Proofs.YtnajddjalagmoaaGreatDoor
open Go.RowKit
set_option linter.unusedSimpArgs false
set_option linter.unusedVariables false
theorem set1r {w : World} {p : Nat} {o0 o1 : Value} {t : TypeId} (h : w.heap[p]? = some (.cells #[o0, o1] t (0, 0))) (b : Value) : (w.setCell ⟨p, 1, none⟩ b).heap[p]? = some (.cells #[o0, b] t (0, 0)) := by
  have hlt := lt_of_block h
  have h' : w.heap[p] = .cells #[o0, o1] t (0, 0) := by simpa [Array.getElem?_eq_getElem hlt] using h
  show (w.heap.modify p _)[p]? = _
  rw [Array.getElem?_eq_getElem (by simpa using hlt), Array.getElem_modify_self, h']
  rfl
theorem own_nilR {w : World} {B : Nat} : w.ownsRow B 126 5 (.slice none 0 0) 0 [] := ⟨by simp, .inl ⟨rfl, rfl⟩⟩
set_option maxRecDepth 100000 in
set_option maxHeartbeats 4000000 in
theorem spec_copyRows (now : Int) (B : Nat) (rs : List Rw) (w : World) (hm : rs.length ≤ 1099511627776) (h : RwsS w B rs) : Calls Tryz.prog 46 #[.agg #[.int .i64 now, .slice (some ⟨B, 0, none⟩) rs.length rs.length]] w fun e w' => VR w now rs e w' := by
  obtain ⟨i0, hi0, hz0, hz1, hz2⟩ := info_parts Tryz.infoRow
  have HR := hid h
  clear h
  unfold VR
  obtain ⟨n, hn⟩ : ∃ n, n = rs.length := ⟨_, rfl⟩
  have HN := hid hn.symm
  rw [← hn] at hm ⊢
  clear hn
  have hBx : Below w.heap.size w (((w.alloc (.cells #[.int .i64 now, .slice (some ⟨B, 0, none⟩) n n] 35)).alloc (.cells #[.int .i64 0, .slice none 0 0] 35)).alloc (.cells #[.int .i64 now, .slice none 0 0] 35)) := balloc (balloc (balloc (Below.refl _ _) _) _) _
  have g0 := old_alloc (o' := .cells #[.int .i64 now, .slice none 0 0] 35) (old_alloc (o' := .cells #[.int .i64 0, .slice none 0 0] 35) (new_alloc w w.heap.size (.cells #[.int .i64 now, .slice (some ⟨B, 0, none⟩) n n] 35) rfl))
  have g1 := old_alloc (o' := .cells #[.int .i64 now, .slice none 0 0] 35) (new_alloc (w.alloc (.cells #[.int .i64 now, .slice (some ⟨B, 0, none⟩) n n] 35)) (w.heap.size + 1) (.cells #[.int .i64 0, .slice none 0 0] 35) (by simp))
  have g2 := new_alloc ((w.alloc (.cells #[.int .i64 now, .slice (some ⟨B, 0, none⟩) n n] 35)).alloc (.cells #[.int .i64 0, .slice none 0 0] 35)) (w.heap.size + 1 + 1) (.cells #[.int .i64 now, .slice none 0 0] 35) (by simp)
  have hs3 : (((w.alloc (.cells #[.int .i64 now, .slice (some ⟨B, 0, none⟩) n n] 35)).alloc (.cells #[.int .i64 0, .slice none 0 0] 35)).alloc (.cells #[.int .i64 now, .slice none 0 0] 35)).heap.size = w.heap.size + 3 := by simp
  go_enter Tryz.func46, Tryz.ntmps46
  go_upto_region 2 with fail
  generalize (((w.alloc (.cells #[.int .i64 now, .slice (some ⟨B, 0, none⟩) n n] 35)).alloc (.cells #[.int .i64 0, .slice none 0 0] 35)).alloc (.cells #[.int .i64 now, .slice none 0 0] 35)) = W0 at *
  have HX0 := hid (RowsX.nil (base := w.heap.size + 3) (hi := W0.heap.size) (own_nilR (w := W0)) (fun g e => by cases e) (Nat.le_refl _))
  go_wp2_with fail
  go_loopw [4] (fun ti wr => ∃ i : Nat, ∃ v : Value, ∃ xs : List El, ti = .int .i64 i ∧ i ≤ n ∧ Hid (RowsX (w.heap.size + 3) wr.heap.size wr v (rs.take i) xs) ∧ Hid (wr.heap[w.heap.size]? = some (.cells #[.int .i64 now, .slice (some ⟨B, 0, none⟩) n n] 35 (0, 0))) ∧ Hid (wr.heap[w.heap.size + 1]? = some (.cells #[.int .i64 0, .slice none 0 0] 35 (0, 0))) ∧ Hid (wr.heap[w.heap.size + 1 + 1]? = some (.cells #[.int .i64 now, v] 35 (0, 0))) ∧ Hid (w.heap.size + 3 ≤ wr.heap.size) ∧ Hid (Below w.heap.size w wr)) (fun ti _ => n - (intOf ti).toNat)
  case atStart => exact ⟨0, _, [], rfl, Nat.zero_le _, HX0, hid g0, hid g1, hid g2, hid (by omega), hid hBx⟩
  case round =>
    clear HX0 g0 g1 g2 hBx hs3
    obtain ⟨i, v, xs, rfl, hi, HV, G0, G1, G2, HS, HBW⟩ := hrel
    obtain ⟨d0, d1, _, _⟩ := cell2f G0.out
    have hws := HS.out
    by_cases hlt : i < n
    · have c1 : (i : Int) < (n : Int) := by omega
      have hir : i < rs.length := by rw [HN.out]; exact hlt
      obtain ⟨ci, cpi, k9, k0, k1, k2, k3, k4, k6, k7⟩ := (HR.out.below HBW.out).2 i hir
      have htk : rs.take (i + 1) = rs.take i ++ [rs[i]] := by rw [List.take_add_one, List.getElem?_eq_getElem hir]; rfl
      have hil : (rs.take i).length ≤ i := by simp; omega
      have HSC := hid (fun (W : World) (hb : Below wr.heap.size wr W) => spec_copyG rs[i].2.2.2.1 ci 0 cpi rs[i].2.2.2.2 W k6 (k7.below hb) (Nat.lt_of_lt_of_le k9 hb.size))
      unfold CP at HSC
      obtain ⟨r, hr⟩ : ∃ r, r = rs[i] := ⟨_, rfl⟩
      rw [← hr] at k0 k1 k2 k3 k4 k6 htk HSC
      have HTK := hid htk
      clear hr htk k7 k9
      generalize rs.take i = zs at *
      obtain ⟨id, fr, te, kd, ps⟩ := r
      simp only at k0 k1 k2 k3 k4 k6 HSC
      go_upto_region 6 with fail
      have hbx : Below wr.heap.size wr (wr.alloc (.cells #[.int .i64 id, .int .i64 fr, .int .i64 te, .int .i64 kd, .slice (some ⟨ci, 0, none⟩) ps.length cpi] 126)) := balloc (Below.refl _ _) _
      have gx := new_alloc wr wr.heap.size (.cells #[.int .i64 id, .int .i64 fr, .int .i64 te, .int .i64 kd, .slice (some ⟨ci, 0, none⟩) ps.length cpi] 126) rfl
      have HV1 := hid (HV.out.below hbx)
      have HG0 := hid (keepheap2 hbx G0.out)
      have HG1 := hid (keepheap2 hbx G1.out)
      have HG2 := hid (keepheap2 hbx G2.out)
      have HB1 := hid (btrans HBW.out hbx)
      have HC1 := hid (HSC.out _ hbx)
      have hs1 : wr.heap.size < (wr.alloc (.cells #[.int .i64 id, .int .i64 fr, .int .i64 te, .int .i64 kd, .slice (some ⟨ci, 0, none⟩) ps.length cpi] 126)).heap.size := by simp
      clear k0 k1 k2 k3 k4 d0 d1 hbx HSC HV G0 G1 G2
      generalize wr.alloc (.cells #[.int .i64 id, .int .i64 fr, .int .i64 te, .int .i64 kd, .slice (some ⟨ci, 0, none⟩) ps.length cpi] 126) = W1 at *
      generalize wr.heap.size = X at *
      obtain ⟨⟨x0, x1, x2, x3, x4⟩, _⟩ := cell5g gx
      go_wp2_with fail
      refine HC1.out.mono ?_
      rintro e y ⟨g, cp, rfl, hcp, hgs, ho, hy⟩
      have gy := keepheap2 hy gx
      have hys := hy.size
      have hwy := (btrans HB1.out hy).size
      have HV2 := hid (HV1.out.below hy)
      have HG0' := hid (keepheap2 hy HG0.out)
      have HG1' := hid (keepheap2 hy HG1.out)
      have HG2' := hid (keepheap2 hy HG2.out)
      have HBy := hid (btrans HB1.out hy)
      have HO := hid ho
      clear hy ho gx HC1 HV1 HG0 HG1 HG2 HB1 x0 x1 x2 x3 x4
      obtain ⟨⟨x0, x1, x2, x3, x4⟩, y0, y1, y2, y3, y4⟩ := cell5g gy
      go_upto_region 7 with fail
      have gq := set34 gy (.int .i64 kd) (.slice (some ⟨g, 0, none⟩) ps.length cp)
      have hfar : ∀ b, b ≠ X → ((y.setCell ⟨X, 3, none⟩ (.int .i64 kd)).setCell ⟨X, 4, none⟩ (.slice (some ⟨g, 0, none⟩) ps.length cp)).heap[b]? = y.heap[b]? := fun b hb => by rw [Below.heap_setCell _ _ _ _ (by dsimp only; omega), Below.heap_setCell _ _ _ _ (by dsimp only; omega)]
      have HV3 := hid (HV2.out.frame (w' := (y.setCell ⟨X, 3, none⟩ (.int .i64 kd)).setCell ⟨X, 4, none⟩ (.slice (some ⟨g, 0, none⟩) ps.length cp)) (fun b h1 h2 => hfar b (by omega)) (by simp))
      have HG0 := hid ((hfar w.heap.size (by omega)).trans HG0'.out)
      have HG1 := hid ((hfar (w.heap.size + 1) (by omega)).trans HG1'.out)
      have g2 := (hfar (w.heap.size + 1 + 1) (by omega)).trans HG2'.out
      have HB3 := hid (bset (bset HBy.out (q := X) (k := 3) (by omega) (.int .i64 kd)) (q := X) (k := 4) (by omega) (.slice (some ⟨g, 0, none⟩) ps.length cp))
      have HO3 := hid (own_blk HO.out (hfar g (by omega)) (by simp; exact HO.out.1))
      have hs3 : ((y.setCell ⟨X, 3, none⟩ (.int .i64 kd)).setCell ⟨X, 4, none⟩ (.slice (some ⟨g, 0, none⟩) ps.length cp)).heap.size = y.heap.size := by simp
      have hs3a := Nat.le_of_eq hs3
      have hs3b := Nat.le_of_eq hs3.symm
      have hgy := HO.out.1
      clear hs3
      clear hfar HV2 HG0' HG1' HG2' HBy HO gy x0 x1 x2 x3 x4 y0 y1 y2 y3 y4
      generalize (y.setCell ⟨X, 3, none⟩ (.int .i64 kd)).setCell ⟨X, 4, none⟩ (.slice (some ⟨g, 0, none⟩) ps.length cp) = Y at *
      obtain ⟨⟨x0, x1, x2, x3, x4⟩, _⟩ := cell5g gq
      obtain ⟨v0, v1, _, _⟩ := cell2f g2
      have hownZ := HV3.out.2.1
      have hal2 : Below Y.heap.size Y (Y.alloc (.cells #[.int .i64 id, .int .i64 fr, .int .i64 te, .int .i64 kd, .slice (some ⟨g, 0, none⟩) ps.length cp] 126)) := balloc (Below.refl _ _) _
      have HGE := hid (keepheap2 hal2 g2)
      have hvb : v.ownBlock ≠ some (w.heap.size + 1 + 1) := fun e => by have := (hownZ.lt _ e).1; omega
      clear gq g2
      go_wp2_with (at_builtin; (refine wpList_append_lies _ rfl (.tmp 26) (.tmp 28) 33 rfl (w.heap.size + 3) 126 i0 _ 5 56 Tryz.underlying33 hi0 hz0 hz1 hz2 rfl (by decide) v zs.length (flat5 xs) rfl (hownZ.alloc _) ⟨Y.heap.size, 0, none⟩ 1 1 (ev (elR (id, fr, te, kd, ps) g cp)) rfl rfl (World.news_of_block (cs := #[.int .i64 id, .int .i64 fr, .int .i64 te, .int .i64 kd, .slice (some ⟨g, 0, none⟩) ps.length cp]) (t := 126) (fr := (0, 0)) (heap_alloc_new Y _)) (by simp [ev, elR, Value.oneCell']) (by omega) (by unfold maxLen; omega) (by omega) (by simp; omega) (Y.heap.size + 1) (by simp) ?_; intro gg cq w2 hown2 hgrow hat hlt2; have g2 := (hgrow.block (w.heap.size + 1 + 1) (lt_of_block HGE.out) (fun e => hvb e.symm)).trans HGE.out; obtain ⟨t0, t1, s0, s1⟩ := cell2f g2))
      have hsn := RowsX.snoc (r := (id, fr, te, kd, ps)) (c := g) (cp := cp) (HV3.out.below hal2) (by omega) (by omega) (by simp; omega) hcp k6 (HO3.out.below hal2) hown2 hgrow (by simpa using hat) hlt2
      have hb2 : Below w.heap.size w w2 := Below.grown (balloc HB3.out _) hgrow (by simp; omega) (fun k e => by have := (hownZ.lt k e).1; omega)
      have hw2 := hgrow.size
      have HG0e := hid ((hgrow.block w.heap.size (by simp; omega) (fun e => by have := (hownZ.lt _ e.symm).1; omega)).trans (keepheap2 hal2 HG0.out))
      have HG1e := hid ((hgrow.block (w.heap.size + 1) (by simp; omega) (fun e => by have := (hownZ.lt _ e.symm).1; omega)).trans (keepheap2 hal2 HG1.out))
      have hfar : ∀ b, b ≠ w.heap.size + 1 + 1 → (w2.setCell ⟨w.heap.size + 1 + 1, 1, none⟩ (.slice (some ⟨gg, 0, none⟩) (zs.length + 1) cq)).heap[b]? = w2.heap[b]? := fun b hb => by rw [Below.heap_setCell _ _ _ _ (by dsimp only; omega)]
      have HF1 := hid ((hsn.frame (w' := w2.setCell ⟨w.heap.size + 1 + 1, 1, none⟩ (.slice (some ⟨gg, 0, none⟩) (zs.length + 1) cq)) (fun b h1 h2 => hfar b (by omega)) (by simp)).mono (hi' := (w2.setCell ⟨w.heap.size + 1 + 1, 1, none⟩ (.slice (some ⟨gg, 0, none⟩) (zs.length + 1) cq)).heap.size) (Nat.le_refl _) (by simp) (Nat.le_refl _))
      rw [← HTK.out] at HF1
      have HF2 := hid ((hfar w.heap.size (by omega)).trans HG0e.out)
      have HF3 := hid ((hfar (w.heap.size + 1) (by omega)).trans HG1e.out)
      have HF4 : Hid ((w2.setCell ⟨w.heap.size + 1 + 1, 1, none⟩ (.slice (some ⟨gg, 0, none⟩) (zs.length + 1) cq)).heap[w.heap.size + 1 + 1]? = some (.cells #[.int .i64 now, .slice (some ⟨gg, 0, none⟩) (zs.length + 1) cq] 35 (0, 0))) := hid (set1r g2 _)
      have HF5 : Hid (w.heap.size + 3 ≤ (w2.setCell ⟨w.heap.size + 1 + 1, 1, none⟩ (.slice (some ⟨gg, 0, none⟩) (zs.length + 1) cq)).heap.size) := hid (by simp at hw2 ⊢; omega)
      have HF6 := hid (bset hb2 (q := w.heap.size + 1 + 1) (k := 1) (by omega) (.slice (some ⟨gg, 0, none⟩) (zs.length + 1) cq))
      clear hsn hb2 hown2 hgrow hal2 hownZ hfar g2 t0 t1 s0 s1 HGE HG0e HG1e
      go_roundw
      case rel => exact ⟨i + 1, _, _, by go_num, by omega, HF1, HF2, HF3, HF4, HF5, HF6⟩
      case measure => simp [intOf]; omega
    · have c1 : (n : Int) ≤ (i : Int) := by omega
      have hin : i = rs.length := by have := HN.out; omega
      have hX : RowsX (w.heap.size + 3) wr.heap.size wr v rs xs := by have := HV.out; rw [hin, List.take_length] at this; exact this
      obtain ⟨a, c, rfl⟩ := kept_form hX
      rw [HN.out] at hX G2
      have HX := hid hX
      clear hin HV hX
      obtain ⟨v0, v1, _, _⟩ := cell2f G1.out
      obtain ⟨t0, t1, _, _⟩ := cell2f G2.out
      obtain ⟨_, _, s0, s1⟩ := cell2f G1.out
      go_wp2_with fail
      have gF := set2r G1.out (.int .i64 now) (.slice a n c)
      have bF := bset (bset HBW.out (q := w.heap.size + 1) (k := 0) (by omega) (.int .i64 now)) (q := w.heap.size + 1) (k := 1) (by omega) (.slice a n c)
      have xF := (HX.out.frame (w' := (wr.setCell ⟨w.heap.size + 1, 0, none⟩ (.int .i64 now)).setCell ⟨w.heap.size + 1, 1, none⟩ (.slice a n c)) (fun b h1 h2 => by rw [Below.heap_setCell _ _ _ _ (by dsimp only; omega), Below.heap_setCell _ _ _ _ (by dsimp only; omega)]) (by simp)).mono (base' := w.heap.size) (hi' := ((wr.setCell ⟨w.heap.size + 1, 0, none⟩ (.int .i64 now)).setCell ⟨w.heap.size + 1, 1, none⟩ (.slice a n c)).heap.size) (by omega) (by simp) (Nat.le_refl _)
      generalize (wr.setCell ⟨w.heap.size + 1, 0, none⟩ (.int .i64 now)).setCell ⟨w.heap.size + 1, 1, none⟩ (.slice a n c) = wf at *
      obtain ⟨z0, z1, _, _⟩ := cell2f gF
      exact bodyPost_ret (v := .agg #[.int .i64 now, .slice a n c]) (by simp [results, Tryz.results46, go_sem, z0, z1]) rfl ⟨a, c, xs, rfl, xF, bF⟩
end Go.Proofs.YtnajddjalagmoaaGreatDoor
namespace Go.Proofs.YtnajddjalagmoaaGreatDoor
open Go.RowKit
set_option linter.unusedSimpArgs false
set_option linter.unusedVariables false
theorem setk4_23 {w : World} {p : Nat} {o0 o1 o2 o3 : Value} {t : TypeId} (h : w.heap[p]? = some (.cells #[o0, o1, o2, o3] t (0, 0))) (c d : Value) : ((w.setCell ⟨p, 2, none⟩ c).setCell ⟨p, 3, none⟩ d).heap[p]? = some (.cells #[o0, o1, c, d] t (0, 0)) := set_at (set_at h)
theorem setk3_2 {w : World} {p : Nat} {o0 o1 o2 : Value} {t : TypeId} (h : w.heap[p]? = some (.cells #[o0, o1, o2] t (0, 0))) (c : Value) : (w.setCell ⟨p, 2, none⟩ c).heap[p]? = some (.cells #[o0, o1, c] t (0, 0)) := set_at h
set_option maxRecDepth 100000 in
set_option maxHeartbeats 2000000 in
theorem spec_copyChs (B cap : Nat) (xs : List Ch) (w : World) (hm : xs.length ≤ 1099511627776) (h : ChsS w B xs) : Calls Tryz.prog 47 #[.slice (some ⟨B, 0, none⟩) xs.length cap] w fun e w' => ∃ v ps, e = .returned v ∧ LX KC 66 w.heap.size w'.heap.size w' v xs ps ∧ (∃ g c, v = .slice (some ⟨g, 0, none⟩) xs.length c) ∧ Below w.heap.size w w' := by
  obtain ⟨i0, hi0, hz0, hz1, hz2⟩ := info_parts Tryz.infoCh
  have HR := hid h
  clear h
  obtain ⟨n, hn⟩ : ∃ n, n = xs.length := ⟨_, rfl⟩
  have HN := hid hn.symm
  rw [← hn] at hm ⊢
  clear hn
  have hB0 : Below w.heap.size w (w.alloc (.cells #[] 66)) := balloc (Below.refl _ _) _
  have HI : Hid (LX KC 66 w.heap.size (w.alloc (.cells #[] 66)).heap.size (w.alloc (.cells #[] 66)) (.slice (some ⟨w.heap.size, 0, none⟩) 0 0) [] []) := hid (by
    have := World.ownsRow_made (base := w.heap.size) (e := 66) (size := 4) w #[] 0 (Nat.le_refl _) (by unfold maxLen; omega) rfl
    exact LX.nil this (fun g e => by simp [Value.ownBlock] at e; subst e; simp) (Nat.le_refl _))
  go_enter Tryz.func47, Tryz.ntmps47
  go_upto_region 2 with fail
  generalize w.alloc (.cells #[] 66) = W0 at *
  go_wp2_with fail
  go_loopw [3, 4] (fun tv ti wr => ∃ i : Nat, ∃ g5 c5 : Nat, ∃ ps' : List (Ch × Value), ti = .int .i64 i ∧ i ≤ n ∧ tv = .slice (some ⟨g5, 0, none⟩) i c5 ∧ Hid (LX KC 66 w.heap.size wr.heap.size wr (.slice (some ⟨g5, 0, none⟩) i c5) (xs.take i) ps') ∧ Hid (Below w.heap.size w wr)) (fun _ ti _ => n - (intOf ti).toNat)
  case atStart => exact ⟨0, w.heap.size, 0, [], rfl, Nat.zero_le _, rfl, HI, hid hB0⟩
  case round =>
    clear HI hB0
    obtain ⟨i, g5, c5, ps', rfl, hi, rfl, HV, HBW⟩ := hrel
    have hwX := HBW.out.size
    by_cases hlt : i < n
    · have d1 : (i : Int) < (n : Int) := by omega
      have hir : i < xs.length := by rw [HN.out]; exact hlt
      obtain ⟨ci, cpi, k9, ⟨k0, k1, k2, k3⟩, k6, k7⟩ := (HR.out.below HBW.out).2 i hir
      have HX : Hid (xs.take (i + 1) = xs.take i ++ [xs[i]]) := hid (by rw [List.take_add_one, List.getElem?_eq_getElem hir]; rfl)
      have hil : (xs.take i).length = i := by rw [List.length_take]; omega
      have HIL := hid hil
      obtain ⟨r, hr⟩ : ∃ r, r = xs[i] := ⟨_, rfl⟩
      rw [← hr] at k0 k1 k2 k3 k6 k7 HX
      clear hr hil
      obtain ⟨id, gn, kd, ps⟩ := r
      simp only at k0 k1 k2 k3 k6 k7
      have hbx : Below wr.heap.size wr (wr.alloc (.cells #[.int .i64 id, .bool gn, .int .i64 kd, .slice (some ⟨ci, 0, none⟩) ps.length cpi] 66)) := balloc (Below.refl _ _) _
      have HC1 := hid (spec_copyG kd ci 0 cpi ps _ k6 (k7.below hbx) (Nat.lt_of_lt_of_le k9 hbx.size))
      unfold CP at HC1
      clear k7
      go_upto_region 6 with fail
      have gx := new_alloc wr wr.heap.size (.cells #[.int .i64 id, .bool gn, .int .i64 kd, .slice (some ⟨ci, 0, none⟩) ps.length cpi] 66) rfl
      have HI1 := hid (HV.out.below hbx)
      have HB1 := hid (btrans HBW.out hbx)
      have hs1 : wr.heap.size < (wr.alloc (.cells #[.int .i64 id, .bool gn, .int .i64 kd, .slice (some ⟨ci, 0, none⟩) ps.length cpi] 66)).heap.size := by simp
      clear k0 k1 k2 k3 hbx HV
      generalize wr.alloc (.cells #[.int .i64 id, .bool gn, .int .i64 kd, .slice (some ⟨ci, 0, none⟩) ps.length cpi] 66) = W1 at *
      generalize wr.heap.size = Xh at *
      obtain ⟨⟨x0, x1, x2, x3⟩, _⟩ := cellk4 gx
      go_wp2_with fail
      refine HC1.out.mono ?_
      rintro e y ⟨g, cp, rfl, hcp, hgs, ho, hy⟩
      have gy := keepheap2 hy gx
      have hys := hy.size
      have HBy := hid (btrans HB1.out hy)
      have HIy := hid (HI1.out.below hy)
      have hwy := HBy.out.size
      have HO := hid ho
      clear hy ho gx HC1 HI1 HB1 x0 x1 x2 x3
      obtain ⟨⟨x0, x1, x2, x3⟩, y0, y1, y2, y3⟩ := cellk4 gy
      go_upto_region 7 with fail
      have gq := setk4_23 gy (.int .i64 kd) (.slice (some ⟨g, 0, none⟩) ps.length cp)
      have hfar : ∀ b, b ≠ Xh → ((y.setCell ⟨Xh, 2, none⟩ (.int .i64 kd)).setCell ⟨Xh, 3, none⟩ (.slice (some ⟨g, 0, none⟩) ps.length cp)).heap[b]? = y.heap[b]? := fun b hb => by rw [Below.heap_setCell _ _ _ _ (by dsimp only; omega), Below.heap_setCell _ _ _ _ (by dsimp only; omega)]
      have HI3 := hid (HIy.out.frame (w' := (y.setCell ⟨Xh, 2, none⟩ (.int .i64 kd)).setCell ⟨Xh, 3, none⟩ (.slice (some ⟨g, 0, none⟩) ps.length cp)) (fun b h1 h2 => hfar b (by omega)) (by simp))
      have HB3 := hid (bset (bset HBy.out (q := Xh) (k := 2) (by omega) (.int .i64 kd)) (q := Xh) (k := 3) (by omega) (.slice (some ⟨g, 0, none⟩) ps.length cp))
      have HO3 := hid (own_blk HO.out (hfar g (by omega)) (by simp; exact HO.out.1))
      have hs3 : ((y.setCell ⟨Xh, 2, none⟩ (.int .i64 kd)).setCell ⟨Xh, 3, none⟩ (.slice (some ⟨g, 0, none⟩) ps.length cp)).heap.size = y.heap.size := by simp
      have hs3a := Nat.le_of_eq hs3
      have hs3b := Nat.le_of_eq hs3.symm
      have hgy := HO.out.1
      clear hs3 hfar HIy HBy HO gy x0 x1 x2 x3 y0 y1 y2 y3
      generalize (y.setCell ⟨Xh, 2, none⟩ (.int .i64 kd)).setCell ⟨Xh, 3, none⟩ (.slice (some ⟨g, 0, none⟩) ps.length cp) = Y at *
      obtain ⟨⟨x0, x1, x2, x3⟩, _⟩ := cellk4 gq
      have hownZ : Y.ownsRow w.heap.size 66 4 (.slice (some ⟨g5, 0, none⟩) i c5) i (flatK KC ps') := by have := HI3.out.2.1; rw [HIL.out] at this; exact this
      clear gq
      go_wp2_with (at_builtin; (refine wpList_append_lies _ rfl (.tmp 21) (.tmp 23) 60 rfl w.heap.size 66 i0 _ 4 48 Tryz.underlying60 hi0 hz0 hz1 hz2 rfl (by decide) (.slice (some ⟨g5, 0, none⟩) i c5) i (flatK KC ps') rfl (hownZ.alloc _) ⟨Y.heap.size, 0, none⟩ 1 1 [.int .i64 id, .bool gn, .int .i64 kd, .slice (some ⟨g, 0, none⟩) ps.length cp] rfl rfl (World.news_of_block (cs := #[.int .i64 id, .bool gn, .int .i64 kd, .slice (some ⟨g, 0, none⟩) ps.length cp]) (t := 66) (fr := (0, 0)) (heap_alloc_new Y _)) (by simp [Value.oneCell']) (by omega) (by unfold maxLen; omega) (by omega) (by simp; omega) (Y.heap.size + 1) (by simp) ?_; intro gg cq w2 hown2 hgrow hat hlt2))
      have hal2 : Below Y.heap.size Y (Y.alloc (.cells #[.int .i64 id, .bool gn, .int .i64 kd, .slice (some ⟨g, 0, none⟩) ps.length cp] 66)) := balloc (Below.refl _ _) _
      have hsub : KC.sub g (g + 1) (Y.alloc (.cells #[.int .i64 id, .bool gn, .int .i64 kd, .slice (some ⟨g, 0, none⟩) ps.length cp] 66)) (.slice (some ⟨g, 0, none⟩) ps.length cp) (id, gn, kd, ps) := ⟨by have := (HO3.out.below hal2).1; omega, g, cp, rfl, hcp, k6, Nat.le_refl _, by omega, HO3.out.below hal2⟩
      have hsn := LX.snoc (x := (id, gn, kd, ps)) (sv := .slice (some ⟨g, 0, none⟩) ps.length cp) (l := g) (u := g + 1) (g := gg) (cap := cq) (HI3.out.below hal2) (by omega) (by omega) hsub (by rw [HIL.out]; exact hown2) hgrow (by simpa using hat) hlt2
      rw [HIL.out] at hsn
      have hb2 : Below w.heap.size w w2 := Below.grown (balloc HB3.out _) hgrow (by simp; omega) (fun k e => (hownZ.lt k e).1)
      have HSN2 : Hid (LX KC 66 w.heap.size w2.heap.size w2 (.slice (some ⟨gg, 0, none⟩) (i + 1) cq) (xs.take (i + 1)) (ps' ++ [((id, gn, kd, ps), .slice (some ⟨g, 0, none⟩) ps.length cp)])) := hid (by rw [HX.out]; exact hsn)
      have HB2 := hid hb2
      clear hsn hb2 hown2 hgrow hal2 hownZ hsub x0 x1 x2 x3
      go_roundw
      case rel => exact ⟨i + 1, gg, cq, _, by go_num, by omega, rfl, HSN2, HB2⟩
      case measure => simp [intOf]; omega
    · have d1 : (n : Int) ≤ (i : Int) := by omega
      have hin : i = n := by omega
      subst hin
      have HF : Hid (LX KC 66 w.heap.size wr.heap.size wr (.slice (some ⟨g5, 0, none⟩) i c5) xs ps') := hid (by have := HV.out; rw [← HN.out, List.take_length] at this; rw [← HN.out]; exact this)
      clear HV
      go_wp2_with fail
      go_ret
      exact ⟨_, ps', rfl, HF.out, ⟨g5, c5, rfl⟩, HBW.out⟩
end Go.Proofs.YtnajddjalagmoaaGreatDoor
namespace Go.Proofs.YtnajddjalagmoaaGreatDoor
open Go.RowKit
set_option linter.unusedSimpArgs false
set_option linter.unusedVariables false
theorem own_nilT {w : World} {B : Nat} : w.ownsRow B 63 3 (.slice none 0 0) 0 [] := ⟨by simp, .inl ⟨rfl, rfl⟩⟩
theorem LX.form {α : Type} {K : Kd α} {t : TypeId} {base hi : Nat} {w : World} {v : Value} {xs : List α} {ps : List (α × Value)} (h : LX K t base hi w v xs ps) : ∃ a cap, v = .slice a xs.length cap := by
  obtain ⟨a, cap, e, _⟩ := h.lc.form
  exact ⟨a, cap, e⟩
end Go.Proofs.YtnajddjalagmoaaGreatDoor
namespace Go.Proofs.YtnajddjalagmoaaGreatDoor
open Go.RowKit
set_option linter.unusedSimpArgs false
set_option linter.unusedVariables false
/-- Rows in a new list, their points where they lay in W0. -/
def RowsY (base lo : Nat) (W0 w : World) (v : Value) (rs : List Rw) (xs : List El) : Prop :=
  xs.length = rs.length ∧ w.ownsRow base 126 5 v rs.length (flat5 xs) ∧ ∀ j (h : j < rs.length), ∃ c cp, xs[j]? = some (elR rs[j] c cp) ∧ rs[j].2.2.2.2.length ≤ cp ∧ rs[j].2.2.2.2.length ≤ 1099511627776 ∧ lo ≤ c ∧ Pts W0 (some ⟨c, 0, none⟩) rs[j].2.2.2.2
theorem RowsY.frame {base lo : Nat} {W0 w w' : World} {v : Value} {rs : List Rw} {xs : List El} (h : RowsY base lo W0 w v rs xs) (hb : ∀ g, v.ownBlock = some g → w'.heap[g]? = w.heap[g]?) : RowsY base lo W0 w' v rs xs := ⟨h.1, own_frame h.2.1 hb, h.2.2⟩
theorem RowsY.form {base lo : Nat} {W0 w : World} {v : Value} {rs : List Rw} {xs : List El} (h : RowsY base lo W0 w v rs xs) : ∃ a cap, v = .slice a rs.length cap := by
  rcases h.2.1.2 with ⟨q, hn⟩ | ⟨g, cap, cur, e, _⟩
  · exact ⟨none, 0, by rw [q, hn]⟩
  · exact ⟨_, cap, e⟩
theorem pts_blk {W w : World} {c : Nat} {ps : List (Int × Int)} (h : Pts W (some ⟨c, 0, none⟩) ps) (e : c < W.heap.size → w.heap[c]? = W.heap[c]?) (hs : W.heap.size ≤ w.heap.size) : Pts w (some ⟨c, 0, none⟩) ps := by
  rcases h with h | ⟨b, off, ea, hb, hp⟩
  · exact .inl h
  · cases ea
    refine .inr ⟨c, 0, rfl, by omega, fun k hk => ?_⟩
    simp only [World.cell?, e hb]
    exact hp k hk
theorem RowsY.rws {base lo : Nat} {W0 w : World} {a : Option Addr} {n cap : Nat} {rs : List Rw} {xs : List El} (h : RowsY base lo W0 w (.slice a n cap) rs xs) (H : ∀ b, lo ≤ b → b < W0.heap.size → w.heap[b]? = W0.heap[b]?) (hs : W0.heap.size ≤ w.heap.size) : Rws (fun _ => True) w a rs := by
  obtain ⟨h1, h2, h3⟩ := h
  have h2' := h2
  rcases h2.2 with ⟨q, hn⟩ | ⟨g, cp, cur, e, hb, hg, hc, _⟩
  · exact .inl (List.length_eq_zero_iff.1 hn)
  · cases e
    refine .inr ⟨g, 0, rfl, (Array.getElem?_eq_some_iff.1 hg).1, fun j hj => ?_⟩
    obtain ⟨c, cpj, a1, a2, a3, a5, a4⟩ := h3 j hj
    have hjx : j < xs.length := by omega
    have ex : xs[j] = elR rs[j] c cpj := by
      rw [List.getElem?_eq_getElem hjx] at a1
      exact Option.some.inj a1
    obtain ⟨f0, f1, f2, f3, f4⟩ := flat5_at xs j hjx
    rw [ex] at f0 f1 f2 f3 f4
    rw [Nat.zero_add]
    refine ⟨some ⟨c, 0, none⟩, cpj, ?_, ?_, ?_, ?_, ?_, a2, a3, pts_blk a4 (fun hc => H c a5 hc) hs, fun _ _ _ => trivial⟩
    · rw [World.ownsRow.cellAt h2' _ (by omega)]; exact f0
    · rw [World.ownsRow.cellAt h2' _ (by omega)]; exact f1
    · rw [World.ownsRow.cellAt h2' _ (by omega)]; exact f2
    · rw [World.ownsRow.cellAt h2' _ (by omega)]; exact f3
    · rw [World.ownsRow.cellAt h2' _ (by omega)]; exact f4
end Go.Proofs.YtnajddjalagmoaaGreatDoor
namespace Go.Proofs.YtnajddjalagmoaaGreatDoor
open Go.RowKit
set_option linter.unusedSimpArgs false
set_option linter.unusedVariables false
/-- A store that a call answers, in memory of its own. -/
def SR (w : World) (now : Int) (rs : List Rw) (ts : List Tx) (e : Ending) (w' : World) : Prop :=
  ∃ a c ta tcc b1 u1 b2 u2, e = .returned (.agg #[.int .i64 now, .slice a rs.length c, .slice ta ts.length tcc]) ∧ StX b1 u1 b2 u2 w' a ta c tcc rs ts ∧ w.heap.size ≤ b1 ∧ w.heap.size ≤ b2 ∧ (u1 ≤ b2 ∨ u2 ≤ b1) ∧ Below w.heap.size w w'
theorem Txs.any {N : Nat → Prop} {M : Nat} {w : World} {a : Option Addr} {ts : List Tx} (h : Txs N M w a ts) : Txs (fun _ => True) M w a ts := by
  rcases h with h | ⟨b, o, e, hb, h⟩
  · exact .inl h
  · refine .inr ⟨b, o, e, hb, fun j hj => ?_⟩
    obtain ⟨a', cap', q0, q1, q2, q3, q4, q5, q6⟩ := h j hj
    refine ⟨a', cap', q0, q1, q2, q3, q4, ?_, fun _ _ _ => trivial⟩
    rcases q5 with q5 | ⟨b2, o2, e2, hb2, q5⟩
    · exact .inl q5
    · refine .inr ⟨b2, o2, e2, hb2, fun i hi => ?_⟩
      obtain ⟨a4, cap4, p0, p1, p2, p3, p4, p5, p6, p7⟩ := q5 i hi
      exact ⟨a4, cap4, p0, p1, p2, p3, p4, p5, p6, fun _ _ _ => trivial⟩
/-- Rows do not lie in a block that holds a store. -/
theorem Rws.off {N : Nat → Prop} {w w' : World} {a : Option Addr} {rs : List Rw} {Q : Nat} {x y z : Value} {t : TypeId} (h : Rws N w a rs) (hq : w.heap[Q]? = some (.cells #[x, y, z] t (0, 0))) (hy : ∀ i, y ≠ .int .i64 i) (hf : ∀ b, b ≠ Q → w'.heap[b]? = w.heap[b]?) (hs : w.heap.size ≤ w'.heap.size) : Rws N w' a rs := by
  have c1 : w.cell? ⟨Q, 1, none⟩ = some y := by simp [World.cell?, hq]
  have c3 : ∀ k, w.cell? ⟨Q, k + 3, none⟩ = none := fun k => by simp [World.cell?, hq]
  rcases h with h | ⟨b, o, e, hb, h⟩
  · exact .inl h
  · cases rs with
    | nil => exact .inl rfl
    | cons r0 rr =>
    have hbQ : b ≠ Q := by
      intro e
      subst e
      obtain ⟨_, _, _, _, _, _, h4, _⟩ := h 0 (by simp)
      have := c3 (o + 0 * 5 + 1)
      rw [show o + 0 * 5 + 1 + 3 = o + 0 * 5 + 4 by omega] at this
      rw [this] at h4
      cases h4
    refine .inr ⟨b, o, e, by omega, fun j hj => ?_⟩
    obtain ⟨a', cap', k0, k1, k2, k3, k4, k5, k6, k7, k8⟩ := h j hj
    have hc : ∀ k, w'.cell? ⟨b, k, none⟩ = w.cell? ⟨b, k, none⟩ := fun k => World.cell?_of_block (w := w) (hf b hbQ)
    refine ⟨a', cap', by rw [hc]; exact k0, by rw [hc]; exact k1, by rw [hc]; exact k2, by rw [hc]; exact k3, by rw [hc]; exact k4, k5, k6, ?_, k8⟩
    rcases k7 with k7 | ⟨c, off, e2, hc2, k7⟩
    · exact .inl k7
    · cases hps : ((r0 :: rr)[j]).2.2.2.2 with
      | nil => exact .inl rfl
      | cons p0 pr =>
      rw [hps] at k7
      have hcQ : c ≠ Q := by
        intro e3
        subst e3
        obtain ⟨m0, m1⟩ := k7 0 (by simp)
        have hlt : off + 0 * 2 + 1 < 3 := by
          rcases Nat.lt_or_ge (off + 0 * 2 + 1) 3 with q | q
          · exact q
          · have := c3 (off + 0 * 2 + 1 - 3)
            rw [show off + 0 * 2 + 1 - 3 + 3 = off + 0 * 2 + 1 by omega] at this
            rw [this] at m1
            cases m1
        rcases (show off = 0 ∨ off = 1 by omega) with q | q
        · subst q
          have m1' : w.cell? ⟨c, 1, none⟩ = _ := m1
          rw [c1] at m1'
          exact hy _ (Option.some.inj m1')
        · subst q
          have m0' : w.cell? ⟨c, 1, none⟩ = _ := m0
          rw [c1] at m0'
          exact hy _ (Option.some.inj m0')
      refine .inr ⟨c, off, e2, by omega, fun k hk => ?_⟩
      obtain ⟨m0, m1⟩ := k7 k hk
      have hcc : ∀ k, w'.cell? ⟨c, k, none⟩ = w.cell? ⟨c, k, none⟩ := fun k => World.cell?_of_block (w := w) (hf c hcQ)
      exact ⟨by rw [hcc]; exact m0, by rw [hcc]; exact m1⟩
def txL (ts : List Tx) : Prop := ∀ j (h : j < ts.length), ts[j].2.2.length ≤ 1099511627776
end Go.Proofs.YtnajddjalagmoaaGreatDoor
namespace Go.Proofs.YtnajddjalagmoaaGreatDoor
open Go.RowKit
set_option linter.unusedSimpArgs false
set_option linter.unusedVariables false
theorem opn_at {now : Int} {rs : List Rw} {ts : List Tx} {n : Int} (h : opn now rs ts n = true) : ∃ m : Nat, n = (m : Int) ∧ ∃ hm : m < ts.length, storeb now rs ts = true ∧ ts[m].2.1 = true := by
  rw [gob_opn] at h
  simp only [Bool.and_eq_true] at h
  obtain ⟨h1, h2⟩ := h
  unfold gob at h2
  simp only [Bool.and_eq_true, decide_eq_true_eq] at h2
  obtain ⟨q1, q2, q3⟩ := h2
  obtain ⟨m, rfl⟩ : ∃ m : Nat, n = (m : Int) := ⟨n.toNat, by omega⟩
  have hm : m < ts.length := by omega
  rw [txn_at hm] at q3
  exact ⟨m, rfl, hm, h1, q3⟩
end Go.Proofs.YtnajddjalagmoaaGreatDoor
namespace Go.Proofs.YtnajddjalagmoaaGreatDoor
open Go.RowKit
set_option linter.unusedSimpArgs false
set_option linter.unusedVariables false
/-- The place of an id. -/
def Pl (cs : List Ch) (id : Int) (i : Nat) : Prop := i ≤ cs.length ∧ (∀ t, t < i → idc cs t < id) ∧ (∀ t, i ≤ t → t < cs.length → id ≤ idc cs t)
theorem Pl.uniq {cs : List Ch} {id : Int} {i j : Nat} (h : Pl cs id i) (k : Pl cs id j) : i = j := by
  rcases Nat.lt_trichotomy i j with q | q | q
  · have h1 := k.2.1 i q
    have h2 := h.2.2 i (Nat.le_refl _) (by have := k.1; omega)
    omega
  · exact q
  · have h1 := h.2.1 j q
    have h2 := k.2.2 j (Nat.le_refl _) (by have := h.1; omega)
    omega
def pl : List Ch → Int → Nat
  | [], _ => 0
  | c :: r, id => if c.1 < id then pl r id + 1 else 0
theorem idc_succ (c : Ch) (r : List Ch) (t : Nat) : idc (c :: r) (t + 1) = idc r t := by simp [idc]
theorem idc_zero (c : Ch) (r : List Ch) : idc (c :: r) 0 = c.1 := by simp [idc]
theorem pl_Pl : ∀ {cs : List Ch} {id : Int} (ha : ∀ i j, i < j → j < cs.length → idc cs i < idc cs j), Pl cs id (pl cs id)
  | [], id, _ => ⟨Nat.le_refl _, fun t h => absurd h (by simp [pl]), fun t _ h => absurd h (by simp)⟩
  | c :: r, id, ha => by
    have hr : ∀ i j, i < j → j < r.length → idc r i < idc r j := fun i j h1 h2 => by
      have := ha (i + 1) (j + 1) (by omega) (by simpa using h2)
      rwa [idc_succ, idc_succ] at this
    obtain ⟨k1, k2, k3⟩ := pl_Pl (id := id) hr
    unfold pl
    by_cases h : c.1 < id
    · rw [if_pos h]
      refine ⟨by simpa using k1, fun t ht => ?_, fun t h1 h2 => ?_⟩
      · cases t with
        | zero => rw [idc_zero]; exact h
        | succ s => rw [idc_succ]; exact k2 s (by omega)
      · cases t with
        | zero => omega
        | succ s => rw [idc_succ]; exact k3 s (by omega) (by simpa using h2)
    · rw [if_neg h]
      refine ⟨Nat.zero_le _, fun t ht => absurd ht (by omega), fun t h1 h2 => ?_⟩
      cases t with
      | zero => rw [idc_zero]; omega
      | succ s =>
        have := ha 0 (s + 1) (by omega) h2
        rw [idc_zero] at this
        omega
/-- The changes with one in its place. -/
def putC (cs : List Ch) (x : Ch) : List Ch := if pl cs x.1 < cs.length ∧ idc cs (pl cs x.1) = x.1 then cs.set (pl cs x.1) x else cs.take (pl cs x.1) ++ [x] ++ cs.drop (pl cs x.1)
end Go.Proofs.YtnajddjalagmoaaGreatDoor
namespace Go.Proofs.YtnajddjalagmoaaGreatDoor
open Go.RowKit
set_option linter.unusedSimpArgs false
set_option linter.unusedVariables false
set_option linter.unnecessarySimpa false
theorem take_one {α : Type} {l : List α} {i : Nat} (h : i < l.length) : l.take (i + 1) = l.take i ++ [l[i]] := by
  rw [List.take_add_one, List.getElem?_eq_getElem h]; rfl
/-- Whether an id is among the changes. -/
def hit (cs : List Ch) (id : Int) : Prop := pl cs id < cs.length ∧ idc cs (pl cs id) = id
theorem putC_hit {cs : List Ch} {x : Ch} (h : hit cs x.1) : putC cs x = cs.set (pl cs x.1) x := by
  have h' : pl cs x.1 < cs.length ∧ idc cs (pl cs x.1) = x.1 := h
  unfold putC; rw [if_pos h']
theorem putC_new {cs : List Ch} {x : Ch} (h : ¬ hit cs x.1) : putC cs x = cs.take (pl cs x.1) ++ [x] ++ cs.drop (pl cs x.1) := by
  have h' : ¬ (pl cs x.1 < cs.length ∧ idc cs (pl cs x.1) = x.1) := h
  unfold putC; rw [if_neg h']
/-- What stands behind i rounds. -/
def sl (cs : List Ch) (x : Ch) (i : Nat) : List Ch := if i ≤ pl cs x.1 then cs.take i else (if pl cs x.1 < cs.length ∧ idc cs (pl cs x.1) = x.1 then cs.take (pl cs x.1) ++ [x] ++ (cs.take i).drop (pl cs x.1 + 1) else cs.take (pl cs x.1) ++ [x] ++ (cs.take i).drop (pl cs x.1))
theorem sl_le {cs : List Ch} {x : Ch} {i : Nat} (h : i ≤ pl cs x.1) : sl cs x i = cs.take i := by unfold sl; rw [if_pos h]
theorem sl_be1 {cs : List Ch} {x : Ch} {i : Nat} (h : pl cs x.1 < i) (hh : hit cs x.1) : sl cs x i = cs.take (pl cs x.1) ++ [x] ++ (cs.take i).drop (pl cs x.1 + 1) := by
  have h' : pl cs x.1 < cs.length ∧ idc cs (pl cs x.1) = x.1 := hh
  have h2 : ¬ i ≤ pl cs x.1 := by omega
  unfold sl; rw [if_neg h2, if_pos h']
theorem sl_be2 {cs : List Ch} {x : Ch} {i : Nat} (h : pl cs x.1 < i) (hh : ¬ hit cs x.1) : sl cs x i = cs.take (pl cs x.1) ++ [x] ++ (cs.take i).drop (pl cs x.1) := by
  have h' : ¬ (pl cs x.1 < cs.length ∧ idc cs (pl cs x.1) = x.1) := hh
  have h2 : ¬ i ≤ pl cs x.1 := by omega
  unfold sl; rw [if_neg h2, if_neg h']
theorem sl_lt {cs : List Ch} {x : Ch} {i : Nat} (hi : i < cs.length) (h : i < pl cs x.1) : sl cs x (i + 1) = sl cs x i ++ [cs[i]] := by
  rw [sl_le (by omega), sl_le (by omega), take_one hi]
theorem sl_gt {cs : List Ch} {x : Ch} {i : Nat} (hi : i < cs.length) (h : pl cs x.1 < i) : sl cs x (i + 1) = sl cs x i ++ [cs[i]] := by
  have hl : (cs.take i).length = i := by rw [List.length_take]; omega
  by_cases hh : hit cs x.1
  · rw [sl_be1 (by omega) hh, sl_be1 h hh, take_one hi, List.drop_append_of_le_length (by omega)]; simp
  · rw [sl_be2 (by omega) hh, sl_be2 h hh, take_one hi, List.drop_append_of_le_length (by omega)]; simp
theorem sl_hit {cs : List Ch} {x : Ch} (h : hit cs x.1) : sl cs x (pl cs x.1 + 1) = sl cs x (pl cs x.1) ++ [x] := by
  have hp := h.1
  rw [sl_be1 (by omega) h, sl_le (Nat.le_refl _), take_one hp]
  have hl : (cs.take (pl cs x.1)).length = pl cs x.1 := by rw [List.length_take]; omega
  have : (cs.take (pl cs x.1) ++ [cs[pl cs x.1]]).drop (pl cs x.1 + 1) = [] := List.drop_eq_nil_of_le (by simp; omega)
  rw [this]; simp
theorem sl_new {cs : List Ch} {x : Ch} (hp : pl cs x.1 < cs.length) (h : ¬ hit cs x.1) : sl cs x (pl cs x.1 + 1) = sl cs x (pl cs x.1) ++ [x] ++ [cs[pl cs x.1]] := by
  rw [sl_be2 (by omega) h, sl_le (Nat.le_refl _), take_one hp]
  have hl : (cs.take (pl cs x.1)).length = pl cs x.1 := by rw [List.length_take]; omega
  rw [List.drop_append_of_le_length (by omega), List.drop_eq_nil_of_le (by omega)]; simp
theorem sl_end {cs : List Ch} {x : Ch} (hp : pl cs x.1 < cs.length) : sl cs x cs.length = putC cs x := by
  by_cases h : hit cs x.1
  · rw [sl_be1 hp h, putC_hit h, List.take_length, List.set_eq_take_append_cons_drop, if_pos hp]
    simp
  · rw [sl_be2 hp h, putC_new h, List.take_length]
theorem sl_last {cs : List Ch} {x : Ch} (hp : pl cs x.1 = cs.length) : sl cs x cs.length ++ [x] = putC cs x := by
  rw [sl_le (by omega), List.take_length, putC_new (fun h => by have := h.1; omega), hp]
  simp
/-- Changes that the call has listed anew; their points are where they were. -/
def OI (N : Nat → Prop) (w0 : World) (base : Nat) (w : World) (tv : Value) (xs : List Ch) : Prop :=
  ∃ (g c : Nat) (qs : List (Ch × Value)), tv = .slice (some ⟨g, 0, none⟩) xs.length c ∧ qs.map Prod.fst = xs ∧ w.ownsRow base 66 4 tv xs.length (flatK KC qs) ∧ ∀ q ∈ qs, ∃ a cap, q.2 = .slice a q.1.2.2.2.length cap ∧ q.1.2.2.2.length ≤ cap ∧ q.1.2.2.2.length ≤ 1099511627776 ∧ Pts w0 a q.1.2.2.2 ∧ (∀ c off, a = some ⟨c, off, none⟩ → N c)
theorem OI.below {N : Nat → Prop} {w0 : World} {base : Nat} {w w' : World} {tv : Value} {xs : List Ch} (h : OI N w0 base w tv xs) (H : Below w.heap.size w w') : OI N w0 base w' tv xs := by
  obtain ⟨g, c, qs, e, h1, h2, h3⟩ := h
  refine ⟨g, c, qs, e, h1, ⟨h2.1, ?_⟩, h3⟩
  rcases h2.2 with q | ⟨g', c', cur, e', q1, q2, q3⟩
  · exact .inl q
  · exact .inr ⟨g', c', cur, e', q1, by rw [H.block g' (lt_of_block q2)]; exact q2, q3⟩
theorem OI.chs {N : Nat → Prop} {w0 : World} {base : Nat} {w : World} {tv : Value} {xs : List Ch} (h : OI N w0 base w tv xs) (H : Below w0.heap.size w0 w) : ∃ g c, tv = .slice (some ⟨g, 0, none⟩) xs.length c ∧ base ≤ g ∧ g < w.heap.size ∧ xs.length ≤ c ∧ Chs N 1099511627776 w (some ⟨g, 0, none⟩) xs := by
  obtain ⟨g, c, qs, rfl, h1, h2, h3⟩ := h
  have hl : qs.length = xs.length := by rw [← h1, List.length_map]
  rcases h2.2 with ⟨q, _⟩ | ⟨g', c', cur, e', q1, q2, q3, q4, q5, q6⟩
  · cases q
  · cases e'
    refine ⟨g, c, rfl, q1, lt_of_block q2, q3, .inr ⟨g, 0, rfl, lt_of_block q2, fun j hj => ?_⟩⟩
    have hj' : j < qs.length := by omega
    obtain ⟨a, cap, e1, e2, e3, e4, e5⟩ := h3 qs[j] (List.getElem_mem hj')
    have ex : qs[j].1 = xs[j] := by simp only [← h1, List.getElem_map]
    have hc : ∀ t, t < 4 → w.cell? ⟨g, j * 4 + t, none⟩ = (KC.vals qs[j].1 qs[j].2)[t]? := fun t ht => by
      have h5 : (flatK KC qs)[j * 4 + t]? = (KC.vals qs[j].1 qs[j].2)[t]? := flatX_at KC qs j t hj' ht
      rw [← h5, ← q6]
      have hlt : j * 4 + t < xs.length * 4 := by omega
      rw [List.getElem?_take_of_lt hlt, Array.getElem?_toList]
      simp [World.cell?, q2]
    rw [e1] at hc
    have c0 := hc 0 (by omega)
    have c1 := hc 1 (by omega)
    have c2 := hc 2 (by omega)
    have c3 := hc 3 (by omega)
    rw [← ex]
    refine ⟨a, cap, by simpa [KC] using c0, by simpa [KC] using c1, by simpa [KC] using c2, by simpa [KC] using c3, e2, e3, e4.below H, e5⟩
theorem Chs.imp {N N' : Nat → Prop} {M : Nat} {w : World} {a : Option Addr} {xs : List Ch} (h : Chs N M w a xs) (hn : ∀ c, N c → N' c) : Chs N' M w a xs := by
  rcases h with h | ⟨b, o, e, hb, h⟩
  · exact .inl h
  · refine .inr ⟨b, o, e, hb, fun j hj => ?_⟩
    obtain ⟨a, cap, k0, k1, k2, q1, q2, q3, q4, q5⟩ := h j hj
    exact ⟨a, cap, k0, k1, k2, q1, q2, q3, q4, fun c off e => hn c (q5 c off e)⟩
end Go.Proofs.YtnajddjalagmoaaGreatDoor
