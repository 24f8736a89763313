/- Texts of stores, joined: Xc, Vc, Ve, Vf, Xs. -/
import Derived.Test.YtjhnfbefgjoiiaaGreatJ1
import Derived.Test.YtjhnfbefgjoiiaaGreatJ2
import Derived.Test.YtjhnfbefgjoiiaaGreatVb
namespace Go.Proofs.YtjhnfbefgjoiiaaGreat
open Go.RowKit
set_option linter.unusedSimpArgs false
set_option linter.unusedVariables false
/-- Lists as the law hands them in: each list inside has an address. -/
def ChsS (w : World) (B : Nat) (xs : List Ch) : Prop := B < w.heap.size ∧ ∀ j (h : j < xs.length), ∃ c cp, c < w.heap.size ∧ (w.cell? ⟨B, j * 4, none⟩ = some (.int .i64 xs[j].1) ∧ w.cell? ⟨B, j * 4 + 1, none⟩ = some (.bool xs[j].2.1) ∧ w.cell? ⟨B, j * 4 + 2, none⟩ = some (.int .i64 xs[j].2.2.1) ∧ w.cell? ⟨B, j * 4 + 3, none⟩ = some (.slice (some ⟨c, 0, none⟩) xs[j].2.2.2.length cp)) ∧ xs[j].2.2.2.length ≤ 1099511627776 ∧ Pts w (some ⟨c, 0, none⟩) xs[j].2.2.2
theorem ChsS.below {w w' : World} {B : Nat} {xs : List Ch} (h : ChsS w B xs) (H : Below w.heap.size w w') : ChsS w' B xs := by
  refine ⟨Nat.lt_of_lt_of_le h.1 H.size, fun j hj => ?_⟩
  obtain ⟨c, cp, a0, ⟨a1, a2, a3, a4⟩, a6, a7⟩ := h.2 j hj
  exact ⟨c, cp, Nat.lt_of_lt_of_le a0 H.size, ⟨keepcell H a1, keepcell H a2, keepcell H a3, keepcell H a4⟩, a6, a7.below H⟩
def TxsS (w : World) (B : Nat) (xs : List Tx) : Prop := B < w.heap.size ∧ ∀ j (h : j < xs.length), ∃ c cp, c < w.heap.size ∧ (w.cell? ⟨B, j * 3, none⟩ = some (.int .i64 xs[j].1) ∧ w.cell? ⟨B, j * 3 + 1, none⟩ = some (.bool xs[j].2.1) ∧ w.cell? ⟨B, j * 3 + 2, none⟩ = some (.slice (some ⟨c, 0, none⟩) xs[j].2.2.length cp)) ∧ xs[j].2.2.length ≤ 1099511627776 ∧ ChsS w c xs[j].2.2
theorem TxsS.below {w w' : World} {B : Nat} {xs : List Tx} (h : TxsS w B xs) (H : Below w.heap.size w w') : TxsS w' B xs := by
  refine ⟨Nat.lt_of_lt_of_le h.1 H.size, fun j hj => ?_⟩
  obtain ⟨c, cp, a0, ⟨a1, a2, a3⟩, a6, a7⟩ := h.2 j hj
  exact ⟨c, cp, Nat.lt_of_lt_of_le a0 H.size, ⟨keepcell H a1, keepcell H a2, keepcell H a3⟩, a6, a7.below H⟩
def RwsZ (w : World) (B : Nat) (xs : List Rw) : Prop := B < w.heap.size ∧ ∀ j (h : j < xs.length), ∃ c cp, c < w.heap.size ∧ (w.cell? ⟨B, j * 5, none⟩ = some (.int .i64 xs[j].1) ∧ w.cell? ⟨B, j * 5 + 1, none⟩ = some (.int .i64 xs[j].2.1) ∧ w.cell? ⟨B, j * 5 + 2, none⟩ = some (.int .i64 xs[j].2.2.1) ∧ w.cell? ⟨B, j * 5 + 3, none⟩ = some (.int .i64 xs[j].2.2.2.1) ∧ w.cell? ⟨B, j * 5 + 4, none⟩ = some (.slice (some ⟨c, 0, none⟩) xs[j].2.2.2.2.length cp)) ∧ xs[j].2.2.2.2.length ≤ 1099511627776 ∧ Pts w (some ⟨c, 0, none⟩) xs[j].2.2.2.2
theorem RwsZ.below {w w' : World} {B : Nat} {xs : List Rw} (h : RwsZ w B xs) (H : Below w.heap.size w w') : RwsZ w' B xs := by
  refine ⟨Nat.lt_of_lt_of_le h.1 H.size, fun j hj => ?_⟩
  obtain ⟨c, cp, a0, ⟨a1, a2, a3, a4, a5⟩, a6, a7⟩ := h.2 j hj
  exact ⟨c, cp, Nat.lt_of_lt_of_le a0 H.size, ⟨keepcell H a1, keepcell H a2, keepcell H a3, keepcell H a4, keepcell H a5⟩, a6, a7.below H⟩
set_option maxRecDepth 100000 in
set_option maxHeartbeats 1000000 in
theorem chX_copied (id : Int) (gn : Bool) (kd : Int) (ps : List (Int × Int)) (b cap : Nat) (w : World) (hm : ps.length ≤ 1099511627776) (hbs : b < w.heap.size) (h : Pts w (some ⟨b, 0, none⟩) ps) : Calls Tryz.prog 105 #[.agg #[.int .i64 id, .bool gn, .int .i64 kd, .slice (some ⟨b, 0, none⟩) ps.length cap]] w fun e w' => ∃ sv lo up, e = .returned (.agg #[.int .i64 id, .bool gn, .int .i64 kd, sv]) ∧ KC.sub lo up w' sv (id, gn, kd, ps) ∧ w.heap.size ≤ lo ∧ Below w.heap.size w w' := by
  have hB : Below w.heap.size w ((w.alloc (.cells #[.int .i64 id, .bool gn, .int .i64 kd, .slice (some ⟨b, 0, none⟩) ps.length cap] 73)).alloc (.cells #[.int .i64 0, .bool false, .int .i64 0, .slice none 0 0] 73)) := balloc (balloc (Below.refl _ _) _) _
  have HC := hid (impl_copyG kd b 0 cap ps _ hm (h.below hB) (Nat.lt_of_lt_of_le hbs hB.size))
  clear h
  have g0 := old_alloc (o' := .cells #[.int .i64 0, .bool false, .int .i64 0, .slice none 0 0] 73) (new_alloc w w.heap.size (.cells #[.int .i64 id, .bool gn, .int .i64 kd, .slice (some ⟨b, 0, none⟩) ps.length cap] 73) rfl)
  have g1 := new_alloc (w.alloc (.cells #[.int .i64 id, .bool gn, .int .i64 kd, .slice (some ⟨b, 0, none⟩) ps.length cap] 73)) (w.heap.size + 1) (.cells #[.int .i64 0, .bool false, .int .i64 0, .slice none 0 0] 73) (by simp)
  go_enter Tryz.func105, Tryz.ntmps105
  go_upto_region 1 with fail
  have hWz : ((w.alloc (.cells #[.int .i64 id, .bool gn, .int .i64 kd, .slice (some ⟨b, 0, none⟩) ps.length cap] 73)).alloc (.cells #[.int .i64 0, .bool false, .int .i64 0, .slice none 0 0] 73)).heap.size = w.heap.size + 2 := by simp
  generalize (w.alloc (.cells #[.int .i64 id, .bool gn, .int .i64 kd, .slice (some ⟨b, 0, none⟩) ps.length cap] 73)).alloc (.cells #[.int .i64 0, .bool false, .int .i64 0, .slice none 0 0] 73) = W at *
  obtain ⟨⟨x0, x1, x2, x3⟩, _⟩ := cellk4 g0
  go_wp2_with fail
  refine HC.out.mono ?_
  rintro e y ⟨g, cp, rfl, hcp, hgs, ho, hy⟩
  obtain ⟨sv, hsv⟩ : ∃ sv, sv = Value.slice (some ⟨g, 0, none⟩) ps.length cp := ⟨_, rfl⟩
  rw [← hsv]
  have hWs := lt_of_block g1
  replace g0 := keepheap2 hy g0
  replace g1 := keepheap2 hy g1
  have HB := hid (btrans hB hy)
  have hyz := hy.size
  have HO := hid ho
  clear hB hy ho HC x0 x1 x2 x3
  obtain ⟨⟨x0, x1, x2, x3⟩, y0, y1, y2, y3⟩ := cellk4 g0
  obtain ⟨⟨v0, v1, v2, v3⟩, u0, u1, u2, u3⟩ := cellk4 g1
  rw [hsv]
  go_wp2_with fail
  rw [← hsv]
  have gF := setk4 (set_far (q := w.heap.size) (k := 3) (u := sv) (set_far (q := w.heap.size) (k := 2) (u := .int .i64 kd) g1 (by omega)) (by omega)) (.int .i64 id) (.bool gn) (.int .i64 kd) (sv)
  have bF := (bset (bset (bset (bset (bset (bset HB.out (q := w.heap.size) (k := 2) (Nat.le_refl _) (.int .i64 kd)) (q := w.heap.size) (k := 3) (Nat.le_refl _) (sv)) (q := w.heap.size + 1) (k := 0) (by omega) (.int .i64 id)) (q := w.heap.size + 1) (k := 1) (by omega) (.bool gn)) (q := w.heap.size + 1) (k := 2) (by omega) (.int .i64 kd)) (q := w.heap.size + 1) (k := 3) (by omega) (sv))
  have oF := own_blk (w' := ((((((y.setCell ⟨w.heap.size, 2, none⟩ (.int .i64 kd)).setCell ⟨w.heap.size, 3, none⟩ (sv)).setCell ⟨w.heap.size + 1, 0, none⟩ (.int .i64 id)).setCell ⟨w.heap.size + 1, 1, none⟩ (.bool gn)).setCell ⟨w.heap.size + 1, 2, none⟩ (.int .i64 kd)).setCell ⟨w.heap.size + 1, 3, none⟩ (sv))) HO.out (by rw [Below.heap_setCell _ _ _ _ (by dsimp only; omega), Below.heap_setCell _ _ _ _ (by dsimp only; omega), Below.heap_setCell _ _ _ _ (by dsimp only; omega), Below.heap_setCell _ _ _ _ (by dsimp only; omega), Below.heap_setCell _ _ _ _ (by dsimp only; omega), Below.heap_setCell _ _ _ _ (by dsimp only; omega)]) (by simp only [World.size_setCell]; exact HO.out.1)
  have hwz : ((((((y.setCell ⟨w.heap.size, 2, none⟩ (.int .i64 kd)).setCell ⟨w.heap.size, 3, none⟩ (sv)).setCell ⟨w.heap.size + 1, 0, none⟩ (.int .i64 id)).setCell ⟨w.heap.size + 1, 1, none⟩ (.bool gn)).setCell ⟨w.heap.size + 1, 2, none⟩ (.int .i64 kd)).setCell ⟨w.heap.size + 1, 3, none⟩ (sv)).heap.size = y.heap.size := by simp only [World.size_setCell]
  generalize ((((((y.setCell ⟨w.heap.size, 2, none⟩ (.int .i64 kd)).setCell ⟨w.heap.size, 3, none⟩ (sv)).setCell ⟨w.heap.size + 1, 0, none⟩ (.int .i64 id)).setCell ⟨w.heap.size + 1, 1, none⟩ (.bool gn)).setCell ⟨w.heap.size + 1, 2, none⟩ (.int .i64 kd)).setCell ⟨w.heap.size + 1, 3, none⟩ (sv)) = wf at *
  obtain ⟨⟨z0, z1, z2, z3⟩, _⟩ := cellk4 gF
  exact bodyPost_ret (v := .agg #[.int .i64 id, .bool gn, .int .i64 kd, sv]) (by simp [results, Tryz.results105, go_sem, z0, z1, z2, z3]) rfl ⟨sv, g, g + 1, rfl, ⟨by have := HO.out.1; omega, g, cp, hsv, hcp, hm, Nat.le_refl _, by omega, oF⟩, by omega, bF⟩
set_option maxRecDepth 100000 in
set_option maxHeartbeats 1000000 in
theorem chX_clo (id : Int) (gn : Bool) (kd : Int) (ps : List (Int × Int)) (b cap : Nat) (w : World) (hm : ps.length ≤ 1099511627776) (hbs : b < w.heap.size) (h : Pts w (some ⟨b, 0, none⟩) ps) : Calls Tryz.prog 104 #[.agg #[.int .i64 id, .bool gn, .int .i64 kd, .slice (some ⟨b, 0, none⟩) ps.length cap]] w fun e w' => ∃ sv lo up, e = .returned (.tuple #[.agg #[.int .i64 id, .bool gn, .int .i64 kd, sv], .bool true]) ∧ KC.sub lo up w' sv (id, gn, kd, ps) ∧ w.heap.size ≤ lo ∧ Below w.heap.size w w' := by
  have hB : Below w.heap.size w ((w.alloc (.cells #[.int .i64 id, .bool gn, .int .i64 kd, .slice (some ⟨b, 0, none⟩) ps.length cap] 73)).alloc (.cells #[.int .i64 0, .bool false, .int .i64 0, .slice none 0 0] 73)) := balloc (balloc (Below.refl _ _) _) _
  have HC := hid (chX_copied id gn kd ps b cap _ hm (Nat.lt_of_lt_of_le hbs hB.size) (h.below hB))
  clear h
  have g0 := old_alloc (o' := .cells #[.int .i64 0, .bool false, .int .i64 0, .slice none 0 0] 73) (new_alloc w w.heap.size (.cells #[.int .i64 id, .bool gn, .int .i64 kd, .slice (some ⟨b, 0, none⟩) ps.length cap] 73) rfl)
  have g1 := new_alloc (w.alloc (.cells #[.int .i64 id, .bool gn, .int .i64 kd, .slice (some ⟨b, 0, none⟩) ps.length cap] 73)) (w.heap.size + 1) (.cells #[.int .i64 0, .bool false, .int .i64 0, .slice none 0 0] 73) (by simp)
  go_enter Tryz.func104, Tryz.ntmps104
  go_upto_region 1 with fail
  have hWz : ((w.alloc (.cells #[.int .i64 id, .bool gn, .int .i64 kd, .slice (some ⟨b, 0, none⟩) ps.length cap] 73)).alloc (.cells #[.int .i64 0, .bool false, .int .i64 0, .slice none 0 0] 73)).heap.size = w.heap.size + 2 := by simp
  generalize (w.alloc (.cells #[.int .i64 id, .bool gn, .int .i64 kd, .slice (some ⟨b, 0, none⟩) ps.length cap] 73)).alloc (.cells #[.int .i64 0, .bool false, .int .i64 0, .slice none 0 0] 73) = W at *
  obtain ⟨⟨x0, x1, x2, x3⟩, _⟩ := cellk4 g0
  go_wp2_with fail
  refine HC.out.mono ?_
  rintro e y ⟨sv, lo, up, rfl, hsub, hlo, hy⟩
  have hyz := hy.size
  replace g1 := keepheap2 hy g1
  have HB := hid (btrans hB hy)
  have HO := hid hsub
  have hone := KC.one hsub sv (by simp [KC])
  clear hB hy hsub HC g0 x0 x1 x2 x3
  obtain ⟨⟨v0, v1, v2, v3⟩, u0, u1, u2, u3⟩ := cellk4 g1
  obtain ⟨sa, sn, sc, hsv⟩ : ∃ a n c, sv = .slice a n c := by obtain ⟨_, c, cp, e, _⟩ := HO.out; exact ⟨_, _, _, e⟩
  have HSV := hid hsv.symm
  subst hsv
  go_wp2_with fail
  have gF := setk4 g1 (.int .i64 id) (.bool gn) (.int .i64 kd) (.slice sa sn sc)
  have bF := (bset (bset (bset (bset HB.out (q := w.heap.size + 1) (k := 0) (by omega) (.int .i64 id)) (q := w.heap.size + 1) (k := 1) (by omega) (.bool gn)) (q := w.heap.size + 1) (k := 2) (by omega) (.int .i64 kd)) (q := w.heap.size + 1) (k := 3) (by omega) (.slice sa sn sc))
  have oF := KC.frame (w' := ((((y.setCell ⟨w.heap.size + 1, 0, none⟩ (.int .i64 id)).setCell ⟨w.heap.size + 1, 1, none⟩ (.bool gn)).setCell ⟨w.heap.size + 1, 2, none⟩ (.int .i64 kd)).setCell ⟨w.heap.size + 1, 3, none⟩ (.slice sa sn sc))) HO.out (fun c c1 c2 => by rw [Below.heap_setCell _ _ _ _ (by dsimp only; omega), Below.heap_setCell _ _ _ _ (by dsimp only; omega), Below.heap_setCell _ _ _ _ (by dsimp only; omega), Below.heap_setCell _ _ _ _ (by dsimp only; omega)]) (by simp only [World.size_setCell]; omega)
  generalize ((((y.setCell ⟨w.heap.size + 1, 0, none⟩ (.int .i64 id)).setCell ⟨w.heap.size + 1, 1, none⟩ (.bool gn)).setCell ⟨w.heap.size + 1, 2, none⟩ (.int .i64 kd)).setCell ⟨w.heap.size + 1, 3, none⟩ (.slice sa sn sc)) = wf at *
  obtain ⟨⟨z0, z1, z2, z3⟩, _⟩ := cellk4 gF
  exact bodyPost_ret (v := .tuple #[.agg #[.int .i64 id, .bool gn, .int .i64 kd, .slice sa sn sc], .bool true]) (by simp [results, Tryz.results104, go_sem, z0, z1, z2, z3]) rfl ⟨_, lo, up, rfl, oF, by omega, bF⟩
theorem make_chX0 (n : Nat) (hn : n ≤ 1099511627776) (w : World) : (Instr.makeSlice 46 (.int .i64 0) (.int .i64 n)).run Tryz.prog w = .ok (.slice (some ⟨w.heap.size, 0, none⟩) 0 n) (w.alloc (.cells (madeCells #[.int .i64 0, .bool false, .int .i64 0, .slice none 0 0] (n * 4)) 73)) := by
  obtain ⟨i0, hi, hz0, hz1, hz2⟩ := info_parts Tryz.infoCh
  have := run_make (P := Tryz.prog) w 46 73 i0 _ Tryz.underlying46 hi hz0 .i64 .i64 0 n (by omega) (by omega) (by rw [hz2]; omega) (by omega)
  rw [hz1] at this
  exact this
set_option maxRecDepth 100000 in
set_option maxHeartbeats 2000000 in
theorem kept_ch (B cap : Nat) (xs : List Ch) (w : World) (hm : xs.length ≤ 1099511627776) (h : ChsS w B xs) : Calls Tryz.prog 103 #[.slice (some ⟨B, 0, none⟩) xs.length cap, .func (.func 104) #[] #[]] w fun e w' => ∃ v ps, e = .returned v ∧ LX KC 73 w.heap.size w'.heap.size w' v xs ps ∧ (∃ g c, v = .slice (some ⟨g, 0, none⟩) xs.length c) ∧ Below w.heap.size w w' := by
  obtain ⟨i0, hi0, hz0, hz1, hz2⟩ := info_parts Tryz.infoCh
  have HR := hid h
  clear h
  have hmk := make_chX0 xs.length hm
  obtain ⟨n, hn⟩ : ∃ n, n = xs.length := ⟨_, rfl⟩
  have HN := hid hn.symm
  rw [← hn] at hm hmk ⊢
  clear hn
  have hB0 : Below w.heap.size w (w.alloc (.cells (madeCells #[.int .i64 0, .bool false, .int .i64 0, .slice none 0 0] (n * 4)) 73)) := balloc (Below.refl _ _) _
  have HI : Hid (LX KC 73 w.heap.size (w.alloc (.cells (madeCells #[.int .i64 0, .bool false, .int .i64 0, .slice none 0 0] (n * 4)) 73)).heap.size (w.alloc (.cells (madeCells #[.int .i64 0, .bool false, .int .i64 0, .slice none 0 0] (n * 4)) 73)) (.slice (some ⟨w.heap.size, 0, none⟩) 0 n) [] []) := hid (by
    have := World.ownsRow_made (base := w.heap.size) (e := 73) (size := 4) w (madeCells #[.int .i64 0, .bool false, .int .i64 0, .slice none 0 0] (n * 4)) n (Nat.le_refl _) (by unfold maxLen; omega) (size_madeCells _ _)
    exact LX.nil this (fun g e => by simp [Value.ownBlock] at e; subst e; simp) (Nat.le_refl _))
  go_enter Tryz.func103, Tryz.ntmps103
  go_upto_region 2 with fail
  generalize w.alloc (.cells (madeCells #[.int .i64 0, .bool false, .int .i64 0, .slice none 0 0] (n * 4)) 73) = W0 at *
  clear hmk
  go_wp2_with fail
  go_loopw [5, 15] (fun tv ti wr => ∃ i : Nat, ∃ g5 c5 : Nat, ∃ ps' : List (Ch × Value), ti = .int .i64 i ∧ i ≤ n ∧ tv = .slice (some ⟨g5, 0, none⟩) i c5 ∧ Hid (LX KC 73 w.heap.size wr.heap.size wr (.slice (some ⟨g5, 0, none⟩) i c5) (xs.take i) ps') ∧ Hid (Below w.heap.size w wr)) (fun _ ti _ => n - (intOf ti).toNat)
  case atStart => exact ⟨0, w.heap.size, n, [], rfl, Nat.zero_le _, rfl, HI, hid hB0⟩
  case round =>
    clear HI hB0
    obtain ⟨i, g5, c5, ps', rfl, hi, rfl, HV, HBW⟩ := hrel
    have hwX := HBW.out.size
    by_cases hlt : i < n
    · have d1 : (i : Int) < (n : Int) := by omega
      have hir : i < xs.length := by rw [HN.out]; exact hlt
      obtain ⟨ci, cpi, k9, ⟨k0, k1, k2, k3⟩, k6, k7⟩ := (HR.out.below HBW.out).2 i hir
      have HX : Hid (xs.take (i + 1) = xs.take i ++ [xs[i]]) := hid (by rw [List.take_add_one, List.getElem?_eq_getElem hir]; rfl)
      have hil : (xs.take i).length = i := by rw [List.length_take]; omega
      obtain ⟨r, hr⟩ : ∃ r, r = xs[i] := ⟨_, rfl⟩
      rw [← hr] at k0 k1 k2 k3 k6 k7 HX
      clear hr
      obtain ⟨id, gn, kd, ps⟩ := r
      simp only at k0 k1 k2 k3 k6 k7
      have hbx : Below wr.heap.size wr (wr.alloc (.cells #[.int .i64 id, .bool gn, .int .i64 kd, .slice (some ⟨ci, 0, none⟩) ps.length cpi] 73)) := balloc (Below.refl _ _) _
      have HT1 := hid (chX_clo id gn kd ps ci cpi _ k6 (Nat.lt_of_lt_of_le k9 hbx.size) (k7.below hbx))
      clear k7
      go_upto_region 5 with fail
      have gx := new_alloc wr wr.heap.size (.cells #[.int .i64 id, .bool gn, .int .i64 kd, .slice (some ⟨ci, 0, none⟩) ps.length cpi] 73) rfl
      have HI1 := hid (HV.out.below hbx)
      have HB1 := hid (btrans HBW.out hbx)
      have hs1 := hbx.size
      have hs2 : wr.heap.size < (wr.alloc (.cells #[.int .i64 id, .bool gn, .int .i64 kd, .slice (some ⟨ci, 0, none⟩) ps.length cpi] 73)).heap.size := by simp
      clear k0 k1 k2 k3 hbx HV
      generalize wr.alloc (.cells #[.int .i64 id, .bool gn, .int .i64 kd, .slice (some ⟨ci, 0, none⟩) ps.length cpi] 73) = W1 at *
      generalize wr.heap.size = Xh at *
      obtain ⟨⟨x0, x1, x2, x3⟩, _⟩ := cellk4 gx
      clear gx
      go_wp2_with fail
      refine HT1.out.mono ?_
      rintro e z ⟨sv, lo, up, rfl, hsub, hlo, hz⟩
      have HBz := hid (btrans HB1.out hz)
      have HIz := hid (HI1.out.below hz)
      have HO := hid hsub
      have hzs := hz.size
      have hwz := HBz.out.size
      obtain ⟨sa, sn, sc, hsv⟩ : ∃ a n c, sv = .slice a n c := by obtain ⟨_, c, cp, e, _⟩ := HO.out; exact ⟨_, _, _, e⟩
      clear hz hsub x0 x1 x2 x3 HT1 HI1 HB1
      subst hsv
      go_upto_region 7 with fail
      have hal : Below z.heap.size z (z.alloc (.cells #[.int .i64 id, .bool gn, .int .i64 kd, .slice sa sn sc] 73)) := balloc (Below.refl _ _) _
      have gy := new_alloc z z.heap.size (.cells #[.int .i64 id, .bool gn, .int .i64 kd, .slice sa sn sc] 73) rfl
      have HIa := hid (HIz.out.below hal)
      have HBa := hid (btrans HBz.out hal)
      have HOa := hid (KC.frame HO.out (fun c _ h2 => hal.block c (by have := KC.top HO.out; omega)) hal.size)
      have has : z.heap.size < (z.alloc (.cells #[.int .i64 id, .bool gn, .int .i64 kd, .slice sa sn sc] 73)).heap.size := by simp
      clear hal HO HIz HBz
      generalize z.alloc (.cells #[.int .i64 id, .bool gn, .int .i64 kd, .slice sa sn sc] 73) = Z at *
      obtain ⟨⟨x0, x1, x2, x3⟩, _⟩ := cellk4 gy
      clear gy
      have hownZ : Z.ownsRow w.heap.size 73 4 (.slice (some ⟨g5, 0, none⟩) i c5) i (flatK KC ps') := by have := HIa.out.2.1; rw [hil] at this; exact this
      go_wp2_with (at_builtin; (refine wpList_append_lies _ rfl (.tmp 26) (.tmp 28) 46 rfl w.heap.size 73 i0 _ 4 48 Tryz.underlying46 hi0 hz0 hz1 hz2 rfl (by decide) (.slice (some ⟨g5, 0, none⟩) i c5) i (flatK KC ps') rfl (hownZ.alloc _) ⟨Z.heap.size, 0, none⟩ 1 1 [.int .i64 id, .bool gn, .int .i64 kd, .slice sa sn sc] rfl rfl (World.news_of_block (cs := #[.int .i64 id, .bool gn, .int .i64 kd, .slice sa sn sc]) (t := 73) (fr := (0, 0)) (heap_alloc_new Z _)) (by simp [Value.oneCell']) (by omega) (by unfold maxLen; omega) (by omega) (by simp; omega) (Z.heap.size + 1) (by simp) ?_; intro gg cq w2 hown2 hgrow hat hlt2))
      have hal2 : Below Z.heap.size Z (Z.alloc (.cells #[.int .i64 id, .bool gn, .int .i64 kd, .slice sa sn sc] 73)) := balloc (Below.refl _ _) _
      have hsn := LX.snoc (x := (id, gn, kd, ps)) (sv := .slice sa sn sc) (l := lo) (u := up) (g := gg) (cap := cq) (HIa.out.below hal2) (by omega) (by omega) (KC.frame HOa.out (fun c _ h2 => hal2.block c (by have := KC.top HOa.out; omega)) hal2.size) (by rw [hil]; exact hown2) hgrow (by simpa using hat) hlt2
      rw [hil] at hsn
      have hb2 : Below w.heap.size w w2 := Below.grown (balloc HBa.out _) hgrow (by simp; omega) (fun k e => (hownZ.lt k e).1)
      have HSN2 : Hid (LX KC 73 w.heap.size w2.heap.size w2 (.slice (some ⟨gg, 0, none⟩) (i + 1) cq) (xs.take (i + 1)) (ps' ++ [((id, gn, kd, ps), .slice sa sn sc)])) := hid (by rw [HX.out]; exact hsn)
      have HB2 := hid hb2
      clear hsn hb2 hown2 hgrow hal2 hownZ x0 x1 x2 x3
      go_roundw
      case rel => exact ⟨i + 1, gg, cq, _, by go_num, by omega, rfl, HSN2, HB2⟩
      case measure => simp [intOf]; omega
    · have d1 : (n : Int) ≤ (i : Int) := by omega
      have hin : i = n := by omega
      subst hin
      have HF : Hid (LX KC 73 w.heap.size wr.heap.size wr (.slice (some ⟨g5, 0, none⟩) i c5) xs ps') := hid (by have := HV.out; rw [← HN.out, List.take_length] at this; rw [← HN.out]; exact this)
      clear HV
      go_wp2_with fail
      go_ret
      exact ⟨_, ps', rfl, HF.out, ⟨g5, c5, rfl⟩, HBW.out⟩
set_option maxRecDepth 100000 in
set_option maxHeartbeats 1000000 in
theorem txX_copied (st : Int) (op : Bool) (cs : List Ch) (b cap : Nat) (w : World) (hm : cs.length ≤ 1099511627776) (hbs : b < w.heap.size) (h : ChsS w b cs) : Calls Tryz.prog 73 #[.agg #[.int .i64 st, .bool op, .slice (some ⟨b, 0, none⟩) cs.length cap]] w fun e w' => ∃ sv lo up, e = .returned (.agg #[.int .i64 st, .bool op, sv]) ∧ KT.sub lo up w' sv (st, op, cs) ∧ w.heap.size ≤ lo ∧ Below w.heap.size w w' := by
  have hB : Below w.heap.size w ((w.alloc (.cells #[.int .i64 st, .bool op, .slice (some ⟨b, 0, none⟩) cs.length cap] 101)).alloc (.cells #[.int .i64 0, .bool false, .slice none 0 0] 101)) := balloc (balloc (Below.refl _ _) _) _
  have HC := hid (kept_ch b cap cs _ hm (h.below hB))
  clear h
  have g0 := old_alloc (o' := .cells #[.int .i64 0, .bool false, .slice none 0 0] 101) (new_alloc w w.heap.size (.cells #[.int .i64 st, .bool op, .slice (some ⟨b, 0, none⟩) cs.length cap] 101) rfl)
  have g1 := new_alloc (w.alloc (.cells #[.int .i64 st, .bool op, .slice (some ⟨b, 0, none⟩) cs.length cap] 101)) (w.heap.size + 1) (.cells #[.int .i64 0, .bool false, .slice none 0 0] 101) (by simp)
  go_enter Tryz.func73, Tryz.ntmps73
  go_upto_region 1 with fail
  have hWz : ((w.alloc (.cells #[.int .i64 st, .bool op, .slice (some ⟨b, 0, none⟩) cs.length cap] 101)).alloc (.cells #[.int .i64 0, .bool false, .slice none 0 0] 101)).heap.size = w.heap.size + 2 := by simp
  generalize (w.alloc (.cells #[.int .i64 st, .bool op, .slice (some ⟨b, 0, none⟩) cs.length cap] 101)).alloc (.cells #[.int .i64 0, .bool false, .slice none 0 0] 101) = W at *
  obtain ⟨⟨x0, x1, x2⟩, _⟩ := cellk3 g0
  go_wp2_with fail
  refine HC.out.mono ?_
  rintro e y ⟨sv, pv, rfl, hX, hsv, hy⟩
  have hlc := hX.lc
  have hgs := hB.size
  have hWs := lt_of_block g1
  replace g0 := keepheap2 hy g0
  replace g1 := keepheap2 hy g1
  have HB := hid (btrans hB hy)
  have hyz := hy.size
  have HO := hid hlc
  clear hB hy hX hlc HC x0 x1 x2
  obtain ⟨⟨x0, x1, x2⟩, y0, y1, y2⟩ := cellk3 g0
  obtain ⟨⟨v0, v1, v2⟩, u0, u1, u2⟩ := cellk3 g1
  obtain ⟨ga, gc, hsv2⟩ := hsv
  obtain ⟨sv', hsv3⟩ : ∃ s, s = sv := ⟨_, rfl⟩
  rw [hsv2]
  go_wp2_with fail
  rw [← hsv2]
  have gF := setk3 (set_far (q := w.heap.size) (k := 2) (u := sv) g1 (by omega)) (.int .i64 st) (.bool op) (sv)
  have bF := (bset (bset (bset (bset HB.out (q := w.heap.size) (k := 2) (Nat.le_refl _) (sv)) (q := w.heap.size + 1) (k := 0) (by omega) (.int .i64 st)) (q := w.heap.size + 1) (k := 1) (by omega) (.bool op)) (q := w.heap.size + 1) (k := 2) (by omega) (sv))
  have oF := HO.out.frame (w' := ((((y.setCell ⟨w.heap.size, 2, none⟩ (sv)).setCell ⟨w.heap.size + 1, 0, none⟩ (.int .i64 st)).setCell ⟨w.heap.size + 1, 1, none⟩ (.bool op)).setCell ⟨w.heap.size + 1, 2, none⟩ (sv))) (fun c c1 c2 => (by rw [Below.heap_setCell _ _ _ _ (by dsimp only; omega), Below.heap_setCell _ _ _ _ (by dsimp only; omega), Below.heap_setCell _ _ _ _ (by dsimp only; omega), Below.heap_setCell _ _ _ _ (by dsimp only; omega)])) (by simp only [World.size_setCell]; omega)
  have hwz : ((((y.setCell ⟨w.heap.size, 2, none⟩ (sv)).setCell ⟨w.heap.size + 1, 0, none⟩ (.int .i64 st)).setCell ⟨w.heap.size + 1, 1, none⟩ (.bool op)).setCell ⟨w.heap.size + 1, 2, none⟩ (sv)).heap.size = y.heap.size := by simp only [World.size_setCell]
  generalize ((((y.setCell ⟨w.heap.size, 2, none⟩ (sv)).setCell ⟨w.heap.size + 1, 0, none⟩ (.int .i64 st)).setCell ⟨w.heap.size + 1, 1, none⟩ (.bool op)).setCell ⟨w.heap.size + 1, 2, none⟩ (sv)) = wf at *
  obtain ⟨⟨z0, z1, z2⟩, _⟩ := cellk3 gF
  exact bodyPost_ret (v := .agg #[.int .i64 st, .bool op, sv]) (by simp [results, Tryz.results73, go_sem, z0, z1, z2]) rfl ⟨sv, _, _, rfl, oF, by omega, bF⟩
set_option maxRecDepth 100000 in
set_option maxHeartbeats 1000000 in
theorem txX_clo (st : Int) (op : Bool) (cs : List Ch) (b cap : Nat) (w : World) (hm : cs.length ≤ 1099511627776) (hbs : b < w.heap.size) (h : ChsS w b cs) : Calls Tryz.prog 72 #[.agg #[.int .i64 st, .bool op, .slice (some ⟨b, 0, none⟩) cs.length cap]] w fun e w' => ∃ sv lo up, e = .returned (.tuple #[.agg #[.int .i64 st, .bool op, sv], .bool true]) ∧ KT.sub lo up w' sv (st, op, cs) ∧ w.heap.size ≤ lo ∧ Below w.heap.size w w' := by
  have hB : Below w.heap.size w ((w.alloc (.cells #[.int .i64 st, .bool op, .slice (some ⟨b, 0, none⟩) cs.length cap] 101)).alloc (.cells #[.int .i64 0, .bool false, .slice none 0 0] 101)) := balloc (balloc (Below.refl _ _) _) _
  have HC := hid (txX_copied st op cs b cap _ hm (Nat.lt_of_lt_of_le hbs hB.size) (h.below hB))
  clear h
  have g0 := old_alloc (o' := .cells #[.int .i64 0, .bool false, .slice none 0 0] 101) (new_alloc w w.heap.size (.cells #[.int .i64 st, .bool op, .slice (some ⟨b, 0, none⟩) cs.length cap] 101) rfl)
  have g1 := new_alloc (w.alloc (.cells #[.int .i64 st, .bool op, .slice (some ⟨b, 0, none⟩) cs.length cap] 101)) (w.heap.size + 1) (.cells #[.int .i64 0, .bool false, .slice none 0 0] 101) (by simp)
  go_enter Tryz.func72, Tryz.ntmps72
  go_upto_region 1 with fail
  have hWz : ((w.alloc (.cells #[.int .i64 st, .bool op, .slice (some ⟨b, 0, none⟩) cs.length cap] 101)).alloc (.cells #[.int .i64 0, .bool false, .slice none 0 0] 101)).heap.size = w.heap.size + 2 := by simp
  generalize (w.alloc (.cells #[.int .i64 st, .bool op, .slice (some ⟨b, 0, none⟩) cs.length cap] 101)).alloc (.cells #[.int .i64 0, .bool false, .slice none 0 0] 101) = W at *
  obtain ⟨⟨x0, x1, x2⟩, _⟩ := cellk3 g0
  go_wp2_with fail
  refine HC.out.mono ?_
  rintro e y ⟨sv, lo, up, rfl, hsub, hlo, hy⟩
  have hyz := hy.size
  replace g1 := keepheap2 hy g1
  have HB := hid (btrans hB hy)
  have HO := hid hsub
  have hone := KT.one hsub sv (by simp [KT])
  clear hB hy hsub HC g0 x0 x1 x2
  obtain ⟨⟨v0, v1, v2⟩, u0, u1, u2⟩ := cellk3 g1
  obtain ⟨sa, sn, sc, hsv⟩ : ∃ a n c, sv = .slice a n c := by obtain ⟨a, c, e, _⟩ := LC.form (xs := cs) HO.out; exact ⟨_, _, _, e⟩
  have HSV := hid hsv.symm
  subst hsv
  go_wp2_with fail
  have gF := setk3 g1 (.int .i64 st) (.bool op) (.slice sa sn sc)
  have bF := (bset (bset (bset HB.out (q := w.heap.size + 1) (k := 0) (by omega) (.int .i64 st)) (q := w.heap.size + 1) (k := 1) (by omega) (.bool op)) (q := w.heap.size + 1) (k := 2) (by omega) (.slice sa sn sc))
  have oF := KT.frame (w' := (((y.setCell ⟨w.heap.size + 1, 0, none⟩ (.int .i64 st)).setCell ⟨w.heap.size + 1, 1, none⟩ (.bool op)).setCell ⟨w.heap.size + 1, 2, none⟩ (.slice sa sn sc))) HO.out (fun c c1 c2 => by rw [Below.heap_setCell _ _ _ _ (by dsimp only; omega), Below.heap_setCell _ _ _ _ (by dsimp only; omega), Below.heap_setCell _ _ _ _ (by dsimp only; omega)]) (by simp only [World.size_setCell]; omega)
  generalize (((y.setCell ⟨w.heap.size + 1, 0, none⟩ (.int .i64 st)).setCell ⟨w.heap.size + 1, 1, none⟩ (.bool op)).setCell ⟨w.heap.size + 1, 2, none⟩ (.slice sa sn sc)) = wf at *
  obtain ⟨⟨z0, z1, z2⟩, _⟩ := cellk3 gF
  exact bodyPost_ret (v := .tuple #[.agg #[.int .i64 st, .bool op, .slice sa sn sc], .bool true]) (by simp [results, Tryz.results72, go_sem, z0, z1, z2]) rfl ⟨_, lo, up, rfl, oF, by omega, bF⟩
theorem make_txX0 (n : Nat) (hn : n ≤ 1099511627776) (w : World) : (Instr.makeSlice 38 (.int .i64 0) (.int .i64 n)).run Tryz.prog w = .ok (.slice (some ⟨w.heap.size, 0, none⟩) 0 n) (w.alloc (.cells (madeCells #[.int .i64 0, .bool false, .slice none 0 0] (n * 3)) 101)) := by
  obtain ⟨i0, hi, hz0, hz1, hz2⟩ := info_parts Tryz.infoTx
  have := run_make (P := Tryz.prog) w 38 101 i0 _ Tryz.underlying38 hi hz0 .i64 .i64 0 n (by omega) (by omega) (by rw [hz2]; omega) (by omega)
  rw [hz1] at this
  exact this
set_option maxRecDepth 100000 in
set_option maxHeartbeats 2000000 in
theorem kept_tx (B cap : Nat) (xs : List Tx) (w : World) (hm : xs.length ≤ 1099511627776) (h : TxsS w B xs) : Calls Tryz.prog 71 #[.slice (some ⟨B, 0, none⟩) xs.length cap, .func (.func 72) #[] #[]] w fun e w' => ∃ v ps, e = .returned v ∧ LX KT 101 w.heap.size w'.heap.size w' v xs ps ∧ (∃ g c, v = .slice (some ⟨g, 0, none⟩) xs.length c) ∧ Below w.heap.size w w' := by
  obtain ⟨i0, hi0, hz0, hz1, hz2⟩ := info_parts Tryz.infoTx
  have HR := hid h
  clear h
  have hmk := make_txX0 xs.length hm
  obtain ⟨n, hn⟩ : ∃ n, n = xs.length := ⟨_, rfl⟩
  have HN := hid hn.symm
  rw [← hn] at hm hmk ⊢
  clear hn
  have hB0 : Below w.heap.size w (w.alloc (.cells (madeCells #[.int .i64 0, .bool false, .slice none 0 0] (n * 3)) 101)) := balloc (Below.refl _ _) _
  have HI : Hid (LX KT 101 w.heap.size (w.alloc (.cells (madeCells #[.int .i64 0, .bool false, .slice none 0 0] (n * 3)) 101)).heap.size (w.alloc (.cells (madeCells #[.int .i64 0, .bool false, .slice none 0 0] (n * 3)) 101)) (.slice (some ⟨w.heap.size, 0, none⟩) 0 n) [] []) := hid (by
    have := World.ownsRow_made (base := w.heap.size) (e := 101) (size := 3) w (madeCells #[.int .i64 0, .bool false, .slice none 0 0] (n * 3)) n (Nat.le_refl _) (by unfold maxLen; omega) (size_madeCells _ _)
    exact LX.nil this (fun g e => by simp [Value.ownBlock] at e; subst e; simp) (Nat.le_refl _))
  go_enter Tryz.func71, Tryz.ntmps71
  go_upto_region 2 with fail
  generalize w.alloc (.cells (madeCells #[.int .i64 0, .bool false, .slice none 0 0] (n * 3)) 101) = W0 at *
  clear hmk
  go_wp2_with fail
  go_loopw [5, 15] (fun tv ti wr => ∃ i : Nat, ∃ g5 c5 : Nat, ∃ ps' : List (Tx × Value), ti = .int .i64 i ∧ i ≤ n ∧ tv = .slice (some ⟨g5, 0, none⟩) i c5 ∧ Hid (LX KT 101 w.heap.size wr.heap.size wr (.slice (some ⟨g5, 0, none⟩) i c5) (xs.take i) ps') ∧ Hid (Below w.heap.size w wr)) (fun _ ti _ => n - (intOf ti).toNat)
  case atStart => exact ⟨0, w.heap.size, n, [], rfl, Nat.zero_le _, rfl, HI, hid hB0⟩
  case round =>
    clear HI hB0
    obtain ⟨i, g5, c5, ps', rfl, hi, rfl, HV, HBW⟩ := hrel
    have hwX := HBW.out.size
    by_cases hlt : i < n
    · have d1 : (i : Int) < (n : Int) := by omega
      have hir : i < xs.length := by rw [HN.out]; exact hlt
      obtain ⟨ci, cpi, k9, ⟨k0, k1, k2⟩, k6, k7⟩ := (HR.out.below HBW.out).2 i hir
      have HX : Hid (xs.take (i + 1) = xs.take i ++ [xs[i]]) := hid (by rw [List.take_add_one, List.getElem?_eq_getElem hir]; rfl)
      have hil : (xs.take i).length = i := by rw [List.length_take]; omega
      obtain ⟨r, hr⟩ : ∃ r, r = xs[i] := ⟨_, rfl⟩
      rw [← hr] at k0 k1 k2 k6 k7 HX
      clear hr
      obtain ⟨st, op, cs⟩ := r
      simp only at k0 k1 k2 k6 k7
      have hbx : Below wr.heap.size wr (wr.alloc (.cells #[.int .i64 st, .bool op, .slice (some ⟨ci, 0, none⟩) cs.length cpi] 101)) := balloc (Below.refl _ _) _
      have HT1 := hid (txX_clo st op cs ci cpi _ k6 (Nat.lt_of_lt_of_le k9 hbx.size) (k7.below hbx))
      clear k7
      go_upto_region 5 with fail
      have gx := new_alloc wr wr.heap.size (.cells #[.int .i64 st, .bool op, .slice (some ⟨ci, 0, none⟩) cs.length cpi] 101) rfl
      have HI1 := hid (HV.out.below hbx)
      have HB1 := hid (btrans HBW.out hbx)
      have hs1 := hbx.size
      have hs2 : wr.heap.size < (wr.alloc (.cells #[.int .i64 st, .bool op, .slice (some ⟨ci, 0, none⟩) cs.length cpi] 101)).heap.size := by simp
      clear k0 k1 k2 hbx HV
      generalize wr.alloc (.cells #[.int .i64 st, .bool op, .slice (some ⟨ci, 0, none⟩) cs.length cpi] 101) = W1 at *
      generalize wr.heap.size = Xh at *
      obtain ⟨⟨x0, x1, x2⟩, _⟩ := cellk3 gx
      clear gx
      go_wp2_with fail
      refine HT1.out.mono ?_
      rintro e z ⟨sv, lo, up, rfl, hsub, hlo, hz⟩
      have HBz := hid (btrans HB1.out hz)
      have HIz := hid (HI1.out.below hz)
      have HO := hid hsub
      have hzs := hz.size
      have hwz := HBz.out.size
      obtain ⟨sa, sn, sc, hsv⟩ : ∃ a n c, sv = .slice a n c := by obtain ⟨a, c, e, _⟩ := LC.form (xs := cs) HO.out; exact ⟨_, _, _, e⟩
      clear hz hsub x0 x1 x2 HT1 HI1 HB1
      subst hsv
      go_upto_region 7 with fail
      have hal : Below z.heap.size z (z.alloc (.cells #[.int .i64 st, .bool op, .slice sa sn sc] 101)) := balloc (Below.refl _ _) _
      have gy := new_alloc z z.heap.size (.cells #[.int .i64 st, .bool op, .slice sa sn sc] 101) rfl
      have HIa := hid (HIz.out.below hal)
      have HBa := hid (btrans HBz.out hal)
      have HOa := hid (KT.frame HO.out (fun c _ h2 => hal.block c (by have := KT.top HO.out; omega)) hal.size)
      have has : z.heap.size < (z.alloc (.cells #[.int .i64 st, .bool op, .slice sa sn sc] 101)).heap.size := by simp
      clear hal HO HIz HBz
      generalize z.alloc (.cells #[.int .i64 st, .bool op, .slice sa sn sc] 101) = Z at *
      obtain ⟨⟨x0, x1, x2⟩, _⟩ := cellk3 gy
      clear gy
      have hownZ : Z.ownsRow w.heap.size 101 3 (.slice (some ⟨g5, 0, none⟩) i c5) i (flatK KT ps') := by have := HIa.out.2.1; rw [hil] at this; exact this
      go_wp2_with (at_builtin; (refine wpList_append_lies _ rfl (.tmp 26) (.tmp 28) 38 rfl w.heap.size 101 i0 _ 3 40 Tryz.underlying38 hi0 hz0 hz1 hz2 rfl (by decide) (.slice (some ⟨g5, 0, none⟩) i c5) i (flatK KT ps') rfl (hownZ.alloc _) ⟨Z.heap.size, 0, none⟩ 1 1 [.int .i64 st, .bool op, .slice sa sn sc] rfl rfl (World.news_of_block (cs := #[.int .i64 st, .bool op, .slice sa sn sc]) (t := 101) (fr := (0, 0)) (heap_alloc_new Z _)) (by simp [Value.oneCell']) (by omega) (by unfold maxLen; omega) (by omega) (by simp; omega) (Z.heap.size + 1) (by simp) ?_; intro gg cq w2 hown2 hgrow hat hlt2))
      have hal2 : Below Z.heap.size Z (Z.alloc (.cells #[.int .i64 st, .bool op, .slice sa sn sc] 101)) := balloc (Below.refl _ _) _
      have hsn := LX.snoc (x := (st, op, cs)) (sv := .slice sa sn sc) (l := lo) (u := up) (g := gg) (cap := cq) (HIa.out.below hal2) (by omega) (by omega) (KT.frame HOa.out (fun c _ h2 => hal2.block c (by have := KT.top HOa.out; omega)) hal2.size) (by rw [hil]; exact hown2) hgrow (by simpa using hat) hlt2
      rw [hil] at hsn
      have hb2 : Below w.heap.size w w2 := Below.grown (balloc HBa.out _) hgrow (by simp; omega) (fun k e => (hownZ.lt k e).1)
      have HSN2 : Hid (LX KT 101 w.heap.size w2.heap.size w2 (.slice (some ⟨gg, 0, none⟩) (i + 1) cq) (xs.take (i + 1)) (ps' ++ [((st, op, cs), .slice sa sn sc)])) := hid (by rw [HX.out]; exact hsn)
      have HB2 := hid hb2
      clear hsn hb2 hown2 hgrow hal2 hownZ x0 x1 x2
      go_roundw
      case rel => exact ⟨i + 1, gg, cq, _, by go_num, by omega, rfl, HSN2, HB2⟩
      case measure => simp [intOf]; omega
    · have d1 : (n : Int) ≤ (i : Int) := by omega
      have hin : i = n := by omega
      subst hin
      have HF : Hid (LX KT 101 w.heap.size wr.heap.size wr (.slice (some ⟨g5, 0, none⟩) i c5) xs ps') := hid (by have := HV.out; rw [← HN.out, List.take_length] at this; rw [← HN.out]; exact this)
      clear HV
      go_wp2_with fail
      go_ret
      exact ⟨_, ps', rfl, HF.out, ⟨g5, c5, rfl⟩, HBW.out⟩
set_option maxRecDepth 100000 in
set_option maxHeartbeats 1000000 in
theorem rwX_copied (id : Int) (fr : Int) (te : Int) (kd : Int) (ps : List (Int × Int)) (b cap : Nat) (w : World) (hm : ps.length ≤ 1099511627776) (hbs : b < w.heap.size) (h : Pts w (some ⟨b, 0, none⟩) ps) : Calls Tryz.prog 60 #[.agg #[.int .i64 id, .int .i64 fr, .int .i64 te, .int .i64 kd, .slice (some ⟨b, 0, none⟩) ps.length cap]] w fun e w' => ∃ sv lo up, e = .returned (.agg #[.int .i64 id, .int .i64 fr, .int .i64 te, .int .i64 kd, sv]) ∧ KR.sub lo up w' sv (id, fr, te, kd, ps) ∧ w.heap.size ≤ lo ∧ Below w.heap.size w w' := by
  have hB : Below w.heap.size w ((w.alloc (.cells #[.int .i64 id, .int .i64 fr, .int .i64 te, .int .i64 kd, .slice (some ⟨b, 0, none⟩) ps.length cap] 57)).alloc (.cells #[.int .i64 0, .int .i64 0, .int .i64 0, .int .i64 0, .slice none 0 0] 57)) := balloc (balloc (Below.refl _ _) _) _
  have HC := hid (impl_copyG kd b 0 cap ps _ hm (h.below hB) (Nat.lt_of_lt_of_le hbs hB.size))
  clear h
  have g0 := old_alloc (o' := .cells #[.int .i64 0, .int .i64 0, .int .i64 0, .int .i64 0, .slice none 0 0] 57) (new_alloc w w.heap.size (.cells #[.int .i64 id, .int .i64 fr, .int .i64 te, .int .i64 kd, .slice (some ⟨b, 0, none⟩) ps.length cap] 57) rfl)
  have g1 := new_alloc (w.alloc (.cells #[.int .i64 id, .int .i64 fr, .int .i64 te, .int .i64 kd, .slice (some ⟨b, 0, none⟩) ps.length cap] 57)) (w.heap.size + 1) (.cells #[.int .i64 0, .int .i64 0, .int .i64 0, .int .i64 0, .slice none 0 0] 57) (by simp)
  go_enter Tryz.func60, Tryz.ntmps60
  go_upto_region 1 with fail
  have hWz : ((w.alloc (.cells #[.int .i64 id, .int .i64 fr, .int .i64 te, .int .i64 kd, .slice (some ⟨b, 0, none⟩) ps.length cap] 57)).alloc (.cells #[.int .i64 0, .int .i64 0, .int .i64 0, .int .i64 0, .slice none 0 0] 57)).heap.size = w.heap.size + 2 := by simp
  generalize (w.alloc (.cells #[.int .i64 id, .int .i64 fr, .int .i64 te, .int .i64 kd, .slice (some ⟨b, 0, none⟩) ps.length cap] 57)).alloc (.cells #[.int .i64 0, .int .i64 0, .int .i64 0, .int .i64 0, .slice none 0 0] 57) = W at *
  obtain ⟨⟨x0, x1, x2, x3, x4⟩, _⟩ := cell5g g0
  go_wp2_with fail
  refine HC.out.mono ?_
  rintro e y ⟨g, cp, rfl, hcp, hgs, ho, hy⟩
  obtain ⟨sv, hsv⟩ : ∃ sv, sv = Value.slice (some ⟨g, 0, none⟩) ps.length cp := ⟨_, rfl⟩
  rw [← hsv]
  have hWs := lt_of_block g1
  replace g0 := keepheap2 hy g0
  replace g1 := keepheap2 hy g1
  have HB := hid (btrans hB hy)
  have hyz := hy.size
  have HO := hid ho
  clear hB hy ho HC x0 x1 x2 x3 x4
  obtain ⟨⟨x0, x1, x2, x3, x4⟩, y0, y1, y2, y3, y4⟩ := cell5g g0
  obtain ⟨⟨v0, v1, v2, v3, v4⟩, u0, u1, u2, u3, u4⟩ := cell5g g1
  rw [hsv]
  go_wp2_with fail
  rw [← hsv]
  have gF := set5 (set_far (q := w.heap.size) (k := 4) (u := sv) (set_far (q := w.heap.size) (k := 3) (u := .int .i64 kd) g1 (by omega)) (by omega)) (.int .i64 id) (.int .i64 fr) (.int .i64 te) (.int .i64 kd) (sv)
  have bF := (bset (bset (bset (bset (bset (bset (bset HB.out (q := w.heap.size) (k := 3) (Nat.le_refl _) (.int .i64 kd)) (q := w.heap.size) (k := 4) (Nat.le_refl _) (sv)) (q := w.heap.size + 1) (k := 0) (by omega) (.int .i64 id)) (q := w.heap.size + 1) (k := 1) (by omega) (.int .i64 fr)) (q := w.heap.size + 1) (k := 2) (by omega) (.int .i64 te)) (q := w.heap.size + 1) (k := 3) (by omega) (.int .i64 kd)) (q := w.heap.size + 1) (k := 4) (by omega) (sv))
  have oF := own_blk (w' := (((((((y.setCell ⟨w.heap.size, 3, none⟩ (.int .i64 kd)).setCell ⟨w.heap.size, 4, none⟩ (sv)).setCell ⟨w.heap.size + 1, 0, none⟩ (.int .i64 id)).setCell ⟨w.heap.size + 1, 1, none⟩ (.int .i64 fr)).setCell ⟨w.heap.size + 1, 2, none⟩ (.int .i64 te)).setCell ⟨w.heap.size + 1, 3, none⟩ (.int .i64 kd)).setCell ⟨w.heap.size + 1, 4, none⟩ (sv))) HO.out (by rw [Below.heap_setCell _ _ _ _ (by dsimp only; omega), Below.heap_setCell _ _ _ _ (by dsimp only; omega), Below.heap_setCell _ _ _ _ (by dsimp only; omega), Below.heap_setCell _ _ _ _ (by dsimp only; omega), Below.heap_setCell _ _ _ _ (by dsimp only; omega), Below.heap_setCell _ _ _ _ (by dsimp only; omega), Below.heap_setCell _ _ _ _ (by dsimp only; omega)]) (by simp only [World.size_setCell]; exact HO.out.1)
  have hwz : (((((((y.setCell ⟨w.heap.size, 3, none⟩ (.int .i64 kd)).setCell ⟨w.heap.size, 4, none⟩ (sv)).setCell ⟨w.heap.size + 1, 0, none⟩ (.int .i64 id)).setCell ⟨w.heap.size + 1, 1, none⟩ (.int .i64 fr)).setCell ⟨w.heap.size + 1, 2, none⟩ (.int .i64 te)).setCell ⟨w.heap.size + 1, 3, none⟩ (.int .i64 kd)).setCell ⟨w.heap.size + 1, 4, none⟩ (sv)).heap.size = y.heap.size := by simp only [World.size_setCell]
  generalize (((((((y.setCell ⟨w.heap.size, 3, none⟩ (.int .i64 kd)).setCell ⟨w.heap.size, 4, none⟩ (sv)).setCell ⟨w.heap.size + 1, 0, none⟩ (.int .i64 id)).setCell ⟨w.heap.size + 1, 1, none⟩ (.int .i64 fr)).setCell ⟨w.heap.size + 1, 2, none⟩ (.int .i64 te)).setCell ⟨w.heap.size + 1, 3, none⟩ (.int .i64 kd)).setCell ⟨w.heap.size + 1, 4, none⟩ (sv)) = wf at *
  obtain ⟨⟨z0, z1, z2, z3, z4⟩, _⟩ := cell5g gF
  exact bodyPost_ret (v := .agg #[.int .i64 id, .int .i64 fr, .int .i64 te, .int .i64 kd, sv]) (by simp [results, Tryz.results60, go_sem, z0, z1, z2, z3, z4]) rfl ⟨sv, g, g + 1, rfl, ⟨by have := HO.out.1; omega, g, cp, hsv, hcp, hm, Nat.le_refl _, by omega, oF⟩, by omega, bF⟩
set_option maxRecDepth 100000 in
set_option maxHeartbeats 1000000 in
theorem rwX_clo (id : Int) (fr : Int) (te : Int) (kd : Int) (ps : List (Int × Int)) (b cap : Nat) (w : World) (hm : ps.length ≤ 1099511627776) (hbs : b < w.heap.size) (h : Pts w (some ⟨b, 0, none⟩) ps) : Calls Tryz.prog 59 #[.agg #[.int .i64 id, .int .i64 fr, .int .i64 te, .int .i64 kd, .slice (some ⟨b, 0, none⟩) ps.length cap]] w fun e w' => ∃ sv lo up, e = .returned (.tuple #[.agg #[.int .i64 id, .int .i64 fr, .int .i64 te, .int .i64 kd, sv], .bool true]) ∧ KR.sub lo up w' sv (id, fr, te, kd, ps) ∧ w.heap.size ≤ lo ∧ Below w.heap.size w w' := by
  have hB : Below w.heap.size w ((w.alloc (.cells #[.int .i64 id, .int .i64 fr, .int .i64 te, .int .i64 kd, .slice (some ⟨b, 0, none⟩) ps.length cap] 57)).alloc (.cells #[.int .i64 0, .int .i64 0, .int .i64 0, .int .i64 0, .slice none 0 0] 57)) := balloc (balloc (Below.refl _ _) _) _
  have HC := hid (rwX_copied id fr te kd ps b cap _ hm (Nat.lt_of_lt_of_le hbs hB.size) (h.below hB))
  clear h
  have g0 := old_alloc (o' := .cells #[.int .i64 0, .int .i64 0, .int .i64 0, .int .i64 0, .slice none 0 0] 57) (new_alloc w w.heap.size (.cells #[.int .i64 id, .int .i64 fr, .int .i64 te, .int .i64 kd, .slice (some ⟨b, 0, none⟩) ps.length cap] 57) rfl)
  have g1 := new_alloc (w.alloc (.cells #[.int .i64 id, .int .i64 fr, .int .i64 te, .int .i64 kd, .slice (some ⟨b, 0, none⟩) ps.length cap] 57)) (w.heap.size + 1) (.cells #[.int .i64 0, .int .i64 0, .int .i64 0, .int .i64 0, .slice none 0 0] 57) (by simp)
  go_enter Tryz.func59, Tryz.ntmps59
  go_upto_region 1 with fail
  have hWz : ((w.alloc (.cells #[.int .i64 id, .int .i64 fr, .int .i64 te, .int .i64 kd, .slice (some ⟨b, 0, none⟩) ps.length cap] 57)).alloc (.cells #[.int .i64 0, .int .i64 0, .int .i64 0, .int .i64 0, .slice none 0 0] 57)).heap.size = w.heap.size + 2 := by simp
  generalize (w.alloc (.cells #[.int .i64 id, .int .i64 fr, .int .i64 te, .int .i64 kd, .slice (some ⟨b, 0, none⟩) ps.length cap] 57)).alloc (.cells #[.int .i64 0, .int .i64 0, .int .i64 0, .int .i64 0, .slice none 0 0] 57) = W at *
  obtain ⟨⟨x0, x1, x2, x3, x4⟩, _⟩ := cell5g g0
  go_wp2_with fail
  refine HC.out.mono ?_
  rintro e y ⟨sv, lo, up, rfl, hsub, hlo, hy⟩
  have hyz := hy.size
  replace g1 := keepheap2 hy g1
  have HB := hid (btrans hB hy)
  have HO := hid hsub
  have hone := KR.one hsub sv (by simp [KR])
  clear hB hy hsub HC g0 x0 x1 x2 x3 x4
  obtain ⟨⟨v0, v1, v2, v3, v4⟩, u0, u1, u2, u3, u4⟩ := cell5g g1
  obtain ⟨sa, sn, sc, hsv⟩ : ∃ a n c, sv = .slice a n c := by obtain ⟨_, c, cp, e, _⟩ := HO.out; exact ⟨_, _, _, e⟩
  have HSV := hid hsv.symm
  subst hsv
  go_wp2_with fail
  have gF := set5 g1 (.int .i64 id) (.int .i64 fr) (.int .i64 te) (.int .i64 kd) (.slice sa sn sc)
  have bF := (bset (bset (bset (bset (bset HB.out (q := w.heap.size + 1) (k := 0) (by omega) (.int .i64 id)) (q := w.heap.size + 1) (k := 1) (by omega) (.int .i64 fr)) (q := w.heap.size + 1) (k := 2) (by omega) (.int .i64 te)) (q := w.heap.size + 1) (k := 3) (by omega) (.int .i64 kd)) (q := w.heap.size + 1) (k := 4) (by omega) (.slice sa sn sc))
  have oF := KR.frame (w' := (((((y.setCell ⟨w.heap.size + 1, 0, none⟩ (.int .i64 id)).setCell ⟨w.heap.size + 1, 1, none⟩ (.int .i64 fr)).setCell ⟨w.heap.size + 1, 2, none⟩ (.int .i64 te)).setCell ⟨w.heap.size + 1, 3, none⟩ (.int .i64 kd)).setCell ⟨w.heap.size + 1, 4, none⟩ (.slice sa sn sc))) HO.out (fun c c1 c2 => by rw [Below.heap_setCell _ _ _ _ (by dsimp only; omega), Below.heap_setCell _ _ _ _ (by dsimp only; omega), Below.heap_setCell _ _ _ _ (by dsimp only; omega), Below.heap_setCell _ _ _ _ (by dsimp only; omega), Below.heap_setCell _ _ _ _ (by dsimp only; omega)]) (by simp only [World.size_setCell]; omega)
  generalize (((((y.setCell ⟨w.heap.size + 1, 0, none⟩ (.int .i64 id)).setCell ⟨w.heap.size + 1, 1, none⟩ (.int .i64 fr)).setCell ⟨w.heap.size + 1, 2, none⟩ (.int .i64 te)).setCell ⟨w.heap.size + 1, 3, none⟩ (.int .i64 kd)).setCell ⟨w.heap.size + 1, 4, none⟩ (.slice sa sn sc)) = wf at *
  obtain ⟨⟨z0, z1, z2, z3, z4⟩, _⟩ := cell5g gF
  exact bodyPost_ret (v := .tuple #[.agg #[.int .i64 id, .int .i64 fr, .int .i64 te, .int .i64 kd, .slice sa sn sc], .bool true]) (by simp [results, Tryz.results59, go_sem, z0, z1, z2, z3, z4]) rfl ⟨_, lo, up, rfl, oF, by omega, bF⟩
theorem make_rwX0 (n : Nat) (hn : n ≤ 1099511627776) (w : World) : (Instr.makeSlice 26 (.int .i64 0) (.int .i64 n)).run Tryz.prog w = .ok (.slice (some ⟨w.heap.size, 0, none⟩) 0 n) (w.alloc (.cells (madeCells #[.int .i64 0, .int .i64 0, .int .i64 0, .int .i64 0, .slice none 0 0] (n * 5)) 57)) := by
  obtain ⟨i0, hi, hz0, hz1, hz2⟩ := info_parts Tryz.infoRow
  have := run_make (P := Tryz.prog) w 26 57 i0 _ Tryz.underlying26 hi hz0 .i64 .i64 0 n (by omega) (by omega) (by rw [hz2]; omega) (by omega)
  rw [hz1] at this
  exact this
set_option maxRecDepth 100000 in
set_option maxHeartbeats 2000000 in
theorem kept_rw (B cap : Nat) (xs : List Rw) (w : World) (hm : xs.length ≤ 1099511627776) (h : RwsZ w B xs) : Calls Tryz.prog 58 #[.slice (some ⟨B, 0, none⟩) xs.length cap, .func (.func 59) #[] #[]] w fun e w' => ∃ v ps, e = .returned v ∧ LX KR 57 w.heap.size w'.heap.size w' v xs ps ∧ (∃ g c, v = .slice (some ⟨g, 0, none⟩) xs.length c) ∧ Below w.heap.size w w' := by
  obtain ⟨i0, hi0, hz0, hz1, hz2⟩ := info_parts Tryz.infoRow
  have HR := hid h
  clear h
  have hmk := make_rwX0 xs.length hm
  obtain ⟨n, hn⟩ : ∃ n, n = xs.length := ⟨_, rfl⟩
  have HN := hid hn.symm
  rw [← hn] at hm hmk ⊢
  clear hn
  have hB0 : Below w.heap.size w (w.alloc (.cells (madeCells #[.int .i64 0, .int .i64 0, .int .i64 0, .int .i64 0, .slice none 0 0] (n * 5)) 57)) := balloc (Below.refl _ _) _
  have HI : Hid (LX KR 57 w.heap.size (w.alloc (.cells (madeCells #[.int .i64 0, .int .i64 0, .int .i64 0, .int .i64 0, .slice none 0 0] (n * 5)) 57)).heap.size (w.alloc (.cells (madeCells #[.int .i64 0, .int .i64 0, .int .i64 0, .int .i64 0, .slice none 0 0] (n * 5)) 57)) (.slice (some ⟨w.heap.size, 0, none⟩) 0 n) [] []) := hid (by
    have := World.ownsRow_made (base := w.heap.size) (e := 57) (size := 5) w (madeCells #[.int .i64 0, .int .i64 0, .int .i64 0, .int .i64 0, .slice none 0 0] (n * 5)) n (Nat.le_refl _) (by unfold maxLen; omega) (size_madeCells _ _)
    exact LX.nil this (fun g e => by simp [Value.ownBlock] at e; subst e; simp) (Nat.le_refl _))
  go_enter Tryz.func58, Tryz.ntmps58
  go_upto_region 2 with fail
  generalize w.alloc (.cells (madeCells #[.int .i64 0, .int .i64 0, .int .i64 0, .int .i64 0, .slice none 0 0] (n * 5)) 57) = W0 at *
  clear hmk
  go_wp2_with fail
  go_loopw [5, 15] (fun tv ti wr => ∃ i : Nat, ∃ g5 c5 : Nat, ∃ ps' : List (Rw × Value), ti = .int .i64 i ∧ i ≤ n ∧ tv = .slice (some ⟨g5, 0, none⟩) i c5 ∧ Hid (LX KR 57 w.heap.size wr.heap.size wr (.slice (some ⟨g5, 0, none⟩) i c5) (xs.take i) ps') ∧ Hid (Below w.heap.size w wr)) (fun _ ti _ => n - (intOf ti).toNat)
  case atStart => exact ⟨0, w.heap.size, n, [], rfl, Nat.zero_le _, rfl, HI, hid hB0⟩
  case round =>
    clear HI hB0
    obtain ⟨i, g5, c5, ps', rfl, hi, rfl, HV, HBW⟩ := hrel
    have hwX := HBW.out.size
    by_cases hlt : i < n
    · have d1 : (i : Int) < (n : Int) := by omega
      have hir : i < xs.length := by rw [HN.out]; exact hlt
      obtain ⟨ci, cpi, k9, ⟨k0, k1, k2, k3, k4⟩, k6, k7⟩ := (HR.out.below HBW.out).2 i hir
      have HX : Hid (xs.take (i + 1) = xs.take i ++ [xs[i]]) := hid (by rw [List.take_add_one, List.getElem?_eq_getElem hir]; rfl)
      have hil : (xs.take i).length = i := by rw [List.length_take]; omega
      obtain ⟨r, hr⟩ : ∃ r, r = xs[i] := ⟨_, rfl⟩
      rw [← hr] at k0 k1 k2 k3 k4 k6 k7 HX
      clear hr
      obtain ⟨id, fr, te, kd, ps⟩ := r
      simp only at k0 k1 k2 k3 k4 k6 k7
      have hbx : Below wr.heap.size wr (wr.alloc (.cells #[.int .i64 id, .int .i64 fr, .int .i64 te, .int .i64 kd, .slice (some ⟨ci, 0, none⟩) ps.length cpi] 57)) := balloc (Below.refl _ _) _
      have HT1 := hid (rwX_clo id fr te kd ps ci cpi _ k6 (Nat.lt_of_lt_of_le k9 hbx.size) (k7.below hbx))
      clear k7
      go_upto_region 5 with fail
      have gx := new_alloc wr wr.heap.size (.cells #[.int .i64 id, .int .i64 fr, .int .i64 te, .int .i64 kd, .slice (some ⟨ci, 0, none⟩) ps.length cpi] 57) rfl
      have HI1 := hid (HV.out.below hbx)
      have HB1 := hid (btrans HBW.out hbx)
      have hs1 := hbx.size
      have hs2 : wr.heap.size < (wr.alloc (.cells #[.int .i64 id, .int .i64 fr, .int .i64 te, .int .i64 kd, .slice (some ⟨ci, 0, none⟩) ps.length cpi] 57)).heap.size := by simp
      clear k0 k1 k2 k3 k4 hbx HV
      generalize wr.alloc (.cells #[.int .i64 id, .int .i64 fr, .int .i64 te, .int .i64 kd, .slice (some ⟨ci, 0, none⟩) ps.length cpi] 57) = W1 at *
      generalize wr.heap.size = Xh at *
      obtain ⟨⟨x0, x1, x2, x3, x4⟩, _⟩ := cell5g gx
      clear gx
      go_wp2_with fail
      refine HT1.out.mono ?_
      rintro e z ⟨sv, lo, up, rfl, hsub, hlo, hz⟩
      have HBz := hid (btrans HB1.out hz)
      have HIz := hid (HI1.out.below hz)
      have HO := hid hsub
      have hzs := hz.size
      have hwz := HBz.out.size
      obtain ⟨sa, sn, sc, hsv⟩ : ∃ a n c, sv = .slice a n c := by obtain ⟨_, c, cp, e, _⟩ := HO.out; exact ⟨_, _, _, e⟩
      clear hz hsub x0 x1 x2 x3 x4 HT1 HI1 HB1
      subst hsv
      go_upto_region 7 with fail
      have hal : Below z.heap.size z (z.alloc (.cells #[.int .i64 id, .int .i64 fr, .int .i64 te, .int .i64 kd, .slice sa sn sc] 57)) := balloc (Below.refl _ _) _
      have gy := new_alloc z z.heap.size (.cells #[.int .i64 id, .int .i64 fr, .int .i64 te, .int .i64 kd, .slice sa sn sc] 57) rfl
      have HIa := hid (HIz.out.below hal)
      have HBa := hid (btrans HBz.out hal)
      have HOa := hid (KR.frame HO.out (fun c _ h2 => hal.block c (by have := KR.top HO.out; omega)) hal.size)
      have has : z.heap.size < (z.alloc (.cells #[.int .i64 id, .int .i64 fr, .int .i64 te, .int .i64 kd, .slice sa sn sc] 57)).heap.size := by simp
      clear hal HO HIz HBz
      generalize z.alloc (.cells #[.int .i64 id, .int .i64 fr, .int .i64 te, .int .i64 kd, .slice sa sn sc] 57) = Z at *
      obtain ⟨⟨x0, x1, x2, x3, x4⟩, _⟩ := cell5g gy
      clear gy
      have hownZ : Z.ownsRow w.heap.size 57 5 (.slice (some ⟨g5, 0, none⟩) i c5) i (flatK KR ps') := by have := HIa.out.2.1; rw [hil] at this; exact this
      go_wp2_with (at_builtin; (refine wpList_append_lies _ rfl (.tmp 26) (.tmp 28) 26 rfl w.heap.size 57 i0 _ 5 56 Tryz.underlying26 hi0 hz0 hz1 hz2 rfl (by decide) (.slice (some ⟨g5, 0, none⟩) i c5) i (flatK KR ps') rfl (hownZ.alloc _) ⟨Z.heap.size, 0, none⟩ 1 1 [.int .i64 id, .int .i64 fr, .int .i64 te, .int .i64 kd, .slice sa sn sc] rfl rfl (World.news_of_block (cs := #[.int .i64 id, .int .i64 fr, .int .i64 te, .int .i64 kd, .slice sa sn sc]) (t := 57) (fr := (0, 0)) (heap_alloc_new Z _)) (by simp [Value.oneCell']) (by omega) (by unfold maxLen; omega) (by omega) (by simp; omega) (Z.heap.size + 1) (by simp) ?_; intro gg cq w2 hown2 hgrow hat hlt2))
      have hal2 : Below Z.heap.size Z (Z.alloc (.cells #[.int .i64 id, .int .i64 fr, .int .i64 te, .int .i64 kd, .slice sa sn sc] 57)) := balloc (Below.refl _ _) _
      have hsn := LX.snoc (x := (id, fr, te, kd, ps)) (sv := .slice sa sn sc) (l := lo) (u := up) (g := gg) (cap := cq) (HIa.out.below hal2) (by omega) (by omega) (KR.frame HOa.out (fun c _ h2 => hal2.block c (by have := KR.top HOa.out; omega)) hal2.size) (by rw [hil]; exact hown2) hgrow (by simpa using hat) hlt2
      rw [hil] at hsn
      have hb2 : Below w.heap.size w w2 := Below.grown (balloc HBa.out _) hgrow (by simp; omega) (fun k e => (hownZ.lt k e).1)
      have HSN2 : Hid (LX KR 57 w.heap.size w2.heap.size w2 (.slice (some ⟨gg, 0, none⟩) (i + 1) cq) (xs.take (i + 1)) (ps' ++ [((id, fr, te, kd, ps), .slice sa sn sc)])) := hid (by rw [HX.out]; exact hsn)
      have HB2 := hid hb2
      clear hsn hb2 hown2 hgrow hal2 hownZ x0 x1 x2 x3 x4
      go_roundw
      case rel => exact ⟨i + 1, gg, cq, _, by go_num, by omega, rfl, HSN2, HB2⟩
      case measure => simp [intOf]; omega
    · have d1 : (n : Int) ≤ (i : Int) := by omega
      have hin : i = n := by omega
      subst hin
      have HF : Hid (LX KR 57 w.heap.size wr.heap.size wr (.slice (some ⟨g5, 0, none⟩) i c5) xs ps') := hid (by have := HV.out; rw [← HN.out, List.take_length] at this; rw [← HN.out]; exact this)
      clear HV
      go_wp2_with fail
      go_ret
      exact ⟨_, ps', rfl, HF.out, ⟨g5, c5, rfl⟩, HBW.out⟩
end Go.Proofs.YtjhnfbefgjoiiaaGreat
namespace Go.Proofs.YtjhnfbefgjoiiaaGreat
open Go.RowKit
set_option linter.unusedSimpArgs false
set_option linter.unusedVariables false
set_option maxRecDepth 100000 in
set_option maxHeartbeats 2000000 in
theorem mark_rowSX (base hi g cap : Nat) (rs : List Rw) (c cp : Nat → Nat) (w : World) (hbg : base ≤ g) (hgh : g < hi) (hih : hi ≤ w.heap.size) (hm : rs.length ≤ 1048576) (hl : ∀ m (h : m < rs.length), rs[m].2.2.2.2.length ≤ 1048576) (ht : w.there g 0 (rs.length * 5)) (hr : ∀ j (h : j < rs.length), RowC w g (j * 5) rs[j] (c j) (cp j)) (hc : ∀ j, j < rs.length → base ≤ c j ∧ c j < hi ∧ c j ≠ g) (hd : ∀ i j, i < j → j < rs.length → c i ≠ c j) : Calls Tryz.prog 33 #[.slice (some ⟨g, 0, none⟩) rs.length cap, .int .i64 1] w fun e w' => e = .returned (.int .i64 (kk rs rs.length)) ∧ (∀ j (h : j < (mrk rs).length), RowC w' g (j * 5) (mrk rs)[j] (c j) (cp j)) ∧ Mid base hi w w' := by
  have HL := hid hl
  have HR := hid hr
  have HC := hid hc
  have HD : Hid (∀ i j, i ≠ j → i < rs.length → j < rs.length → c i ≠ c j) := hid (fun i j hne hi' hj' => by
    rcases Nat.lt_or_gt_of_ne hne with h | h
    · exact hd i j h hj'
    · exact fun e => hd j i h hi' e.symm)
  have HK := hid (kk_bound hl)
  clear hl hr hc hd
  obtain ⟨n, hn⟩ : ∃ n, n = rs.length := ⟨_, rfl⟩
  have HN := hid hn.symm
  rw [← hn] at hm ht ⊢
  clear hn
  have HTT := hid ht
  clear ht
  have HF : Hid (∀ (W : World) (q : Int), q = kk rs n → (∀ i (h : i < rs.length), i < n → ∀ (h' : i < (mrk rs).length), RowC W g (i * 5) (mrk rs)[i] (c i) (cp i)) → (Ending.returned (.int .i64 q) = .returned (.int .i64 (kk rs n)) ∧ ∀ j (h : j < (mrk rs).length), RowC W g (j * 5) (mrk rs)[j] (c j) (cp j))) := hid (fun W q hq h => ⟨by rw [hq], fun j hj => by
    have hj' := hj
    rw [mrk_len] at hj'
    exact h j hj' (by rw [HN.out] at hj'; exact hj') hj⟩)
  have hmid0 := mid_refl base hi w
  go_enter Tryz.func33, Tryz.ntmps33
  go_wp2_with fail
  go_loopw [1, 5] (fun tk' ti wr => ∃ j : Nat, ∃ k : Int, ti = .int .i64 j ∧ tk' = .int .i64 k ∧ j ≤ n ∧ Hid (k = kk rs j) ∧ Hid (Mid base hi w wr) ∧ Hid (wr.there g 0 (n * 5)) ∧ Hid (∀ i (h : i < rs.length), i < j → ∀ (h' : i < (mrk rs).length), RowC wr g (i * 5) (mrk rs)[i] (c i) (cp i)) ∧ Hid (∀ i (h : i < rs.length), j ≤ i → RowC wr g (i * 5) rs[i] (c i) (cp i))) (fun _ ti _ => n - (intOf ti).toNat)
  case atStart => exact ⟨0, 1, rfl, rfl, Nat.zero_le _, hid (by simp [kk]), hid hmid0, HTT, hid (fun i h hh => absurd hh (by omega)), hid (fun i h _ => HR.out i h)⟩
  case round =>
    clear hmid0
    obtain ⟨j, k, rfl, rfl, hj, HKJ, HM, HT, HA, HZ⟩ := hrel
    by_cases hlt : j < n
    · have c1 : (j : Int) < (n : Int) := by omega
      have hjr : j < rs.length := by rw [HN.out]; exact hlt
      obtain ⟨hk0, hk1⟩ := HK.out j (by omega)
      rw [← HKJ.out] at hk0 hk1
      have hk2 : k ≤ 2199027449858 := by omega
      have HKN := hid (kk_next hjr)
      rw [← HKJ.out] at HKN
      have HMA := hid (mrk_at hjr)
      rw [← HKJ.out] at HMA
      obtain ⟨_, _, _, _, q4, q5⟩ := HZ.out j hjr (Nat.le_refl _)
      obtain ⟨hcb, hch, hcg⟩ := HC.out j hjr
      have hnp := HL.out j hjr
      have HDJ : Hid (∀ i, i < rs.length → i ≠ j → c j ≠ c i) := hid (fun i hi' hne => fun e => HD.out i j hne hi' hjr e.symm)
      generalize hps : rs[j].2.2.2.2 = ps at *
      clear hps
      obtain ⟨u0, z0, y0⟩ := there_at HT.out (show j * 5 < n * 5 by omega)
      obtain ⟨u1, z1, y1⟩ := there_at HT.out (show j * 5 + 1 < n * 5 by omega)
      obtain ⟨u2, z2, y2⟩ := there_at HT.out (show j * 5 + 2 < n * 5 by omega)
      obtain ⟨u3, z3, y3⟩ := there_at HT.out (show j * 5 + 3 < n * 5 by omega)
      have z1' : (wr.setCell ⟨g, j * 5, none⟩ (.int .i64 k)).cell? ⟨g, j * 5 + 1, none⟩ = some u1 := by rw [World.cell?_setCell_other _ _ _ _ (by simp)]; exact z1
      have z2' : ((wr.setCell ⟨g, j * 5, none⟩ (.int .i64 k)).setCell ⟨g, j * 5 + 1, none⟩ (.int .i64 (k + 1))).cell? ⟨g, j * 5 + 2, none⟩ = some u2 := by rw [World.cell?_setCell_other _ _ _ _ (by simp), World.cell?_setCell_other _ _ _ _ (by simp)]; exact z2
      have z3' : (((wr.setCell ⟨g, j * 5, none⟩ (.int .i64 k)).setCell ⟨g, j * 5 + 1, none⟩ (.int .i64 (k + 1))).setCell ⟨g, j * 5 + 2, none⟩ (.int .i64 (k + 1 + 1))).cell? ⟨g, j * 5 + 3, none⟩ = some u3 := by rw [World.cell?_setCell_other _ _ _ _ (by simp), World.cell?_setCell_other _ _ _ _ (by simp), World.cell?_setCell_other _ _ _ _ (by simp)]; exact z3
      have z4' : ((((wr.setCell ⟨g, j * 5, none⟩ (.int .i64 k)).setCell ⟨g, j * 5 + 1, none⟩ (.int .i64 (k + 1))).setCell ⟨g, j * 5 + 2, none⟩ (.int .i64 (k + 1 + 1))).setCell ⟨g, j * 5 + 3, none⟩ (.int .i64 (k + 1 + 1 + 1))).cell? ⟨g, j * 5 + 4, none⟩ = some (.slice (some ⟨c j, 0, none⟩) ps.length (cp j)) := by rw [World.cell?_setCell_other _ _ _ _ (by simp), World.cell?_setCell_other _ _ _ _ (by simp), World.cell?_setCell_other _ _ _ _ (by simp), World.cell?_setCell_other _ _ _ _ (by simp)]; exact q4
      have x0 : ((((wr.setCell ⟨g, j * 5, none⟩ (.int .i64 k)).setCell ⟨g, j * 5 + 1, none⟩ (.int .i64 (k + 1))).setCell ⟨g, j * 5 + 2, none⟩ (.int .i64 (k + 1 + 1))).setCell ⟨g, j * 5 + 3, none⟩ (.int .i64 (k + 1 + 1 + 1))).cell? ⟨g, j * 5, none⟩ = some (.int .i64 k) := by rw [World.cell?_setCell_other _ _ _ _ (by simp), World.cell?_setCell_other _ _ _ _ (by simp), World.cell?_setCell_other _ _ _ _ (by simp)]; exact World.cell?_setCell_same _ _ _ z0
      have x1 : ((((wr.setCell ⟨g, j * 5, none⟩ (.int .i64 k)).setCell ⟨g, j * 5 + 1, none⟩ (.int .i64 (k + 1))).setCell ⟨g, j * 5 + 2, none⟩ (.int .i64 (k + 1 + 1))).setCell ⟨g, j * 5 + 3, none⟩ (.int .i64 (k + 1 + 1 + 1))).cell? ⟨g, j * 5 + 1, none⟩ = some (.int .i64 (k + 1)) := by rw [World.cell?_setCell_other _ _ _ _ (by simp), World.cell?_setCell_other _ _ _ _ (by simp)]; exact World.cell?_setCell_same _ _ _ z1'
      have x2 : ((((wr.setCell ⟨g, j * 5, none⟩ (.int .i64 k)).setCell ⟨g, j * 5 + 1, none⟩ (.int .i64 (k + 1))).setCell ⟨g, j * 5 + 2, none⟩ (.int .i64 (k + 1 + 1))).setCell ⟨g, j * 5 + 3, none⟩ (.int .i64 (k + 1 + 1 + 1))).cell? ⟨g, j * 5 + 2, none⟩ = some (.int .i64 (k + 2)) := by rw [World.cell?_setCell_other _ _ _ _ (by simp)]; rw [show k + 2 = k + 1 + 1 by omega]; exact World.cell?_setCell_same _ _ _ z2'
      have x3 : ((((wr.setCell ⟨g, j * 5, none⟩ (.int .i64 k)).setCell ⟨g, j * 5 + 1, none⟩ (.int .i64 (k + 1))).setCell ⟨g, j * 5 + 2, none⟩ (.int .i64 (k + 1 + 1))).setCell ⟨g, j * 5 + 3, none⟩ (.int .i64 (k + 1 + 1 + 1))).cell? ⟨g, j * 5 + 3, none⟩ = some (.int .i64 (k + 3)) := by rw [show k + 3 = k + 1 + 1 + 1 by omega]; exact World.cell?_setCell_same _ _ _ z3'
      have y1' : (wr.setCell ⟨g, j * 5, none⟩ (.int .i64 k)).frozen? ⟨g, j * 5 + 1, none⟩ = false := by rw [World.frozen?_setCell]; exact y1
      have y2' : ((wr.setCell ⟨g, j * 5, none⟩ (.int .i64 k)).setCell ⟨g, j * 5 + 1, none⟩ (.int .i64 (k + 1))).frozen? ⟨g, j * 5 + 2, none⟩ = false := by rw [World.frozen?_setCell, World.frozen?_setCell]; exact y2
      have y3' : (((wr.setCell ⟨g, j * 5, none⟩ (.int .i64 k)).setCell ⟨g, j * 5 + 1, none⟩ (.int .i64 (k + 1))).setCell ⟨g, j * 5 + 2, none⟩ (.int .i64 (k + 1 + 1))).frozen? ⟨g, j * 5 + 3, none⟩ = false := by rw [World.frozen?_setCell, World.frozen?_setCell, World.frozen?_setCell]; exact y3
      have p4 : PtsOwn ((((wr.setCell ⟨g, j * 5, none⟩ (.int .i64 k)).setCell ⟨g, j * 5 + 1, none⟩ (.int .i64 (k + 1))).setCell ⟨g, j * 5 + 2, none⟩ (.int .i64 (k + 1 + 1))).setCell ⟨g, j * 5 + 3, none⟩ (.int .i64 (k + 1 + 1 + 1))) (c j) ps := own_blk q5 (by rw [Below.heap_setCell _ _ _ _ (by dsimp only; omega), Below.heap_setCell _ _ _ _ (by dsimp only; omega), Below.heap_setCell _ _ _ _ (by dsimp only; omega), Below.heap_setCell _ _ _ _ (by dsimp only; omega)]) (by simp only [World.size_setCell]; exact q5.1)
      have MP := hid (mark_ptsK _ (c j) ps.length (cp j) ps (k + 1 + 1 + 1 + 1) (by omega) (by omega) hnp rfl p4)
      have HM4 := hid (show Mid base hi w ((((wr.setCell ⟨g, j * 5, none⟩ (.int .i64 k)).setCell ⟨g, j * 5 + 1, none⟩ (.int .i64 (k + 1))).setCell ⟨g, j * 5 + 2, none⟩ (.int .i64 (k + 1 + 1))).setCell ⟨g, j * 5 + 3, none⟩ (.int .i64 (k + 1 + 1 + 1))) from mid_set (mid_set (mid_set (mid_set HM.out hbg hgh _) hbg hgh _) hbg hgh _) hbg hgh _)
      have HT4 := hid (show ((((wr.setCell ⟨g, j * 5, none⟩ (.int .i64 k)).setCell ⟨g, j * 5 + 1, none⟩ (.int .i64 (k + 1))).setCell ⟨g, j * 5 + 2, none⟩ (.int .i64 (k + 1 + 1))).setCell ⟨g, j * 5 + 3, none⟩ (.int .i64 (k + 1 + 1 + 1))).there g 0 (n * 5) from there_set (there_set (there_set (there_set HT.out _) _) _) _)
      have HA4 : Hid (∀ i (h : i < rs.length), i < j → ∀ (h' : i < (mrk rs).length), RowC ((((wr.setCell ⟨g, j * 5, none⟩ (.int .i64 k)).setCell ⟨g, j * 5 + 1, none⟩ (.int .i64 (k + 1))).setCell ⟨g, j * 5 + 2, none⟩ (.int .i64 (k + 1 + 1))).setCell ⟨g, j * 5 + 3, none⟩ (.int .i64 (k + 1 + 1 + 1))) g (i * 5) (mrk rs)[i] (c i) (cp i)) := hid (fun i h h1 h' => ((((HA.out i h h1 h').setg (fun e => (HC.out i h).2.2 e.symm) (by omega) _).setg (fun e => (HC.out i h).2.2 e.symm) (by omega) _).setg (fun e => (HC.out i h).2.2 e.symm) (by omega) _).setg (fun e => (HC.out i h).2.2 e.symm) (by omega) _)
      have HZ4 : Hid (∀ i (h : i < rs.length), j + 1 ≤ i → RowC ((((wr.setCell ⟨g, j * 5, none⟩ (.int .i64 k)).setCell ⟨g, j * 5 + 1, none⟩ (.int .i64 (k + 1))).setCell ⟨g, j * 5 + 2, none⟩ (.int .i64 (k + 1 + 1))).setCell ⟨g, j * 5 + 3, none⟩ (.int .i64 (k + 1 + 1 + 1))) g (i * 5) rs[i] (c i) (cp i)) := hid (fun i h h1 => ((((HZ.out i h (by omega)).setg (fun e => (HC.out i h).2.2 e.symm) (by omega) _).setg (fun e => (HC.out i h).2.2 e.symm) (by omega) _).setg (fun e => (HC.out i h).2.2 e.symm) (by omega) _).setg (fun e => (HC.out i h).2.2 e.symm) (by omega) _)
      have HX : Hid (((((wr.setCell ⟨g, j * 5, none⟩ (.int .i64 k)).setCell ⟨g, j * 5 + 1, none⟩ (.int .i64 (k + 1))).setCell ⟨g, j * 5 + 2, none⟩ (.int .i64 (k + 1 + 1))).setCell ⟨g, j * 5 + 3, none⟩ (.int .i64 (k + 1 + 1 + 1))).cell? ⟨g, j * 5, none⟩ = some (.int .i64 k) ∧ ((((wr.setCell ⟨g, j * 5, none⟩ (.int .i64 k)).setCell ⟨g, j * 5 + 1, none⟩ (.int .i64 (k + 1))).setCell ⟨g, j * 5 + 2, none⟩ (.int .i64 (k + 1 + 1))).setCell ⟨g, j * 5 + 3, none⟩ (.int .i64 (k + 1 + 1 + 1))).cell? ⟨g, j * 5 + 1, none⟩ = some (.int .i64 (k + 1)) ∧ ((((wr.setCell ⟨g, j * 5, none⟩ (.int .i64 k)).setCell ⟨g, j * 5 + 1, none⟩ (.int .i64 (k + 1))).setCell ⟨g, j * 5 + 2, none⟩ (.int .i64 (k + 1 + 1))).setCell ⟨g, j * 5 + 3, none⟩ (.int .i64 (k + 1 + 1 + 1))).cell? ⟨g, j * 5 + 2, none⟩ = some (.int .i64 (k + 2)) ∧ ((((wr.setCell ⟨g, j * 5, none⟩ (.int .i64 k)).setCell ⟨g, j * 5 + 1, none⟩ (.int .i64 (k + 1))).setCell ⟨g, j * 5 + 2, none⟩ (.int .i64 (k + 1 + 1))).setCell ⟨g, j * 5 + 3, none⟩ (.int .i64 (k + 1 + 1 + 1))).cell? ⟨g, j * 5 + 3, none⟩ = some (.int .i64 (k + 3)) ∧ ((((wr.setCell ⟨g, j * 5, none⟩ (.int .i64 k)).setCell ⟨g, j * 5 + 1, none⟩ (.int .i64 (k + 1))).setCell ⟨g, j * 5 + 2, none⟩ (.int .i64 (k + 1 + 1))).setCell ⟨g, j * 5 + 3, none⟩ (.int .i64 (k + 1 + 1 + 1))).cell? ⟨g, j * 5 + 4, none⟩ = some (.slice (some ⟨c j, 0, none⟩) ps.length (cp j))) := hid ⟨x0, x1, x2, x3, z4'⟩
      clear x0 x1 x2 x3 p4 q4 q5 z1 z2 z3 y1 y2 y3 HM HT HA HZ
      go_wp2_with fail
      refine MP.out.mono ?_
      rintro e w1 ⟨rfl, hp1, hg⟩
      have hgne : some g ≠ some (c j) := fun e => hcg (by cases e; rfl)
      have HM5 := hid (mid_grown HM4.out hg hcb hch)
      have HT5 : Hid (w1.there g 0 (n * 5)) := hid (fun i hi' => by
        obtain ⟨s1, s2⟩ := HT4.out i hi'
        have hgs : g < ((((wr.setCell ⟨g, j * 5, none⟩ (.int .i64 k)).setCell ⟨g, j * 5 + 1, none⟩ (.int .i64 (k + 1))).setCell ⟨g, j * 5 + 2, none⟩ (.int .i64 (k + 1 + 1))).setCell ⟨g, j * 5 + 3, none⟩ (.int .i64 (k + 1 + 1 + 1))).heap.size := by have := HM4.out.2.2.2.1; omega
        have hb := hg.block g hgs hgne
        simp only [World.cell?, World.frozen?, hb]; exact ⟨s1, s2⟩)
      have HA5 : Hid (∀ i (h : i < rs.length), i < j + 1 → ∀ (h' : i < (mrk rs).length), RowC w1 g (i * 5) (mrk rs)[i] (c i) (cp i)) := hid (fun i h h1 h' => by
        by_cases e : i = j
        · subst e
          rw [HMA.out]
          obtain ⟨s0, s1, s2, s3, s4⟩ := HX.out
          refine ⟨hg.cell s0 hgne, hg.cell s1 hgne, hg.cell s2 hgne, hg.cell s3 hgne, ?_, ?_⟩
          · rw [tkk_len]; exact hg.cell s4 hgne
          · rw [show k + 4 = k + 1 + 1 + 1 + 1 by omega]; exact hp1
        · exact (HA4.out i h (by omega) h').grown hg hcg (HDJ.out i h e))
      have HZ5 : Hid (∀ i (h : i < rs.length), j + 1 ≤ i → RowC w1 g (i * 5) rs[i] (c i) (cp i)) := hid (fun i h h1 => (HZ4.out i h h1).grown hg hcg (HDJ.out i h (by omega)))
      have HK5 : Hid (k + 1 + 1 + 1 + 1 + 2 * (ps.length : Int) = kk rs (j + 1)) := hid (by rw [HKN.out]; omega)
      clear hg hp1 MP HM4 HT4 HA4 HZ4 HX z4' z1' z2' z3' y1' y2' y3'
      go_wp2_with fail
      go_roundw
      case rel => exact ⟨j + 1, _, by go_num, rfl, by omega, HK5, HM5, HT5, HA5, HZ5⟩
      case measure => simp [intOf]; omega
    · obtain rfl : j = n := by omega
      have c1 : (j : Int) ≤ (j : Int) := by omega
      go_wp2_with fail
      go_ret
      obtain ⟨e1, e2⟩ := HF.out wr k HKJ.out HA.out
      exact ⟨e1, e2, HM.out⟩
set_option maxHeartbeats 400000 in
theorem mark_rowsX (base hi : Nat) (now : Int) (a : Option Addr) (n cap : Nat) (rs : List Rw) (xs : List El) (w : World) (hn : rs.length = n) (hm : rs.length ≤ 1048576) (hl : ∀ m (h : m < rs.length), rs[m].2.2.2.2.length ≤ 1048576) (h : RowsX base hi w (.slice a n cap) rs xs) : Calls Tryz.prog 11 #[.agg #[.int .i64 now, .slice a n cap], .int .i64 1] w fun e w' => e = .returned (.int .i64 (kk rs rs.length)) ∧ Rws (fun _ => True) w' a (mrk rs) ∧ Mid base hi w w' := by
  subst hn
  have hB : Below w.heap.size w (w.alloc (.cells #[.int .i64 now, .slice a rs.length cap] 28)) := balloc (Below.refl _ _) _
  have HM : Hid (Calls Tryz.prog 33 #[.slice a rs.length cap, .int .i64 1] (w.alloc (.cells #[.int .i64 now, .slice a rs.length cap] 28)) fun e w' => e = .returned (.int .i64 (kk rs rs.length)) ∧ Rws (fun _ => True) w' a (mrk rs) ∧ Mid base hi (w.alloc (.cells #[.int .i64 now, .slice a rs.length cap] 28)) w') := hid (by
    have hX := h.below hB
    rcases hX.rows with ⟨rfl, _, e⟩ | ⟨g, cp', e, h1, h2, h3, h4, h5, c, cpf, h6, h7⟩
    · cases e
      go_enter Tryz.func33, Tryz.ntmps33
      go_wp2_with fail
      go_loopw [1, 5] (fun tk' ti wr => tk' = .int .i64 1 ∧ ti = .int .i64 0 ∧ wr = (w.alloc (.cells #[.int .i64 now, .slice none 0 0] 28))) (fun _ _ _ => 0)
      case atStart => exact ⟨rfl, rfl, rfl⟩
      case round =>
        obtain ⟨rfl, rfl, rfl⟩ := hrel
        go_wp2_with fail
        go_ret
        exact ⟨by simp [kk], .inl (by simp [mrk]), mid_refl _ _ _⟩
    · cases e
      refine (mark_rowSX base hi g cap rs c cpf _ h1 h2 h3 hm hl h5 (fun j hj => (h6 j hj).1) (fun j hj => ⟨(h6 j hj).2.2.2.1, (h6 j hj).2.2.2.2.1, (h6 j hj).2.2.2.2.2⟩) h7).mono ?_
      rintro e w' ⟨rfl, hr, hmid⟩
      refine ⟨rfl, .inr ⟨g, 0, rfl, by have := hmid.2.2.2.1; omega, fun j hj => ?_⟩, hmid⟩
      rw [Nat.zero_add]
      have hj' := hj
      rw [mrk_len] at hj'
      have e2 := mrk_at hj'
      refine (hr j hj).at ?_ ?_
      · rw [e2]; simp only [tkk_len]; exact (h6 j hj').2.1
      · rw [e2]; simp only [tkk_len]; exact (h6 j hj').2.2.1)
  clear h hl
  go_enter Tryz.func11, Tryz.ntmps11
  go_wp2_with fail
  refine HM.out.mono ?_
  rintro e w1 ⟨rfl, hr, hmid⟩
  have HRR := hid hr
  have HMM := hid (mid_trans (mid_below hB) hmid)
  clear hmid hr
  go_wp2_with fail
  go_ret
  exact ⟨rfl, HRR.out, HMM.out⟩
set_option maxRecDepth 100000 in
set_option maxHeartbeats 2000000 in
theorem held_rowSX {N : Nat → Prop} (a : Option Addr) (n cap : Nat) (rs : List Rw) (w : World) (hn : rs.length = n) (hm : n ≤ 1048576) (hl : ∀ m (h : m < rs.length), rs[m].2.2.2.2.length ≤ 1048576) (h : Rws N w a (mrk rs)) : Calls Tryz.prog 34 #[.slice a n cap, .int .i64 1] w fun e w' => e = .returned (.int .i64 (kk rs n)) ∧ w' = w := by
  have HL := hid hl
  have HR := hid h
  have HN := hid hn
  have HK := hid (kk_bound hl)
  clear hl h hn
  have HF : Hid (∀ k : Int, k = kk rs n → Ending.returned (.int .i64 k) = .returned (.int .i64 (kk rs n))) := hid (fun k e => by rw [e])
  go_enter Tryz.func34, Tryz.ntmps34
  go_wp2_with fail
  go_loopw [1, 5] (fun tk' ti wr => ∃ j : Nat, ∃ k : Int, ti = .int .i64 j ∧ tk' = .int .i64 k ∧ j ≤ n ∧ Hid (k = kk rs j) ∧ wr = w) (fun _ ti _ => n - (intOf ti).toNat)
  case atStart => exact ⟨0, 1, rfl, rfl, Nat.zero_le _, hid (by simp [kk]), rfl⟩
  case round =>
    obtain ⟨j, k, rfl, rfl, hj, HKJ, hw⟩ := hrel
    subst hw
    by_cases hlt : j < n
    · have c1 : (j : Int) < (n : Int) := by omega
      have hjr : j < rs.length := by rw [HN.out]; exact hlt
      obtain ⟨hk0, hk1⟩ := HK.out j (by omega)
      rw [← HKJ.out] at hk0 hk1
      have hk2 : k ≤ 2199027449858 := by omega
      have HKN := hid (kk_next hjr)
      rw [← HKJ.out] at HKN
      have hma := mrk_at hjr
      rw [← HKJ.out] at hma
      obtain ⟨b, o, rfl, hbs, a', cap', k0, k1, k2, k3, k4, k5, k6, k7, _⟩ := HR.out.at j (by rw [mrk_len]; exact hjr)
      rw [hma] at k0 k1 k2 k3 k4 k5 k6 k7
      simp only [tkk_len] at k0 k1 k2 k3 k4 k5 k6 k7
      have hnp := HL.out j hjr
      generalize hps : rs[j].2.2.2.2.length = np at *
      clear hps hma
      rw [show k + 2 = k + 1 + 1 by omega] at k2
      rw [show k + 3 = k + 1 + 1 + 1 by omega] at k3
      rw [show k + 4 = k + 1 + 1 + 1 + 1 by omega] at k7
      have HP := hid (held_ptsK wr a' cap' np (k + 1 + 1 + 1 + 1) (by omega) (by omega) hnp k7)
      have HK5 : Hid (k + 1 + 1 + 1 + 1 + 2 * (np : Int) = kk rs (j + 1)) := hid (by rw [HKN.out]; omega)
      have hpos : ¬ (k + 1 + 1 + 1 + 1 + 2 * (np : Int) < 0) := by omega
      clear k5 k6 k7
      go_wp2_with fail
      refine HP.out.mono ?_
      rintro e w1 ⟨rfl, hw1⟩
      replace hw1 := hw1.symm
      subst hw1
      go_wp2_with fail
      go_roundw
      case rel => exact ⟨j + 1, _, by go_num, rfl, by omega, HK5, by first | rfl | trivial⟩
      case measure => simp [intOf]; omega
    · obtain rfl : j = n := by omega
      have c1 : (j : Int) ≤ (j : Int) := by omega
      go_wp2_with fail
      go_ret
      exact ⟨HF.out k HKJ.out, rfl⟩
set_option maxHeartbeats 400000 in
theorem held_rowsX {N : Nat → Prop} (now : Int) (a : Option Addr) (n cap : Nat) (rs : List Rw) (w : World) (hn : rs.length = n) (hm : n ≤ 1048576) (hl : ∀ m (h : m < rs.length), rs[m].2.2.2.2.length ≤ 1048576) (h : Rws N w a (mrk rs)) : Calls Tryz.prog 12 #[.agg #[.int .i64 now, .slice a n cap], .int .i64 1] w fun e w' => e = .returned (.int .i64 (kk rs n)) ∧ Below w.heap.size w w' := by
  have hB : Below w.heap.size w (w.alloc (.cells #[.int .i64 now, .slice a n cap] 28)) := balloc (Below.refl _ _) _
  have HM := hid (held_rowSX a n cap rs _ hn hm hl (h.below hB))
  have hkp := (kk_bound hl n (by omega)).1
  clear h hl
  have hz : ¬ (kk rs n < 0) := by omega
  generalize kk rs n = kn at *
  go_enter Tryz.func12, Tryz.ntmps12
  go_wp2_with fail
  refine HM.out.mono ?_
  rintro e w1 ⟨rfl, hw⟩
  replace hw := hw.symm
  subst hw
  go_wp2_with fail
  go_ret
  exact ⟨rfl, hB⟩
end Go.Proofs.YtjhnfbefgjoiiaaGreat
namespace Go.Proofs.YtjhnfbefgjoiiaaGreat
open Go.RowKit
set_option linter.unusedSimpArgs false
set_option linter.unusedVariables false
/-- Rows as the law hands them in: each list of points has an address. -/
def RwsS (w : World) (B : Nat) (rs : List Rw) : Prop := B < w.heap.size ∧ ∀ j (h : j < rs.length), ∃ c cp, c < w.heap.size ∧ w.cell? ⟨B, j * 5, none⟩ = some (.int .i64 rs[j].1) ∧ w.cell? ⟨B, j * 5 + 1, none⟩ = some (.int .i64 rs[j].2.1) ∧ w.cell? ⟨B, j * 5 + 2, none⟩ = some (.int .i64 rs[j].2.2.1) ∧ w.cell? ⟨B, j * 5 + 3, none⟩ = some (.int .i64 rs[j].2.2.2.1) ∧ w.cell? ⟨B, j * 5 + 4, none⟩ = some (.slice (some ⟨c, 0, none⟩) rs[j].2.2.2.2.length cp) ∧ rs[j].2.2.2.2.length ≤ 1099511627776 ∧ Pts w (some ⟨c, 0, none⟩) rs[j].2.2.2.2
theorem rwsS_of {N : Nat → Prop} {hi : Nat} {w : World} {B : Nat} {rs : List Rw} (hB : B < w.heap.size) (h : RwsAt N w B 0 rs) (ho : RwsO hi w B rs) (hh : hi ≤ w.heap.size) : RwsS w B rs := by
  refine ⟨hB, fun j hj => ?_⟩
  obtain ⟨a, cap, h0, h1, h2, h3, h4, h5, h6, h7, h8⟩ := h j hj
  obtain ⟨c, q0, q1, q2, q3⟩ := ho j hj
  simp only [Nat.zero_add] at h0 h1 h2 h3 h4
  rw [h4] at q0
  cases q0
  exact ⟨c, _, by omega, h0, h1, h2, h3, h4, h6, h7⟩
theorem RwsS.below {w w' : World} {B : Nat} {rs : List Rw} (h : RwsS w B rs) (H : Below w.heap.size w w') : RwsS w' B rs := by
  refine ⟨Nat.lt_of_lt_of_le h.1 H.size, fun j hj => ?_⟩
  obtain ⟨c, cp, a0, a1, a2, a3, a4, a5, a6, a7⟩ := h.2 j hj
  exact ⟨c, cp, Nat.lt_of_lt_of_le a0 H.size, keepcell H a1, keepcell H a2, keepcell H a3, keepcell H a4, keepcell H a5, a6, a7.below H⟩
theorem flt_next {rs : List Rw} {p : Rw → Bool} {i : Nat} (hi : i < rs.length) : (rs.take (i + 1)).filter p = if p rs[i] = true then (rs.take i).filter p ++ [rs[i]] else (rs.take i).filter p := by
  rw [List.take_add_one, List.getElem?_eq_getElem hi, List.filter_append]
  by_cases h : p rs[i] = true
  · simp [h]
  · simp [h]
theorem make_rows0 (n : Nat) (hn : n ≤ 1099511627776) (w : World) : (Instr.makeSlice 26 (.int .i64 0) (.int .i64 n)).run Tryz.prog w = .ok (.slice (some ⟨w.heap.size, 0, none⟩) 0 n) (w.alloc (.cells (madeCells #[.int .i64 0, .int .i64 0, .int .i64 0, .int .i64 0, .slice none 0 0] (n * 5)) 57)) := by
  obtain ⟨i0, hi, hz0, hz1, hz2⟩ := info_parts Tryz.infoRow
  have := run_make (P := Tryz.prog) w 26 57 i0 _ Tryz.underlying26 hi hz0 .i64 .i64 0 n (by omega) (by omega) (by rw [hz2]; omega) (by omega)
  rw [hz1] at this
  exact this
theorem kept_form {base hi : Nat} {w : World} {v : Value} {rs : List Rw} {xs : List El} (h : RowsX base hi w v rs xs) : ∃ a cap, v = .slice a rs.length cap := by
  rcases h.rows with ⟨rfl, _, e⟩ | ⟨g, cap, e, _⟩
  · exact ⟨none, 0, e⟩
  · exact ⟨_, cap, e⟩
set_option maxRecDepth 100000 in
set_option maxHeartbeats 2000000 in
theorem kept_copied (B : Nat) (rs : List Rw) (w : World) (hm : rs.length ≤ 1099511627776) (h : RwsS w B rs) : Calls Tryz.prog 58 #[.slice (some ⟨B, 0, none⟩) rs.length rs.length, .func (.func 59) #[] #[]] w fun e w' => ∃ v xs, e = .returned v ∧ RowsX w.heap.size w'.heap.size w' v (rs.filter allb) xs ∧ Below w.heap.size w w' := by
  obtain ⟨i0, hi0, hz0, hz1, hz2⟩ := info_parts Tryz.infoRow
  have HR := hid h
  clear h
  have hmk := make_rows0 rs.length hm
  obtain ⟨n, hn⟩ : ∃ n, n = rs.length := ⟨_, rfl⟩
  have HN := hid hn.symm
  rw [← hn] at hm hmk ⊢
  clear hn
  have hB0 : Below w.heap.size w (w.alloc (.cells (madeCells #[.int .i64 0, .int .i64 0, .int .i64 0, .int .i64 0, .slice none 0 0] (n * 5)) 57)) := balloc (Below.refl _ _) _
  have HI : Hid (RowsX w.heap.size (w.alloc (.cells (madeCells #[.int .i64 0, .int .i64 0, .int .i64 0, .int .i64 0, .slice none 0 0] (n * 5)) 57)).heap.size (w.alloc (.cells (madeCells #[.int .i64 0, .int .i64 0, .int .i64 0, .int .i64 0, .slice none 0 0] (n * 5)) 57)) (.slice (some ⟨w.heap.size, 0, none⟩) 0 n) [] []) := hid (by
    have := World.ownsRow_made (base := w.heap.size) (e := 57) (size := 5) w (madeCells #[.int .i64 0, .int .i64 0, .int .i64 0, .int .i64 0, .slice none 0 0] (n * 5)) n (Nat.le_refl _) (by unfold maxLen; omega) (size_madeCells _ _)
    exact RowsX.nil this (fun g e => by simp [Value.ownBlock] at e; subst e; simp) (Nat.le_refl _))
  go_enter Tryz.func58, Tryz.ntmps58
  go_upto_region 2 with fail
  generalize w.alloc (.cells (madeCells #[.int .i64 0, .int .i64 0, .int .i64 0, .int .i64 0, .slice none 0 0] (n * 5)) 57) = W0 at *
  clear hmk
  go_wp2_with fail
  go_loopw [5, 15] (fun tv ti wr => ∃ i : Nat, ∃ xs : List El, ti = .int .i64 i ∧ i ≤ n ∧ Hid (RowsX w.heap.size wr.heap.size wr tv ((rs.take i).filter allb) xs) ∧ Hid (Below w.heap.size w wr)) (fun _ ti _ => n - (intOf ti).toNat)
  case atStart => exact ⟨0, [], rfl, Nat.zero_le _, HI, hid hB0⟩
  case round =>
    clear HI hB0
    obtain ⟨i, xs, rfl, hi, HV, HBW⟩ := hrel
    obtain ⟨a5, c5, rfl⟩ := kept_form HV.out
    have hwX := HBW.out.size
    by_cases hlt : i < n
    · have d1 : (i : Int) < (n : Int) := by omega
      have hir : i < rs.length := by rw [HN.out]; exact hlt
      obtain ⟨ci, cpi, k9, k0, k1, k2, k3, k4, k6, k7⟩ := (HR.out.below HBW.out).2 i hir
      have hbx : Below wr.heap.size wr (wr.alloc (.cells #[.int .i64 rs[i].1, .int .i64 rs[i].2.1, .int .i64 rs[i].2.2.1, .int .i64 rs[i].2.2.2.1, .slice (some ⟨ci, 0, none⟩) rs[i].2.2.2.2.length cpi] 57)) := balloc (Below.refl _ _) _
      have HT := hid (fun (W : World) (hb : Below wr.heap.size wr W) => copied_1 rs[i] ci 0 cpi W k6 (Nat.lt_of_lt_of_le k9 hb.size) (k7.below hb))
      have HX := hid (flt_next (p := allb) hir)
      have hil : ((rs.take i).filter allb).length ≤ i := by have := List.length_filter_le allb (rs.take i); simp at this; omega
      have HK6 := hid k6
      have HSN : Hid (∀ (r : Rw), rs[i] = r → (r.1, r.2.1, r.2.2.1, r.2.2.2.1, r.2.2.2.2) = rs[i]) := hid (fun r e => by rw [e])
      clear k6 k7 k9
      unfold RT rwv at HT
      obtain ⟨r, hr⟩ : ∃ r, r = rs[i] := ⟨_, rfl⟩
      rw [← hr] at k0 k1 k2 k3 k4 HT HX HK6 hbx
      generalize hpr : allb r = q2 at HX HT
      clear hpr hr HSN
      generalize (rs.take i).filter allb = zs at *
      obtain ⟨id, fr, te, kd, ps⟩ := r
      simp only at k0 k1 k2 k3 k4 HT hbx HK6
      have hps : ps.length ≤ 1099511627776 := HK6.out
      go_upto_region 5 with fail
      have gx := new_alloc wr wr.heap.size (.cells #[.int .i64 id, .int .i64 fr, .int .i64 te, .int .i64 kd, .slice (some ⟨ci, 0, none⟩) ps.length cpi] 57) rfl
      have HI1 := hid (HV.out.below hbx)
      have HB1 := hid (btrans HBW.out hbx)
      have HT1 := hid (HT.out _ hbx)
      have hs1 := hbx.size
      clear k0 k1 k2 k3 k4 HT hbx HV
      generalize wr.alloc (.cells #[.int .i64 id, .int .i64 fr, .int .i64 te, .int .i64 kd, .slice (some ⟨ci, 0, none⟩) ps.length cpi] 57) = W1 at *
      generalize wr.heap.size = X at *
      obtain ⟨⟨x0, x1, x2, x3, x4⟩, _⟩ := cell5g gx
      clear gx
      go_wp2_with fail
      refine HT1.out.mono ?_
      rintro e z ⟨g, cp, rfl, hcp, hgs, ho, hz⟩
      have HBz := hid (btrans HB1.out hz)
      have HIz := hid (HI1.out.below hz)
      have HO := hid ho
      have hzs := hz.size
      have hwz := HBz.out.size
      clear hz x0 x1 x2 x3 x4 HT1 HI1 HB1 ho
      cases q2
      · go_wp2_with fail
        have hal : Below z.heap.size z (z.alloc (.cells #[.int .i64 id, .int .i64 fr, .int .i64 te, .int .i64 kd, .slice (some ⟨g, 0, none⟩) ps.length cp] 57)) := balloc (Below.refl _ _) _
        have HV2 : Hid (RowsX w.heap.size (z.alloc (.cells #[.int .i64 id, .int .i64 fr, .int .i64 te, .int .i64 kd, .slice (some ⟨g, 0, none⟩) ps.length cp] 57)).heap.size (z.alloc (.cells #[.int .i64 id, .int .i64 fr, .int .i64 te, .int .i64 kd, .slice (some ⟨g, 0, none⟩) ps.length cp] 57)) (.slice a5 zs.length c5) ((rs.take (i + 1)).filter allb) xs) := hid (by
          rw [HX.out]
          simpa using (HIz.out.below hal).mono (Nat.le_refl _) (Nat.le_trans (by omega) hal.size) (Nat.le_refl _))
        have HBa := hid (btrans HBz.out hal)
        clear hal
        go_roundw
        case rel => exact ⟨i + 1, xs, by go_num, by omega, HV2, HBa⟩
        case measure => simp [intOf]; omega
      · have HX2 : Hid ((rs.take (i + 1)).filter allb = zs ++ [(id, fr, te, kd, ps)]) := hid (by rw [HX.out]; simp)
        clear HX
        go_upto_region 7 with fail
        have hal : Below z.heap.size z (z.alloc (.cells #[.int .i64 id, .int .i64 fr, .int .i64 te, .int .i64 kd, .slice (some ⟨g, 0, none⟩) ps.length cp] 57)) := balloc (Below.refl _ _) _
        have gy := new_alloc z z.heap.size (.cells #[.int .i64 id, .int .i64 fr, .int .i64 te, .int .i64 kd, .slice (some ⟨g, 0, none⟩) ps.length cp] 57) rfl
        have HIa := hid (HIz.out.below hal)
        have HBa := hid (btrans HBz.out hal)
        have HOa := hid (HO.out.below hal)
        have has : z.heap.size < (z.alloc (.cells #[.int .i64 id, .int .i64 fr, .int .i64 te, .int .i64 kd, .slice (some ⟨g, 0, none⟩) ps.length cp] 57)).heap.size := by simp
        clear hal HO HIz HBz
        generalize z.alloc (.cells #[.int .i64 id, .int .i64 fr, .int .i64 te, .int .i64 kd, .slice (some ⟨g, 0, none⟩) ps.length cp] 57) = Z at *
        obtain ⟨⟨x0, x1, x2, x3, x4⟩, _⟩ := cell5g gy
        clear gy
        have hownZ := HIa.out.2.1
        have hgZ := HOa.out.1
        go_wp2_with (at_builtin; (refine wpList_append_lies _ rfl (.tmp 26) (.tmp 28) 26 rfl w.heap.size 57 i0 _ 5 56 Tryz.underlying26 hi0 hz0 hz1 hz2 rfl (by decide) (.slice a5 zs.length c5) zs.length (flat5 xs) rfl (hownZ.alloc _) ⟨Z.heap.size, 0, none⟩ 1 1 (ev (elR (id, fr, te, kd, ps) g cp)) rfl rfl (World.news_of_block (cs := #[.int .i64 id, .int .i64 fr, .int .i64 te, .int .i64 kd, .slice (some ⟨g, 0, none⟩) ps.length cp]) (t := 57) (fr := (0, 0)) (heap_alloc_new Z _)) (by simp [ev, elR, Value.oneCell']) (by omega) (by unfold maxLen; omega) (by omega) (by simp; omega) (Z.heap.size + 1) (by simp) ?_; intro gg cq w2 hown2 hgrow hat hlt2))
        have hal2 : Below Z.heap.size Z (Z.alloc (.cells #[.int .i64 id, .int .i64 fr, .int .i64 te, .int .i64 kd, .slice (some ⟨g, 0, none⟩) ps.length cp] 57)) := balloc (Below.refl _ _) _
        have hsn := RowsX.snoc (r := (id, fr, te, kd, ps)) (c := g) (cp := cp) (HIa.out.below hal2) (by omega) (by omega) (by simp; omega) hcp hps (HOa.out.below hal2) hown2 hgrow (by simpa using hat) hlt2
        have hb2 : Below w.heap.size w w2 := Below.grown (balloc HBa.out _) hgrow (by simp; omega) (fun k e => (hownZ.lt k e).1)
        have HSN2 : Hid (RowsX w.heap.size w2.heap.size w2 (.slice (some ⟨gg, 0, none⟩) (zs.length + 1) cq) ((rs.take (i + 1)).filter allb) (xs ++ [elR (id, fr, te, kd, ps) g cp])) := hid (by rw [HX2.out]; exact hsn)
        have HB2 := hid hb2
        clear hsn hb2 hown2 hgrow hal2 hownZ
        go_roundw
        case rel => exact ⟨i + 1, _, by go_num, by omega, HSN2, HB2⟩
        case measure => simp [intOf]; omega
    · have d1 : (n : Int) ≤ (i : Int) := by omega
      have hin : i = rs.length := by have := HN.out; omega
      have HF : Hid (RowsX w.heap.size wr.heap.size wr (.slice a5 ((rs.take i).filter allb).length c5) (rs.filter allb) xs) := hid (by have := HV.out; rw [hin, List.take_length] at this ⊢; exact this)
      clear hin HV
      go_wp2_with fail
      go_ret
      exact ⟨_, xs, rfl, HF.out, HBW.out⟩
/-- Rows that a call answers, in memory of its own. -/
def VR (w : World) (now : Int) (rs : List Rw) (e : Ending) (w' : World) : Prop :=
  ∃ a cap xs, e = .returned (.agg #[.int .i64 now, .slice a rs.length cap]) ∧ RowsX w.heap.size w'.heap.size w' (.slice a rs.length cap) rs xs ∧ Below w.heap.size w w'
set_option maxRecDepth 100000 in
set_option maxHeartbeats 1000000 in
theorem rows_copied (now : Int) (B : Nat) (rs : List Rw) (w : World) (hm : rs.length ≤ 1099511627776) (h : RwsS w B rs) : Calls Tryz.prog 29 #[.agg #[.int .i64 now, .slice (some ⟨B, 0, none⟩) rs.length rs.length]] w fun e w' => VR w now rs e w' := by
  have HK := hid (fun (W : World) (hb : Below w.heap.size w W) => kept_copied B rs W hm (h.below hb))
  have hfl : rs.filter allb = rs := List.filter_eq_self.2 (fun _ _ => rfl)
  rw [hfl] at HK
  clear h hfl
  obtain ⟨n, hn⟩ : ∃ n, n = rs.length := ⟨_, rfl⟩
  have HN := hid hn.symm
  unfold VR
  rw [← hn] at hm HK ⊢
  clear hn
  have hB : Below w.heap.size w ((w.alloc (.cells #[.int .i64 now, .slice (some ⟨B, 0, none⟩) n n] 28)).alloc (.cells #[.int .i64 0, .slice none 0 0] 28)) := balloc (balloc (Below.refl _ _) _) _
  have g0 := old_alloc (o' := .cells #[.int .i64 0, .slice none 0 0] 28) (new_alloc w w.heap.size (.cells #[.int .i64 now, .slice (some ⟨B, 0, none⟩) n n] 28) rfl)
  have g1 := new_alloc (w.alloc (.cells #[.int .i64 now, .slice (some ⟨B, 0, none⟩) n n] 28)) (w.heap.size + 1) (.cells #[.int .i64 0, .slice none 0 0] 28) (by simp)
  go_enter Tryz.func29, Tryz.ntmps29
  go_upto_region 1 with fail
  generalize (w.alloc (.cells #[.int .i64 now, .slice (some ⟨B, 0, none⟩) n n] 28)).alloc (.cells #[.int .i64 0, .slice none 0 0] 28) = W at *
  obtain ⟨d0, d1, _, _⟩ := cell2f g0
  have hWs := lt_of_block g1
  go_wp2_with fail
  refine (HK.out _ hB).mono ?_
  rintro e y ⟨v, xs, rfl, hX, hy⟩
  obtain ⟨a, c, rfl⟩ := kept_form hX
  rw [HN.out] at hX
  rw [HN.out]
  replace g0 := keepheap2 hy g0
  replace g1 := keepheap2 hy g1
  have HB := hid (btrans hB hy)
  have HX := hid hX
  clear hB hy hX HK d0 d1
  obtain ⟨d0, d1, f0, f1⟩ := cell2f g0
  obtain ⟨v0, v1, u0, u1⟩ := cell2f g1
  go_wp2_with fail
  have gF := set2r (set_far (q := w.heap.size) (k := 1) (u := .slice a n c) g1 (by omega)) (.int .i64 now) (.slice a n c)
  have bF := bset (bset (bset HB.out (q := w.heap.size) (k := 1) (Nat.le_refl _) (.slice a n c)) (q := w.heap.size + 1) (k := 0) (by omega) (.int .i64 now)) (q := w.heap.size + 1) (k := 1) (by omega) (.slice a n c)
  have xF := (HX.out.frame (w' := ((y.setCell ⟨w.heap.size, 1, none⟩ (.slice a n c)).setCell ⟨w.heap.size + 1, 0, none⟩ (.int .i64 now)).setCell ⟨w.heap.size + 1, 1, none⟩ (.slice a n c)) (fun b h1 h2 => by rw [Below.heap_setCell _ _ _ _ (by dsimp only; omega), Below.heap_setCell _ _ _ _ (by dsimp only; omega), Below.heap_setCell _ _ _ _ (by dsimp only; omega)]) (by simp)).mono (base' := w.heap.size) (hi' := (((y.setCell ⟨w.heap.size, 1, none⟩ (.slice a n c)).setCell ⟨w.heap.size + 1, 0, none⟩ (.int .i64 now)).setCell ⟨w.heap.size + 1, 1, none⟩ (.slice a n c)).heap.size) (by omega) (by simp) (Nat.le_refl _)
  generalize ((y.setCell ⟨w.heap.size, 1, none⟩ (.slice a n c)).setCell ⟨w.heap.size + 1, 0, none⟩ (.int .i64 now)).setCell ⟨w.heap.size + 1, 1, none⟩ (.slice a n c) = wf at *
  obtain ⟨z0, z1, _, _⟩ := cell2f gF
  exact bodyPost_ret (v := .agg #[.int .i64 now, .slice a n c]) (by simp [results, Tryz.results29, go_sem, z0, z1]) rfl ⟨a, c, xs, rfl, xF, bF⟩
def vacb (now : Int) (rs : List Rw) (t : Int) : List Rw := if rowsb now rs = true then rs.filter (vkeep t) else rs
end Go.Proofs.YtjhnfbefgjoiiaaGreat
namespace Go.Proofs.YtjhnfbefgjoiiaaGreat
open Go.RowKit
set_option linter.unusedSimpArgs false
set_option linter.unusedVariables false
theorem set1r {w : World} {p : Nat} {o0 o1 : Value} {t : TypeId} (h : w.heap[p]? = some (.cells #[o0, o1] t (0, 0))) (b : Value) : (w.setCell ⟨p, 1, none⟩ b).heap[p]? = some (.cells #[o0, b] t (0, 0)) := by
  have hlt := lt_of_block h
  have h' : w.heap[p] = .cells #[o0, o1] t (0, 0) := by simpa [Array.getElem?_eq_getElem hlt] using h
  show (w.heap.modify p _)[p]? = _
  rw [Array.getElem?_eq_getElem (by simpa using hlt), Array.getElem_modify_self, h']
  rfl
theorem own_nilR {w : World} {B : Nat} : w.ownsRow B 57 5 (.slice none 0 0) 0 [] := ⟨by simp, .inl ⟨rfl, rfl⟩⟩
set_option maxRecDepth 100000 in
set_option maxHeartbeats 4000000 in
theorem spec_copyRows (now : Int) (B : Nat) (rs : List Rw) (w : World) (hm : rs.length ≤ 1099511627776) (h : RwsS w B rs) : Calls Tryz.prog 27 #[.agg #[.int .i64 now, .slice (some ⟨B, 0, none⟩) rs.length rs.length]] w fun e w' => VR w now rs e w' := by
  obtain ⟨i0, hi0, hz0, hz1, hz2⟩ := info_parts Tryz.infoRow
  have HR := hid h
  clear h
  unfold VR
  obtain ⟨n, hn⟩ : ∃ n, n = rs.length := ⟨_, rfl⟩
  have HN := hid hn.symm
  rw [← hn] at hm ⊢
  clear hn
  have hBx : Below w.heap.size w (((w.alloc (.cells #[.int .i64 now, .slice (some ⟨B, 0, none⟩) n n] 28)).alloc (.cells #[.int .i64 0, .slice none 0 0] 28)).alloc (.cells #[.int .i64 now, .slice none 0 0] 28)) := balloc (balloc (balloc (Below.refl _ _) _) _) _
  have g0 := old_alloc (o' := .cells #[.int .i64 now, .slice none 0 0] 28) (old_alloc (o' := .cells #[.int .i64 0, .slice none 0 0] 28) (new_alloc w w.heap.size (.cells #[.int .i64 now, .slice (some ⟨B, 0, none⟩) n n] 28) rfl))
  have g1 := old_alloc (o' := .cells #[.int .i64 now, .slice none 0 0] 28) (new_alloc (w.alloc (.cells #[.int .i64 now, .slice (some ⟨B, 0, none⟩) n n] 28)) (w.heap.size + 1) (.cells #[.int .i64 0, .slice none 0 0] 28) (by simp))
  have g2 := new_alloc ((w.alloc (.cells #[.int .i64 now, .slice (some ⟨B, 0, none⟩) n n] 28)).alloc (.cells #[.int .i64 0, .slice none 0 0] 28)) (w.heap.size + 1 + 1) (.cells #[.int .i64 now, .slice none 0 0] 28) (by simp)
  have hs3 : (((w.alloc (.cells #[.int .i64 now, .slice (some ⟨B, 0, none⟩) n n] 28)).alloc (.cells #[.int .i64 0, .slice none 0 0] 28)).alloc (.cells #[.int .i64 now, .slice none 0 0] 28)).heap.size = w.heap.size + 3 := by simp
  go_enter Tryz.func27, Tryz.ntmps27
  go_upto_region 2 with fail
  generalize (((w.alloc (.cells #[.int .i64 now, .slice (some ⟨B, 0, none⟩) n n] 28)).alloc (.cells #[.int .i64 0, .slice none 0 0] 28)).alloc (.cells #[.int .i64 now, .slice none 0 0] 28)) = W0 at *
  have HX0 := hid (RowsX.nil (base := w.heap.size + 3) (hi := W0.heap.size) (own_nilR (w := W0)) (fun g e => by cases e) (Nat.le_refl _))
  go_wp2_with fail
  go_loopw [4] (fun ti wr => ∃ i : Nat, ∃ v : Value, ∃ xs : List El, ti = .int .i64 i ∧ i ≤ n ∧ Hid (RowsX (w.heap.size + 3) wr.heap.size wr v (rs.take i) xs) ∧ Hid (wr.heap[w.heap.size]? = some (.cells #[.int .i64 now, .slice (some ⟨B, 0, none⟩) n n] 28 (0, 0))) ∧ Hid (wr.heap[w.heap.size + 1]? = some (.cells #[.int .i64 0, .slice none 0 0] 28 (0, 0))) ∧ Hid (wr.heap[w.heap.size + 1 + 1]? = some (.cells #[.int .i64 now, v] 28 (0, 0))) ∧ Hid (w.heap.size + 3 ≤ wr.heap.size) ∧ Hid (Below w.heap.size w wr)) (fun ti _ => n - (intOf ti).toNat)
  case atStart => exact ⟨0, _, [], rfl, Nat.zero_le _, HX0, hid g0, hid g1, hid g2, hid (by omega), hid hBx⟩
  case round =>
    clear HX0 g0 g1 g2 hBx hs3
    obtain ⟨i, v, xs, rfl, hi, HV, G0, G1, G2, HS, HBW⟩ := hrel
    obtain ⟨d0, d1, _, _⟩ := cell2f G0.out
    have hws := HS.out
    by_cases hlt : i < n
    · have c1 : (i : Int) < (n : Int) := by omega
      have hir : i < rs.length := by rw [HN.out]; exact hlt
      obtain ⟨ci, cpi, k9, k0, k1, k2, k3, k4, k6, k7⟩ := (HR.out.below HBW.out).2 i hir
      have htk : rs.take (i + 1) = rs.take i ++ [rs[i]] := by rw [List.take_add_one, List.getElem?_eq_getElem hir]; rfl
      have hil : (rs.take i).length ≤ i := by simp; omega
      have HSC := hid (fun (W : World) (hb : Below wr.heap.size wr W) => spec_copyG rs[i].2.2.2.1 ci 0 cpi rs[i].2.2.2.2 W k6 (k7.below hb) (Nat.lt_of_lt_of_le k9 hb.size))
      unfold CP at HSC
      obtain ⟨r, hr⟩ : ∃ r, r = rs[i] := ⟨_, rfl⟩
      rw [← hr] at k0 k1 k2 k3 k4 k6 htk HSC
      have HTK := hid htk
      clear hr htk k7 k9
      generalize rs.take i = zs at *
      obtain ⟨id, fr, te, kd, ps⟩ := r
      simp only at k0 k1 k2 k3 k4 k6 HSC
      go_upto_region 6 with fail
      have hbx : Below wr.heap.size wr (wr.alloc (.cells #[.int .i64 id, .int .i64 fr, .int .i64 te, .int .i64 kd, .slice (some ⟨ci, 0, none⟩) ps.length cpi] 57)) := balloc (Below.refl _ _) _
      have gx := new_alloc wr wr.heap.size (.cells #[.int .i64 id, .int .i64 fr, .int .i64 te, .int .i64 kd, .slice (some ⟨ci, 0, none⟩) ps.length cpi] 57) rfl
      have HV1 := hid (HV.out.below hbx)
      have HG0 := hid (keepheap2 hbx G0.out)
      have HG1 := hid (keepheap2 hbx G1.out)
      have HG2 := hid (keepheap2 hbx G2.out)
      have HB1 := hid (btrans HBW.out hbx)
      have HC1 := hid (HSC.out _ hbx)
      have hs1 : wr.heap.size < (wr.alloc (.cells #[.int .i64 id, .int .i64 fr, .int .i64 te, .int .i64 kd, .slice (some ⟨ci, 0, none⟩) ps.length cpi] 57)).heap.size := by simp
      clear k0 k1 k2 k3 k4 d0 d1 hbx HSC HV G0 G1 G2
      generalize wr.alloc (.cells #[.int .i64 id, .int .i64 fr, .int .i64 te, .int .i64 kd, .slice (some ⟨ci, 0, none⟩) ps.length cpi] 57) = W1 at *
      generalize wr.heap.size = X at *
      obtain ⟨⟨x0, x1, x2, x3, x4⟩, _⟩ := cell5g gx
      go_wp2_with fail
      refine HC1.out.mono ?_
      rintro e y ⟨g, cp, rfl, hcp, hgs, ho, hy⟩
      have gy := keepheap2 hy gx
      have hys := hy.size
      have hwy := (btrans HB1.out hy).size
      have HV2 := hid (HV1.out.below hy)
      have HG0' := hid (keepheap2 hy HG0.out)
      have HG1' := hid (keepheap2 hy HG1.out)
      have HG2' := hid (keepheap2 hy HG2.out)
      have HBy := hid (btrans HB1.out hy)
      have HO := hid ho
      clear hy ho gx HC1 HV1 HG0 HG1 HG2 HB1 x0 x1 x2 x3 x4
      obtain ⟨⟨x0, x1, x2, x3, x4⟩, y0, y1, y2, y3, y4⟩ := cell5g gy
      go_upto_region 7 with fail
      have gq := set34 gy (.int .i64 kd) (.slice (some ⟨g, 0, none⟩) ps.length cp)
      have hfar : ∀ b, b ≠ X → ((y.setCell ⟨X, 3, none⟩ (.int .i64 kd)).setCell ⟨X, 4, none⟩ (.slice (some ⟨g, 0, none⟩) ps.length cp)).heap[b]? = y.heap[b]? := fun b hb => by rw [Below.heap_setCell _ _ _ _ (by dsimp only; omega), Below.heap_setCell _ _ _ _ (by dsimp only; omega)]
      have HV3 := hid (HV2.out.frame (w' := (y.setCell ⟨X, 3, none⟩ (.int .i64 kd)).setCell ⟨X, 4, none⟩ (.slice (some ⟨g, 0, none⟩) ps.length cp)) (fun b h1 h2 => hfar b (by omega)) (by simp))
      have HG0 := hid ((hfar w.heap.size (by omega)).trans HG0'.out)
      have HG1 := hid ((hfar (w.heap.size + 1) (by omega)).trans HG1'.out)
      have g2 := (hfar (w.heap.size + 1 + 1) (by omega)).trans HG2'.out
      have HB3 := hid (bset (bset HBy.out (q := X) (k := 3) (by omega) (.int .i64 kd)) (q := X) (k := 4) (by omega) (.slice (some ⟨g, 0, none⟩) ps.length cp))
      have HO3 := hid (own_blk HO.out (hfar g (by omega)) (by simp; exact HO.out.1))
      have hs3 : ((y.setCell ⟨X, 3, none⟩ (.int .i64 kd)).setCell ⟨X, 4, none⟩ (.slice (some ⟨g, 0, none⟩) ps.length cp)).heap.size = y.heap.size := by simp
      have hs3a := Nat.le_of_eq hs3
      have hs3b := Nat.le_of_eq hs3.symm
      have hgy := HO.out.1
      clear hs3
      clear hfar HV2 HG0' HG1' HG2' HBy HO gy x0 x1 x2 x3 x4 y0 y1 y2 y3 y4
      generalize (y.setCell ⟨X, 3, none⟩ (.int .i64 kd)).setCell ⟨X, 4, none⟩ (.slice (some ⟨g, 0, none⟩) ps.length cp) = Y at *
      obtain ⟨⟨x0, x1, x2, x3, x4⟩, _⟩ := cell5g gq
      obtain ⟨v0, v1, _, _⟩ := cell2f g2
      have hownZ := HV3.out.2.1
      have hal2 : Below Y.heap.size Y (Y.alloc (.cells #[.int .i64 id, .int .i64 fr, .int .i64 te, .int .i64 kd, .slice (some ⟨g, 0, none⟩) ps.length cp] 57)) := balloc (Below.refl _ _) _
      have HGE := hid (keepheap2 hal2 g2)
      have hvb : v.ownBlock ≠ some (w.heap.size + 1 + 1) := fun e => by have := (hownZ.lt _ e).1; omega
      clear gq g2
      go_wp2_with (at_builtin; (refine wpList_append_lies _ rfl (.tmp 26) (.tmp 28) 26 rfl (w.heap.size + 3) 57 i0 _ 5 56 Tryz.underlying26 hi0 hz0 hz1 hz2 rfl (by decide) v zs.length (flat5 xs) rfl (hownZ.alloc _) ⟨Y.heap.size, 0, none⟩ 1 1 (ev (elR (id, fr, te, kd, ps) g cp)) rfl rfl (World.news_of_block (cs := #[.int .i64 id, .int .i64 fr, .int .i64 te, .int .i64 kd, .slice (some ⟨g, 0, none⟩) ps.length cp]) (t := 57) (fr := (0, 0)) (heap_alloc_new Y _)) (by simp [ev, elR, Value.oneCell']) (by omega) (by unfold maxLen; omega) (by omega) (by simp; omega) (Y.heap.size + 1) (by simp) ?_; intro gg cq w2 hown2 hgrow hat hlt2; have g2 := (hgrow.block (w.heap.size + 1 + 1) (lt_of_block HGE.out) (fun e => hvb e.symm)).trans HGE.out; obtain ⟨t0, t1, s0, s1⟩ := cell2f g2))
      have hsn := RowsX.snoc (r := (id, fr, te, kd, ps)) (c := g) (cp := cp) (HV3.out.below hal2) (by omega) (by omega) (by simp; omega) hcp k6 (HO3.out.below hal2) hown2 hgrow (by simpa using hat) hlt2
      have hb2 : Below w.heap.size w w2 := Below.grown (balloc HB3.out _) hgrow (by simp; omega) (fun k e => by have := (hownZ.lt k e).1; omega)
      have hw2 := hgrow.size
      have HG0e := hid ((hgrow.block w.heap.size (by simp; omega) (fun e => by have := (hownZ.lt _ e.symm).1; omega)).trans (keepheap2 hal2 HG0.out))
      have HG1e := hid ((hgrow.block (w.heap.size + 1) (by simp; omega) (fun e => by have := (hownZ.lt _ e.symm).1; omega)).trans (keepheap2 hal2 HG1.out))
      have hfar : ∀ b, b ≠ w.heap.size + 1 + 1 → (w2.setCell ⟨w.heap.size + 1 + 1, 1, none⟩ (.slice (some ⟨gg, 0, none⟩) (zs.length + 1) cq)).heap[b]? = w2.heap[b]? := fun b hb => by rw [Below.heap_setCell _ _ _ _ (by dsimp only; omega)]
      have HF1 := hid ((hsn.frame (w' := w2.setCell ⟨w.heap.size + 1 + 1, 1, none⟩ (.slice (some ⟨gg, 0, none⟩) (zs.length + 1) cq)) (fun b h1 h2 => hfar b (by omega)) (by simp)).mono (hi' := (w2.setCell ⟨w.heap.size + 1 + 1, 1, none⟩ (.slice (some ⟨gg, 0, none⟩) (zs.length + 1) cq)).heap.size) (Nat.le_refl _) (by simp) (Nat.le_refl _))
      rw [← HTK.out] at HF1
      have HF2 := hid ((hfar w.heap.size (by omega)).trans HG0e.out)
      have HF3 := hid ((hfar (w.heap.size + 1) (by omega)).trans HG1e.out)
      have HF4 : Hid ((w2.setCell ⟨w.heap.size + 1 + 1, 1, none⟩ (.slice (some ⟨gg, 0, none⟩) (zs.length + 1) cq)).heap[w.heap.size + 1 + 1]? = some (.cells #[.int .i64 now, .slice (some ⟨gg, 0, none⟩) (zs.length + 1) cq] 28 (0, 0))) := hid (set1r g2 _)
      have HF5 : Hid (w.heap.size + 3 ≤ (w2.setCell ⟨w.heap.size + 1 + 1, 1, none⟩ (.slice (some ⟨gg, 0, none⟩) (zs.length + 1) cq)).heap.size) := hid (by simp at hw2 ⊢; omega)
      have HF6 := hid (bset hb2 (q := w.heap.size + 1 + 1) (k := 1) (by omega) (.slice (some ⟨gg, 0, none⟩) (zs.length + 1) cq))
      clear hsn hb2 hown2 hgrow hal2 hownZ hfar g2 t0 t1 s0 s1 HGE HG0e HG1e
      go_roundw
      case rel => exact ⟨i + 1, _, _, by go_num, by omega, HF1, HF2, HF3, HF4, HF5, HF6⟩
      case measure => simp [intOf]; omega
    · have c1 : (n : Int) ≤ (i : Int) := by omega
      have hin : i = rs.length := by have := HN.out; omega
      have hX : RowsX (w.heap.size + 3) wr.heap.size wr v rs xs := by have := HV.out; rw [hin, List.take_length] at this; exact this
      obtain ⟨a, c, rfl⟩ := kept_form hX
      rw [HN.out] at hX G2
      have HX := hid hX
      clear hin HV hX
      obtain ⟨v0, v1, _, _⟩ := cell2f G1.out
      obtain ⟨t0, t1, _, _⟩ := cell2f G2.out
      obtain ⟨_, _, s0, s1⟩ := cell2f G1.out
      go_wp2_with fail
      have gF := set2r G1.out (.int .i64 now) (.slice a n c)
      have bF := bset (bset HBW.out (q := w.heap.size + 1) (k := 0) (by omega) (.int .i64 now)) (q := w.heap.size + 1) (k := 1) (by omega) (.slice a n c)
      have xF := (HX.out.frame (w' := (wr.setCell ⟨w.heap.size + 1, 0, none⟩ (.int .i64 now)).setCell ⟨w.heap.size + 1, 1, none⟩ (.slice a n c)) (fun b h1 h2 => by rw [Below.heap_setCell _ _ _ _ (by dsimp only; omega), Below.heap_setCell _ _ _ _ (by dsimp only; omega)]) (by simp)).mono (base' := w.heap.size) (hi' := ((wr.setCell ⟨w.heap.size + 1, 0, none⟩ (.int .i64 now)).setCell ⟨w.heap.size + 1, 1, none⟩ (.slice a n c)).heap.size) (by omega) (by simp) (Nat.le_refl _)
      generalize (wr.setCell ⟨w.heap.size + 1, 0, none⟩ (.int .i64 now)).setCell ⟨w.heap.size + 1, 1, none⟩ (.slice a n c) = wf at *
      obtain ⟨z0, z1, _, _⟩ := cell2f gF
      exact bodyPost_ret (v := .agg #[.int .i64 now, .slice a n c]) (by simp [results, Tryz.results27, go_sem, z0, z1]) rfl ⟨a, c, xs, rfl, xF, bF⟩
end Go.Proofs.YtjhnfbefgjoiiaaGreat
namespace Go.Proofs.YtjhnfbefgjoiiaaGreat
open Go.RowKit
set_option linter.unusedSimpArgs false
set_option linter.unusedVariables false
theorem setk4_23 {w : World} {p : Nat} {o0 o1 o2 o3 : Value} {t : TypeId} (h : w.heap[p]? = some (.cells #[o0, o1, o2, o3] t (0, 0))) (c d : Value) : ((w.setCell ⟨p, 2, none⟩ c).setCell ⟨p, 3, none⟩ d).heap[p]? = some (.cells #[o0, o1, c, d] t (0, 0)) := set_at (set_at h)
theorem setk3_2 {w : World} {p : Nat} {o0 o1 o2 : Value} {t : TypeId} (h : w.heap[p]? = some (.cells #[o0, o1, o2] t (0, 0))) (c : Value) : (w.setCell ⟨p, 2, none⟩ c).heap[p]? = some (.cells #[o0, o1, c] t (0, 0)) := set_at h
set_option maxRecDepth 100000 in
set_option maxHeartbeats 2000000 in
theorem spec_copyChs (B cap : Nat) (xs : List Ch) (w : World) (hm : xs.length ≤ 1099511627776) (h : ChsS w B xs) : Calls Tryz.prog 68 #[.slice (some ⟨B, 0, none⟩) xs.length cap] w fun e w' => ∃ v ps, e = .returned v ∧ LX KC 73 w.heap.size w'.heap.size w' v xs ps ∧ (∃ g c, v = .slice (some ⟨g, 0, none⟩) xs.length c) ∧ Below w.heap.size w w' := by
  obtain ⟨i0, hi0, hz0, hz1, hz2⟩ := info_parts Tryz.infoCh
  have HR := hid h
  clear h
  obtain ⟨n, hn⟩ : ∃ n, n = xs.length := ⟨_, rfl⟩
  have HN := hid hn.symm
  rw [← hn] at hm ⊢
  clear hn
  have hB0 : Below w.heap.size w (w.alloc (.cells #[] 73)) := balloc (Below.refl _ _) _
  have HI : Hid (LX KC 73 w.heap.size (w.alloc (.cells #[] 73)).heap.size (w.alloc (.cells #[] 73)) (.slice (some ⟨w.heap.size, 0, none⟩) 0 0) [] []) := hid (by
    have := World.ownsRow_made (base := w.heap.size) (e := 73) (size := 4) w #[] 0 (Nat.le_refl _) (by unfold maxLen; omega) rfl
    exact LX.nil this (fun g e => by simp [Value.ownBlock] at e; subst e; simp) (Nat.le_refl _))
  go_enter Tryz.func68, Tryz.ntmps68
  go_upto_region 2 with fail
  generalize w.alloc (.cells #[] 73) = W0 at *
  go_wp2_with fail
  go_loopw [3, 4] (fun tv ti wr => ∃ i : Nat, ∃ g5 c5 : Nat, ∃ ps' : List (Ch × Value), ti = .int .i64 i ∧ i ≤ n ∧ tv = .slice (some ⟨g5, 0, none⟩) i c5 ∧ Hid (LX KC 73 w.heap.size wr.heap.size wr (.slice (some ⟨g5, 0, none⟩) i c5) (xs.take i) ps') ∧ Hid (Below w.heap.size w wr)) (fun _ ti _ => n - (intOf ti).toNat)
  case atStart => exact ⟨0, w.heap.size, 0, [], rfl, Nat.zero_le _, rfl, HI, hid hB0⟩
  case round =>
    clear HI hB0
    obtain ⟨i, g5, c5, ps', rfl, hi, rfl, HV, HBW⟩ := hrel
    have hwX := HBW.out.size
    by_cases hlt : i < n
    · have d1 : (i : Int) < (n : Int) := by omega
      have hir : i < xs.length := by rw [HN.out]; exact hlt
      obtain ⟨ci, cpi, k9, ⟨k0, k1, k2, k3⟩, k6, k7⟩ := (HR.out.below HBW.out).2 i hir
      have HX : Hid (xs.take (i + 1) = xs.take i ++ [xs[i]]) := hid (by rw [List.take_add_one, List.getElem?_eq_getElem hir]; rfl)
      have hil : (xs.take i).length = i := by rw [List.length_take]; omega
      have HIL := hid hil
      obtain ⟨r, hr⟩ : ∃ r, r = xs[i] := ⟨_, rfl⟩
      rw [← hr] at k0 k1 k2 k3 k6 k7 HX
      clear hr hil
      obtain ⟨id, gn, kd, ps⟩ := r
      simp only at k0 k1 k2 k3 k6 k7
      have hbx : Below wr.heap.size wr (wr.alloc (.cells #[.int .i64 id, .bool gn, .int .i64 kd, .slice (some ⟨ci, 0, none⟩) ps.length cpi] 73)) := balloc (Below.refl _ _) _
      have HC1 := hid (spec_copyG kd ci 0 cpi ps _ k6 (k7.below hbx) (Nat.lt_of_lt_of_le k9 hbx.size))
      unfold CP at HC1
      clear k7
      go_upto_region 6 with fail
      have gx := new_alloc wr wr.heap.size (.cells #[.int .i64 id, .bool gn, .int .i64 kd, .slice (some ⟨ci, 0, none⟩) ps.length cpi] 73) rfl
      have HI1 := hid (HV.out.below hbx)
      have HB1 := hid (btrans HBW.out hbx)
      have hs1 : wr.heap.size < (wr.alloc (.cells #[.int .i64 id, .bool gn, .int .i64 kd, .slice (some ⟨ci, 0, none⟩) ps.length cpi] 73)).heap.size := by simp
      clear k0 k1 k2 k3 hbx HV
      generalize wr.alloc (.cells #[.int .i64 id, .bool gn, .int .i64 kd, .slice (some ⟨ci, 0, none⟩) ps.length cpi] 73) = W1 at *
      generalize wr.heap.size = Xh at *
      obtain ⟨⟨x0, x1, x2, x3⟩, _⟩ := cellk4 gx
      go_wp2_with fail
      refine HC1.out.mono ?_
      rintro e y ⟨g, cp, rfl, hcp, hgs, ho, hy⟩
      have gy := keepheap2 hy gx
      have hys := hy.size
      have HBy := hid (btrans HB1.out hy)
      have HIy := hid (HI1.out.below hy)
      have hwy := HBy.out.size
      have HO := hid ho
      clear hy ho gx HC1 HI1 HB1 x0 x1 x2 x3
      obtain ⟨⟨x0, x1, x2, x3⟩, y0, y1, y2, y3⟩ := cellk4 gy
      go_upto_region 7 with fail
      have gq := setk4_23 gy (.int .i64 kd) (.slice (some ⟨g, 0, none⟩) ps.length cp)
      have hfar : ∀ b, b ≠ Xh → ((y.setCell ⟨Xh, 2, none⟩ (.int .i64 kd)).setCell ⟨Xh, 3, none⟩ (.slice (some ⟨g, 0, none⟩) ps.length cp)).heap[b]? = y.heap[b]? := fun b hb => by rw [Below.heap_setCell _ _ _ _ (by dsimp only; omega), Below.heap_setCell _ _ _ _ (by dsimp only; omega)]
      have HI3 := hid (HIy.out.frame (w' := (y.setCell ⟨Xh, 2, none⟩ (.int .i64 kd)).setCell ⟨Xh, 3, none⟩ (.slice (some ⟨g, 0, none⟩) ps.length cp)) (fun b h1 h2 => hfar b (by omega)) (by simp))
      have HB3 := hid (bset (bset HBy.out (q := Xh) (k := 2) (by omega) (.int .i64 kd)) (q := Xh) (k := 3) (by omega) (.slice (some ⟨g, 0, none⟩) ps.length cp))
      have HO3 := hid (own_blk HO.out (hfar g (by omega)) (by simp; exact HO.out.1))
      have hs3 : ((y.setCell ⟨Xh, 2, none⟩ (.int .i64 kd)).setCell ⟨Xh, 3, none⟩ (.slice (some ⟨g, 0, none⟩) ps.length cp)).heap.size = y.heap.size := by simp
      have hs3a := Nat.le_of_eq hs3
      have hs3b := Nat.le_of_eq hs3.symm
      have hgy := HO.out.1
      clear hs3 hfar HIy HBy HO gy x0 x1 x2 x3 y0 y1 y2 y3
      generalize (y.setCell ⟨Xh, 2, none⟩ (.int .i64 kd)).setCell ⟨Xh, 3, none⟩ (.slice (some ⟨g, 0, none⟩) ps.length cp) = Y at *
      obtain ⟨⟨x0, x1, x2, x3⟩, _⟩ := cellk4 gq
      have hownZ : Y.ownsRow w.heap.size 73 4 (.slice (some ⟨g5, 0, none⟩) i c5) i (flatK KC ps') := by have := HI3.out.2.1; rw [HIL.out] at this; exact this
      clear gq
      go_wp2_with (at_builtin; (refine wpList_append_lies _ rfl (.tmp 21) (.tmp 23) 46 rfl w.heap.size 73 i0 _ 4 48 Tryz.underlying46 hi0 hz0 hz1 hz2 rfl (by decide) (.slice (some ⟨g5, 0, none⟩) i c5) i (flatK KC ps') rfl (hownZ.alloc _) ⟨Y.heap.size, 0, none⟩ 1 1 [.int .i64 id, .bool gn, .int .i64 kd, .slice (some ⟨g, 0, none⟩) ps.length cp] rfl rfl (World.news_of_block (cs := #[.int .i64 id, .bool gn, .int .i64 kd, .slice (some ⟨g, 0, none⟩) ps.length cp]) (t := 73) (fr := (0, 0)) (heap_alloc_new Y _)) (by simp [Value.oneCell']) (by omega) (by unfold maxLen; omega) (by omega) (by simp; omega) (Y.heap.size + 1) (by simp) ?_; intro gg cq w2 hown2 hgrow hat hlt2))
      have hal2 : Below Y.heap.size Y (Y.alloc (.cells #[.int .i64 id, .bool gn, .int .i64 kd, .slice (some ⟨g, 0, none⟩) ps.length cp] 73)) := balloc (Below.refl _ _) _
      have hsub : KC.sub g (g + 1) (Y.alloc (.cells #[.int .i64 id, .bool gn, .int .i64 kd, .slice (some ⟨g, 0, none⟩) ps.length cp] 73)) (.slice (some ⟨g, 0, none⟩) ps.length cp) (id, gn, kd, ps) := ⟨by have := (HO3.out.below hal2).1; omega, g, cp, rfl, hcp, k6, Nat.le_refl _, by omega, HO3.out.below hal2⟩
      have hsn := LX.snoc (x := (id, gn, kd, ps)) (sv := .slice (some ⟨g, 0, none⟩) ps.length cp) (l := g) (u := g + 1) (g := gg) (cap := cq) (HI3.out.below hal2) (by omega) (by omega) hsub (by rw [HIL.out]; exact hown2) hgrow (by simpa using hat) hlt2
      rw [HIL.out] at hsn
      have hb2 : Below w.heap.size w w2 := Below.grown (balloc HB3.out _) hgrow (by simp; omega) (fun k e => (hownZ.lt k e).1)
      have HSN2 : Hid (LX KC 73 w.heap.size w2.heap.size w2 (.slice (some ⟨gg, 0, none⟩) (i + 1) cq) (xs.take (i + 1)) (ps' ++ [((id, gn, kd, ps), .slice (some ⟨g, 0, none⟩) ps.length cp)])) := hid (by rw [HX.out]; exact hsn)
      have HB2 := hid hb2
      clear hsn hb2 hown2 hgrow hal2 hownZ hsub x0 x1 x2 x3
      go_roundw
      case rel => exact ⟨i + 1, gg, cq, _, by go_num, by omega, rfl, HSN2, HB2⟩
      case measure => simp [intOf]; omega
    · have d1 : (n : Int) ≤ (i : Int) := by omega
      have hin : i = n := by omega
      subst hin
      have HF : Hid (LX KC 73 w.heap.size wr.heap.size wr (.slice (some ⟨g5, 0, none⟩) i c5) xs ps') := hid (by have := HV.out; rw [← HN.out, List.take_length] at this; rw [← HN.out]; exact this)
      clear HV
      go_wp2_with fail
      go_ret
      exact ⟨_, ps', rfl, HF.out, ⟨g5, c5, rfl⟩, HBW.out⟩
end Go.Proofs.YtjhnfbefgjoiiaaGreat
