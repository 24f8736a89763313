/- Texts of stores, joined: Xt, Xu, Xo, Ve2. -/
import Derived.Test.YtigjdlpjibakjaaGreatJ5
import Derived.Test.YtigjdlpjibakjaaGreatJ6
namespace Go.Proofs.YtigjdlpjibakjaaGreat
open Go.RowKit
set_option linter.unusedSimpArgs false
set_option linter.unusedVariables false
theorem RwsS.z {w : World} {B : Nat} {rs : List Rw} (h : RwsS w B rs) : RwsZ w B rs := by
  refine ⟨h.1, fun j hj => ?_⟩
  obtain ⟨c, cp, a0, a1, a2, a3, a4, a5, a6, a7⟩ := h.2 j hj
  exact ⟨c, cp, a0, ⟨a1, a2, a3, a4, a5⟩, a6, a7⟩
theorem RwsZ.s {w : World} {B : Nat} {rs : List Rw} (h : RwsZ w B rs) : RwsS w B rs := by
  refine ⟨h.1, fun j hj => ?_⟩
  obtain ⟨c, cp, a0, ⟨a1, a2, a3, a4, a5⟩, a6, a7⟩ := h.2 j hj
  exact ⟨c, cp, a0, a1, a2, a3, a4, a5, a6, a7⟩
set_option maxRecDepth 100000 in
set_option maxHeartbeats 1000000 in
theorem rowsZ_copied (now : Int) (B cap : Nat) (rs : List Rw) (w : World) (hm : rs.length ≤ 1099511627776) (h : RwsZ w B rs) : Calls Tryz.prog 45 #[.agg #[.int .i64 now, .slice (some ⟨B, 0, none⟩) rs.length cap]] w fun e w' => ∃ g c ps, e = .returned (.agg #[.int .i64 now, .slice (some ⟨g, 0, none⟩) rs.length c]) ∧ LX KR 88 w.heap.size w'.heap.size w' (.slice (some ⟨g, 0, none⟩) rs.length c) rs ps ∧ Below w.heap.size w w' := by
  have HK := hid (fun (W : World) (hb : Below w.heap.size w W) => kept_rw B cap rs W hm (h.below hb))
  clear h
  generalize hn : rs.length = n at *
  have HN := hid hn
  clear hn
  have hB : Below w.heap.size w ((w.alloc (.cells #[.int .i64 now, .slice (some ⟨B, 0, none⟩) n cap] 31)).alloc (.cells #[.int .i64 0, .slice none 0 0] 31)) := balloc (balloc (Below.refl _ _) _) _
  have g0 := old_alloc (o' := .cells #[.int .i64 0, .slice none 0 0] 31) (new_alloc w w.heap.size (.cells #[.int .i64 now, .slice (some ⟨B, 0, none⟩) n cap] 31) rfl)
  have g1 := new_alloc (w.alloc (.cells #[.int .i64 now, .slice (some ⟨B, 0, none⟩) n cap] 31)) (w.heap.size + 1) (.cells #[.int .i64 0, .slice none 0 0] 31) (by simp)
  go_enter Tryz.func45, Tryz.ntmps45
  go_upto_region 1 with fail
  generalize (w.alloc (.cells #[.int .i64 now, .slice (some ⟨B, 0, none⟩) n cap] 31)).alloc (.cells #[.int .i64 0, .slice none 0 0] 31) = W at *
  obtain ⟨d0, d1, _, _⟩ := cell2f g0
  have hWs := lt_of_block g1
  go_wp2_with fail
  refine (HK.out _ hB).mono ?_
  rintro e y ⟨v, xs, rfl, hX, ⟨a, c, rfl⟩, hy⟩
  replace g0 := keepheap2 hy g0
  replace g1 := keepheap2 hy g1
  have HB := hid (btrans hB hy)
  have HX := hid hX
  have hyz := hy.size
  clear hB hy hX HK d0 d1
  obtain ⟨d0, d1, f0, f1⟩ := cell2f g0
  obtain ⟨v0, v1, u0, u1⟩ := cell2f g1
  go_wp2_with fail
  have gF := set2r (set_far (q := w.heap.size) (k := 1) (u := .slice (some ⟨a, 0, none⟩) n c) g1 (by omega)) (.int .i64 now) (.slice (some ⟨a, 0, none⟩) n c)
  have bF := bset (bset (bset HB.out (q := w.heap.size) (k := 1) (Nat.le_refl _) (.slice (some ⟨a, 0, none⟩) n c)) (q := w.heap.size + 1) (k := 0) (by omega) (.int .i64 now)) (q := w.heap.size + 1) (k := 1) (by omega) (.slice (some ⟨a, 0, none⟩) n c)
  have xF := (HX.out.frame (w' := ((y.setCell ⟨w.heap.size, 1, none⟩ (.slice (some ⟨a, 0, none⟩) n c)).setCell ⟨w.heap.size + 1, 0, none⟩ (.int .i64 now)).setCell ⟨w.heap.size + 1, 1, none⟩ (.slice (some ⟨a, 0, none⟩) n c)) (fun b h1 h2 => by rw [Below.heap_setCell _ _ _ _ (by dsimp only; omega), Below.heap_setCell _ _ _ _ (by dsimp only; omega), Below.heap_setCell _ _ _ _ (by dsimp only; omega)]) (by simp)).mono (base' := w.heap.size) (hi' := (((y.setCell ⟨w.heap.size, 1, none⟩ (.slice (some ⟨a, 0, none⟩) n c)).setCell ⟨w.heap.size + 1, 0, none⟩ (.int .i64 now)).setCell ⟨w.heap.size + 1, 1, none⟩ (.slice (some ⟨a, 0, none⟩) n c)).heap.size) (by omega) (by simp) (Nat.le_refl _)
  generalize ((y.setCell ⟨w.heap.size, 1, none⟩ (.slice (some ⟨a, 0, none⟩) n c)).setCell ⟨w.heap.size + 1, 0, none⟩ (.int .i64 now)).setCell ⟨w.heap.size + 1, 1, none⟩ (.slice (some ⟨a, 0, none⟩) n c) = wf at *
  obtain ⟨z0, z1, _, _⟩ := cell2f gF
  exact bodyPost_ret (v := .agg #[.int .i64 now, .slice (some ⟨a, 0, none⟩) n c]) (by simp [results, Tryz.results45, go_sem, z0, z1]) rfl ⟨a, c, xs, rfl, xF, bF⟩
theorem LC.rwsZ {base hi : Nat} {w : World} {g cap : Nat} {xs : List Rw} (h : LC KR base hi w (.slice (some ⟨g, 0, none⟩) xs.length cap) xs) : RwsZ w g xs := by
  obtain ⟨h0, h⟩ := h
  rcases h with ⟨_, e⟩ | ⟨g', cp, ss, lo, up, e, h1, h2, h3, h4, h5, h6⟩
  · cases e
  · cases e
    refine ⟨by omega, fun j hj => ?_⟩
    obtain ⟨⟨b1, _, c, cq, e, b2, b3, b4, b5, b6⟩, a2, a3, a4⟩ := h5 j hj
    have k0 := b1 0 (by decide)
    have k1 := b1 1 (by decide)
    have k2 := b1 2 (by decide)
    have k3 := b1 3 (by decide)
    have k4 := b1 4 (by decide)
    simp only [KR, e] at k0 k1 k2 k3 k4
    exact ⟨c, cq, b6.1, ⟨k0, k1, k2, k3, k4⟩, b3, b6.pts⟩
/-- A store in memory of its own: the rows from b1 on below u1, the transactions from b2 on below u2. -/
def StX (b1 u1 b2 u2 : Nat) (w : World) (a ta : Option Addr) (cap tcap : Nat) (rs : List Rw) (ts : List Tx) : Prop := LC KR b1 u1 w (.slice a rs.length cap) rs ∧ LC KT b2 u2 w (.slice ta ts.length tcap) ts
theorem StX.below {b1 u1 b2 u2 : Nat} {w w' : World} {a ta : Option Addr} {cap tcap : Nat} {rs : List Rw} {ts : List Tx} (h : StX b1 u1 b2 u2 w a ta cap tcap rs ts) (H : Below w.heap.size w w') : StX b1 u1 b2 u2 w' a ta cap tcap rs ts := ⟨h.1.below H, h.2.below H⟩
set_option maxRecDepth 100000 in
set_option maxHeartbeats 1000000 in
theorem store_copied (now : Int) (B D rc tc : Nat) (rs : List Rw) (ts : List Tx) (w : World) (hm : rs.length ≤ 1099511627776) (htm : ts.length ≤ 1099511627776) (hr : RwsZ w B rs) (ht : TxsS w D ts) : Calls Tryz.prog 20 #[.agg #[.int .i64 now, .slice (some ⟨B, 0, none⟩) rs.length rc, .slice (some ⟨D, 0, none⟩) ts.length tc]] w fun e w' => ∃ g c tg tcc mid, e = .returned (.agg #[.int .i64 now, .slice (some ⟨g, 0, none⟩) rs.length c, .slice (some ⟨tg, 0, none⟩) ts.length tcc]) ∧ StX mid w'.heap.size w.heap.size mid w' (some ⟨g, 0, none⟩) (some ⟨tg, 0, none⟩) c tcc rs ts ∧ RwsZ w' g rs ∧ w.heap.size ≤ mid ∧ mid ≤ w'.heap.size ∧ Below w.heap.size w w' := by
  have HK := hid (fun (W : World) (hb : Below w.heap.size w W) => kept_tx D tc ts W htm (ht.below hb))
  have HR := hid (fun (W : World) (hb : Below w.heap.size w W) => rowsZ_copied now B rc rs W hm (hr.below hb))
  clear hr ht
  unfold StX
  generalize hnr : rs.length = nr at *
  generalize hnt : ts.length = nt at *
  have HNR := hid hnr
  have HNT := hid hnt
  clear hnr hnt
  have hB : Below w.heap.size w ((w.alloc (.cells #[.int .i64 now, .slice (some ⟨B, 0, none⟩) nr rc, .slice (some ⟨D, 0, none⟩) nt tc] 34)).alloc (.cells #[.int .i64 0, .slice none 0 0, .slice none 0 0] 34)) := balloc (balloc (Below.refl _ _) _) _
  have g0 := old_alloc (o' := .cells #[.int .i64 0, .slice none 0 0, .slice none 0 0] 34) (new_alloc w w.heap.size (.cells #[.int .i64 now, .slice (some ⟨B, 0, none⟩) nr rc, .slice (some ⟨D, 0, none⟩) nt tc] 34) rfl)
  have g1 := new_alloc (w.alloc (.cells #[.int .i64 now, .slice (some ⟨B, 0, none⟩) nr rc, .slice (some ⟨D, 0, none⟩) nt tc] 34)) (w.heap.size + 1) (.cells #[.int .i64 0, .slice none 0 0, .slice none 0 0] 34) (by simp)
  go_enter Tryz.func20, Tryz.ntmps20
  go_upto_region 1 with fail
  generalize (w.alloc (.cells #[.int .i64 now, .slice (some ⟨B, 0, none⟩) nr rc, .slice (some ⟨D, 0, none⟩) nt tc] 34)).alloc (.cells #[.int .i64 0, .slice none 0 0, .slice none 0 0] 34) = W at *
  obtain ⟨⟨d0, d1, d2⟩, _⟩ := cellk3 g0
  have hWs := lt_of_block g1
  go_wp2_with fail
  refine (HK.out _ hB).mono ?_
  rintro e y ⟨v, px, rfl, hX, ⟨tg, tcc, rfl⟩, hy⟩
  replace g0 := keepheap2 hy g0
  replace g1 := keepheap2 hy g1
  replace hB := btrans hB hy
  have hyz := hy.size
  have HX := hid hX
  clear hy hX HK d0 d1 d2
  obtain ⟨⟨d0, d1, d2⟩, _⟩ := cellk3 g0
  go_wp2_with fail
  refine (HR.out _ hB).mono ?_
  rintro e z ⟨g, c, pr, rfl, hX2, hz⟩
  replace g1 := keepheap2 hz g1
  replace hB := btrans hB hz
  have hzz := hz.size
  have HX1 := hid (HX.out.below hz)
  have HX2 := hid hX2
  clear hz hX2 HR HX g0 d0 d1 d2
  obtain ⟨⟨v0, v1, v2⟩, u0, u1, u2⟩ := cellk3 g1
  have HB := hid hB
  clear hB
  go_wp2_with fail
  have gF := setk3 g1 (.int .i64 now) (.slice (some ⟨g, 0, none⟩) nr c) (.slice (some ⟨tg, 0, none⟩) nt tcc)
  have bF := bset (bset (bset HB.out (q := w.heap.size + 1) (k := 0) (by omega) (.int .i64 now)) (q := w.heap.size + 1) (k := 1) (by omega) (.slice (some ⟨g, 0, none⟩) nr c)) (q := w.heap.size + 1) (k := 2) (by omega) (.slice (some ⟨tg, 0, none⟩) nt tcc)
  have hfar : ∀ b, b ≠ w.heap.size + 1 → (((z.setCell ⟨w.heap.size + 1, 0, none⟩ (.int .i64 now)).setCell ⟨w.heap.size + 1, 1, none⟩ (.slice (some ⟨g, 0, none⟩) nr c)).setCell ⟨w.heap.size + 1, 2, none⟩ (.slice (some ⟨tg, 0, none⟩) nt tcc)).heap[b]? = z.heap[b]? := fun b hb => by rw [Below.heap_setCell _ _ _ _ (by dsimp only; omega), Below.heap_setCell _ _ _ _ (by dsimp only; omega), Below.heap_setCell _ _ _ _ (by dsimp only; omega)]
  have hwz : (((z.setCell ⟨w.heap.size + 1, 0, none⟩ (.int .i64 now)).setCell ⟨w.heap.size + 1, 1, none⟩ (.slice (some ⟨g, 0, none⟩) nr c)).setCell ⟨w.heap.size + 1, 2, none⟩ (.slice (some ⟨tg, 0, none⟩) nt tcc)).heap.size = z.heap.size := by simp only [World.size_setCell]
  generalize (((z.setCell ⟨w.heap.size + 1, 0, none⟩ (.int .i64 now)).setCell ⟨w.heap.size + 1, 1, none⟩ (.slice (some ⟨g, 0, none⟩) nr c)).setCell ⟨w.heap.size + 1, 2, none⟩ (.slice (some ⟨tg, 0, none⟩) nt tcc)) = wf at *
  have x1 := ((HX2.out.frame (w' := wf) (fun b h1 h2 => hfar b (by omega)) (by omega)).mono (hi' := wf.heap.size) (Nat.le_refl _) (by omega) (Nat.le_refl _)).lc
  have x2 := ((HX1.out.frame (w' := wf) (fun b h1 h2 => hfar b (by omega)) (by omega)).mono (base' := w.heap.size) (hi' := y.heap.size) (by omega) (Nat.le_refl _) (by omega)).lc
  have hrz : RwsZ wf g rs := by
    refine LC.rwsZ (cap := c) (base := y.heap.size) (hi := wf.heap.size) ?_
    rw [HNR.out]; exact x1
  obtain ⟨⟨z0, z1, z2⟩, _⟩ := cellk3 gF
  exact bodyPost_ret (v := .agg #[.int .i64 now, .slice (some ⟨g, 0, none⟩) nr c, .slice (some ⟨tg, 0, none⟩) nt tcc]) (by simp [results, Tryz.results20, go_sem, z0, z1, z2]) rfl ⟨g, c, tg, tcc, y.heap.size, rfl, ⟨x1, x2⟩, hrz, by omega, by omega, bF⟩
end Go.Proofs.YtigjdlpjibakjaaGreat
namespace Go.Proofs.YtigjdlpjibakjaaGreat
open Go.RowKit
set_option linter.unusedSimpArgs false
set_option linter.unusedVariables false
theorem own_nilT {w : World} {B : Nat} : w.ownsRow B 46 3 (.slice none 0 0) 0 [] := ⟨by simp, .inl ⟨rfl, rfl⟩⟩
theorem LX.form {α : Type} {K : Kd α} {t : TypeId} {base hi : Nat} {w : World} {v : Value} {xs : List α} {ps : List (α × Value)} (h : LX K t base hi w v xs ps) : ∃ a cap, v = .slice a xs.length cap := by
  obtain ⟨a, cap, e, _⟩ := h.lc.form
  exact ⟨a, cap, e⟩
set_option maxRecDepth 100000 in
set_option maxHeartbeats 4000000 in
theorem spec_copyStore (now : Int) (B D tc : Nat) (rs : List Rw) (ts : List Tx) (w : World) (hm : rs.length ≤ 1099511627776) (htm : ts.length ≤ 1099511627776) (hr : RwsS w B rs) (ht : TxsS w D ts) : Calls Tryz.prog 16 #[.agg #[.int .i64 now, .slice (some ⟨B, 0, none⟩) rs.length rs.length, .slice (some ⟨D, 0, none⟩) ts.length tc]] w fun e w' => ∃ a c ta tcc b1 u1 b2 u2, e = .returned (.agg #[.int .i64 now, .slice a rs.length c, .slice ta ts.length tcc]) ∧ StX b1 u1 b2 u2 w' a ta c tcc rs ts ∧ w.heap.size ≤ b1 ∧ w.heap.size ≤ b2 ∧ Below w.heap.size w w' := by
  obtain ⟨i0, hi0, hz0, hz1, hz2⟩ := info_parts Tryz.infoTx
  have HR := hid (fun (W : World) (hb : Below w.heap.size w W) => spec_copyRows now B rs W hm (hr.below hb))
  have HTS := hid ht
  clear hr ht
  unfold StX
  unfold VR at HR
  generalize hnr : rs.length = nr at *
  have HNR := hid hnr
  obtain ⟨nt, hnt⟩ : ∃ nt, nt = ts.length := ⟨_, rfl⟩
  have HNT := hid hnt.symm
  rw [← hnt] at htm ⊢
  clear hnr hnt
  have hB : Below w.heap.size w ((w.alloc (.cells #[.int .i64 now, .slice (some ⟨B, 0, none⟩) nr nr, .slice (some ⟨D, 0, none⟩) nt tc] 34)).alloc (.cells #[.int .i64 0, .slice none 0 0, .slice none 0 0] 34)) := balloc (balloc (Below.refl _ _) _) _
  have g0 := old_alloc (o' := .cells #[.int .i64 0, .slice none 0 0, .slice none 0 0] 34) (new_alloc w w.heap.size (.cells #[.int .i64 now, .slice (some ⟨B, 0, none⟩) nr nr, .slice (some ⟨D, 0, none⟩) nt tc] 34) rfl)
  have g1 := new_alloc (w.alloc (.cells #[.int .i64 now, .slice (some ⟨B, 0, none⟩) nr nr, .slice (some ⟨D, 0, none⟩) nt tc] 34)) (w.heap.size + 1) (.cells #[.int .i64 0, .slice none 0 0, .slice none 0 0] 34) (by simp)
  have hWs : w.heap.size + 1 < ((w.alloc (.cells #[.int .i64 now, .slice (some ⟨B, 0, none⟩) nr nr, .slice (some ⟨D, 0, none⟩) nt tc] 34)).alloc (.cells #[.int .i64 0, .slice none 0 0, .slice none 0 0] 34)).heap.size := by simp
  go_enter Tryz.func16, Tryz.ntmps16
  go_upto_region 1 with fail
  generalize (w.alloc (.cells #[.int .i64 now, .slice (some ⟨B, 0, none⟩) nr nr, .slice (some ⟨D, 0, none⟩) nt tc] 34)).alloc (.cells #[.int .i64 0, .slice none 0 0, .slice none 0 0] 34) = W at *
  obtain ⟨⟨d0, d1, d2⟩, _⟩ := cellk3 g0
  go_wp2_with fail
  refine (HR.out _ hB).mono ?_
  rintro e y ⟨a, c, pr, rfl, hX, hy⟩
  replace g0 := keepheap2 hy g0
  replace g1 := keepheap2 hy g1
  replace hB := btrans hB hy
  have hyz := hy.size
  have HX := hid hX.lc
  clear hy hX HR d0 d1 d2
  go_upto_region 2 with fail
  have hal : Below y.heap.size y (y.alloc (.cells #[.int .i64 now, .slice a nr c, .slice none 0 0] 34)) := balloc (Below.refl _ _) _
  have g2 := new_alloc y y.heap.size (.cells #[.int .i64 now, .slice a nr c, .slice none 0 0] 34) rfl
  replace g0 := keepheap2 hal g0
  replace g1 := keepheap2 hal g1
  have HX1 := hid (HX.out.below hal)
  have HB1 := hid (btrans hB hal)
  have hyq : y.heap.size < (y.alloc (.cells #[.int .i64 now, .slice a nr c, .slice none 0 0] 34)).heap.size := by simp
  clear hal hB HX
  generalize y.alloc (.cells #[.int .i64 now, .slice a nr c, .slice none 0 0] 34) = Y0 at *
  generalize W.heap.size = Wz at *
  generalize y.heap.size = Q at *
  have HX0 := hid (LX.nil (K := KT) (t := 46) (base := Q + 1) (hi := Y0.heap.size) (own_nilT (w := Y0)) (fun g e => by cases e) (Nat.le_refl _))
  have hBz := HB1.out.size
  go_wp2_with fail
  go_loopw [4] (fun ti wr => ∃ i : Nat, ∃ v : Value, ∃ ps' : List (Tx × Value), ti = .int .i64 i ∧ i ≤ nt ∧ Hid (LX KT 46 (Q + 1) wr.heap.size wr v (ts.take i) ps') ∧ Hid (wr.heap[w.heap.size]? = some (.cells #[.int .i64 now, .slice (some ⟨B, 0, none⟩) nr nr, .slice (some ⟨D, 0, none⟩) nt tc] 34 (0, 0))) ∧ Hid (wr.heap[w.heap.size + 1]? = some (.cells #[.int .i64 0, .slice none 0 0, .slice none 0 0] 34 (0, 0))) ∧ Hid (wr.heap[Q]? = some (.cells #[.int .i64 now, .slice a nr c, v] 34 (0, 0))) ∧ Hid (LC KR Wz Q wr (.slice a nr c) rs) ∧ Hid (Q < wr.heap.size) ∧ Hid (Below w.heap.size w wr)) (fun ti _ => nt - (intOf ti).toNat)
  case atStart => exact ⟨0, _, [], rfl, Nat.zero_le _, HX0, hid g0, hid g1, hid g2, HX1, hid (by omega), HB1⟩
  case round =>
    clear HX0 g0 g1 g2 HX1 HB1 hBz
    obtain ⟨i, v, ps', rfl, hi, HV, G0, G1, G2, HXR, HS, HBW⟩ := hrel
    obtain ⟨⟨d0, d1, d2⟩, _⟩ := cellk3 G0.out
    have hws := HS.out
    by_cases hlt : i < nt
    · have c1 : (i : Int) < (nt : Int) := by omega
      have hir : i < ts.length := by rw [HNT.out]; exact hlt
      obtain ⟨ci, cpi, k9, ⟨k0, k1, k2⟩, k6, k7⟩ := (HTS.out.below HBW.out).2 i hir
      have HTK : Hid (ts.take (i + 1) = ts.take i ++ [ts[i]]) := hid (by rw [List.take_add_one, List.getElem?_eq_getElem hir]; rfl)
      have HIL : Hid ((ts.take i).length = i) := hid (by rw [List.length_take]; omega)
      obtain ⟨r, hr⟩ : ∃ r, r = ts[i] := ⟨_, rfl⟩
      rw [← hr] at k0 k1 k2 k6 k7 HTK
      clear hr
      obtain ⟨st, op, cs⟩ := r
      simp only at k0 k1 k2 k6 k7
      have hbx : Below wr.heap.size wr (wr.alloc (.cells #[.int .i64 st, .bool op, .slice (some ⟨ci, 0, none⟩) cs.length cpi] 46)) := balloc (Below.refl _ _) _
      have HC1 := hid (spec_copyChs ci cpi cs _ k6 (k7.below hbx))
      clear k7
      go_upto_region 6 with fail
      have gx := new_alloc wr wr.heap.size (.cells #[.int .i64 st, .bool op, .slice (some ⟨ci, 0, none⟩) cs.length cpi] 46) rfl
      have HV1 := hid (HV.out.below hbx)
      have HG0 := hid (keepheap2 hbx G0.out)
      have HG1 := hid (keepheap2 hbx G1.out)
      have HG2 := hid (keepheap2 hbx G2.out)
      have HXR1 := hid (HXR.out.below hbx)
      have HB1 := hid (btrans HBW.out hbx)
      have hs1 : wr.heap.size < (wr.alloc (.cells #[.int .i64 st, .bool op, .slice (some ⟨ci, 0, none⟩) cs.length cpi] 46)).heap.size := by simp
      clear k0 k1 k2 d0 d1 d2 hbx HV G0 G1 G2 HXR
      generalize wr.alloc (.cells #[.int .i64 st, .bool op, .slice (some ⟨ci, 0, none⟩) cs.length cpi] 46) = W1 at *
      generalize wr.heap.size = X at *
      obtain ⟨⟨x0, x1, x2⟩, _⟩ := cellk3 gx
      go_wp2_with fail
      refine HC1.out.mono ?_
      rintro e y ⟨sv, px, rfl, hXc, ⟨g, cp, rfl⟩, hy⟩
      have gy := keepheap2 hy gx
      have hys := hy.size
      have HV2 := hid (HV1.out.below hy)
      have HG0' := hid (keepheap2 hy HG0.out)
      have HG1' := hid (keepheap2 hy HG1.out)
      have HG2' := hid (keepheap2 hy HG2.out)
      have HXR2 := hid (HXR1.out.below hy)
      have HBy := hid (btrans HB1.out hy)
      have hwy := HBy.out.size
      have HO := hid hXc.lc
      clear hy hXc gx HC1 HV1 HG0 HG1 HG2 HXR1 HB1 x0 x1 x2
      obtain ⟨⟨x0, x1, x2⟩, y0, y1, y2⟩ := cellk3 gy
      go_upto_region 7 with fail
      have gq := setk3_2 gy (.slice (some ⟨g, 0, none⟩) cs.length cp)
      have hfar : ∀ b, b ≠ X → (y.setCell ⟨X, 2, none⟩ (.slice (some ⟨g, 0, none⟩) cs.length cp)).heap[b]? = y.heap[b]? := fun b hb => by rw [Below.heap_setCell _ _ _ _ (by dsimp only; omega)]
      have HV3 := hid (HV2.out.frame (w' := y.setCell ⟨X, 2, none⟩ (.slice (some ⟨g, 0, none⟩) cs.length cp)) (fun b h1 h2 => hfar b (by omega)) (by simp))
      have HG0 := hid ((hfar w.heap.size (by omega)).trans HG0'.out)
      have HG1 := hid ((hfar (w.heap.size + 1) (by omega)).trans HG1'.out)
      have g2 := (hfar Q (by omega)).trans HG2'.out
      have HXR3 := hid (HXR2.out.frame (w' := y.setCell ⟨X, 2, none⟩ (.slice (some ⟨g, 0, none⟩) cs.length cp)) (fun b h1 h2 => hfar b (by omega)) (by simp))
      have HB3 := hid (bset HBy.out (q := X) (k := 2) (by omega) (.slice (some ⟨g, 0, none⟩) cs.length cp))
      have HO3 := hid (HO.out.frame (w' := y.setCell ⟨X, 2, none⟩ (.slice (some ⟨g, 0, none⟩) cs.length cp)) (fun b h1 h2 => hfar b (by omega)) (by simp))
      have hs3 : (y.setCell ⟨X, 2, none⟩ (.slice (some ⟨g, 0, none⟩) cs.length cp)).heap.size = y.heap.size := by simp
      have hs3a := Nat.le_of_eq hs3
      have hs3b := Nat.le_of_eq hs3.symm
      clear hs3 hfar HV2 HG0' HG1' HG2' HXR2 HBy HO gy x0 x1 x2 y0 y1 y2
      generalize y.setCell ⟨X, 2, none⟩ (.slice (some ⟨g, 0, none⟩) cs.length cp) = Y at *
      generalize W1.heap.size = W1z at *
      generalize y.heap.size = yz at *
      obtain ⟨⟨x0, x1, x2⟩, _⟩ := cellk3 gq
      obtain ⟨⟨v0, v1, v2⟩, _⟩ := cellk3 g2
      have hownZ : Y.ownsRow (Q + 1) 46 3 v i (flatK KT ps') := by have := HV3.out.2.1; rw [HIL.out] at this; exact this
      have hal2 : Below Y.heap.size Y (Y.alloc (.cells #[.int .i64 st, .bool op, .slice (some ⟨g, 0, none⟩) cs.length cp] 46)) := balloc (Below.refl _ _) _
      have HGE := hid (keepheap2 hal2 g2)
      have hvb : v.ownBlock ≠ some Q := fun e => by have := (hownZ.lt _ e).1; omega
      clear gq g2
      go_wp2_with (at_builtin; (refine wpList_append_lies _ rfl (.tmp 27) (.tmp 29) 32 rfl (Q + 1) 46 i0 _ 3 40 Tryz.underlying32 hi0 hz0 hz1 hz2 rfl (by decide) v i (flatK KT ps') rfl (hownZ.alloc _) ⟨Y.heap.size, 0, none⟩ 1 1 [.int .i64 st, .bool op, .slice (some ⟨g, 0, none⟩) cs.length cp] rfl rfl (World.news_of_block (cs := #[.int .i64 st, .bool op, .slice (some ⟨g, 0, none⟩) cs.length cp]) (t := 46) (fr := (0, 0)) (heap_alloc_new Y _)) (by simp [Value.oneCell']) (by omega) (by unfold maxLen; omega) (by omega) (by simp; omega) (Y.heap.size + 1) (by simp) ?_; intro gg cq w2 hown2 hgrow hat hlt2; have g2 := (hgrow.block Q (lt_of_block HGE.out) (fun e => hvb e.symm)).trans HGE.out; obtain ⟨⟨t0, t1, t2⟩, s0, s1, s2⟩ := cellk3 g2))
      have hsn := LX.snoc (K := KT) (x := (st, op, cs)) (sv := .slice (some ⟨g, 0, none⟩) cs.length cp) (l := W1z) (u := yz) (g := gg) (cap := cq) (HV3.out.below hal2) (by omega) (by omega) (HO3.out.below hal2) (by rw [HIL.out]; exact hown2) hgrow (by simpa using hat) hlt2
      rw [HIL.out] at hsn
      have hb2 : Below w.heap.size w w2 := Below.grown (balloc HB3.out _) hgrow (by simp; omega) (fun k e => by have := (hownZ.lt k e).1; omega)
      have hw2 := hgrow.size
      have hbk : ∀ b, b ≤ Q → w2.heap[b]? = Y.heap[b]? := fun b hb => (hgrow.block b (by simp; omega) (fun e => by have := (hownZ.lt _ e.symm).1; omega)).trans (hal2.block b (by omega))
      have hfar : ∀ b, b ≠ Q → (w2.setCell ⟨Q, 2, none⟩ (.slice (some ⟨gg, 0, none⟩) (i + 1) cq)).heap[b]? = w2.heap[b]? := fun b hb => by rw [Below.heap_setCell _ _ _ _ (by dsimp only; omega)]
      have HF1 := hid ((hsn.frame (w' := w2.setCell ⟨Q, 2, none⟩ (.slice (some ⟨gg, 0, none⟩) (i + 1) cq)) (fun b h1 h2 => hfar b (by omega)) (by simp)).mono (hi' := (w2.setCell ⟨Q, 2, none⟩ (.slice (some ⟨gg, 0, none⟩) (i + 1) cq)).heap.size) (Nat.le_refl _) (by simp) (Nat.le_refl _))
      rw [← HTK.out] at HF1
      have HF2 := hid (((hfar w.heap.size (by omega)).trans (hbk _ (by omega))).trans HG0.out)
      have HF3 := hid (((hfar (w.heap.size + 1) (by omega)).trans (hbk _ (by omega))).trans HG1.out)
      have HF4 : Hid ((w2.setCell ⟨Q, 2, none⟩ (.slice (some ⟨gg, 0, none⟩) (i + 1) cq)).heap[Q]? = some (.cells #[.int .i64 now, .slice a nr c, .slice (some ⟨gg, 0, none⟩) (i + 1) cq] 34 (0, 0))) := hid (setk3_2 g2 _)
      have HF7 := hid (HXR3.out.frame (w' := w2.setCell ⟨Q, 2, none⟩ (.slice (some ⟨gg, 0, none⟩) (i + 1) cq)) (fun b h1 h2 => (hfar b (by omega)).trans (hbk b (by omega))) (by simp at hw2 ⊢; omega))
      have HF5 : Hid (Q < (w2.setCell ⟨Q, 2, none⟩ (.slice (some ⟨gg, 0, none⟩) (i + 1) cq)).heap.size) := hid (by simp at hw2 ⊢; omega)
      have HF6 := hid (bset hb2 (q := Q) (k := 2) (by omega) (.slice (some ⟨gg, 0, none⟩) (i + 1) cq))
      clear hsn hb2 hown2 hgrow hal2 hownZ hfar hbk g2 t0 t1 t2 s0 s1 s2 HGE
      go_roundw
      case rel => exact ⟨i + 1, _, _, by go_num, by omega, HF1, HF2, HF3, HF4, HF7, HF5, HF6⟩
      case measure => simp [intOf]; omega
    · have c1 : (nt : Int) ≤ (i : Int) := by omega
      have hin : i = ts.length := by have := HNT.out; omega
      have hX : LX KT 46 (Q + 1) wr.heap.size wr v ts ps' := by have := HV.out; rw [hin, List.take_length] at this; exact this
      obtain ⟨ta, tcc, rfl⟩ := hX.form
      rw [HNT.out] at hX G2
      have HX := hid hX
      clear hin HV hX
      obtain ⟨⟨v0, v1, v2⟩, s0, s1, s2⟩ := cellk3 G1.out
      obtain ⟨⟨t0, t1, t2⟩, _⟩ := cellk3 G2.out
      go_wp2_with fail
      have gF := setk3 G1.out (.int .i64 now) (.slice a nr c) (.slice ta nt tcc)
      have bF := bset (bset (bset HBW.out (q := w.heap.size + 1) (k := 0) (by omega) (.int .i64 now)) (q := w.heap.size + 1) (k := 1) (by omega) (.slice a nr c)) (q := w.heap.size + 1) (k := 2) (by omega) (.slice ta nt tcc)
      have hfar : ∀ b, b ≠ w.heap.size + 1 → (((wr.setCell ⟨w.heap.size + 1, 0, none⟩ (.int .i64 now)).setCell ⟨w.heap.size + 1, 1, none⟩ (.slice a nr c)).setCell ⟨w.heap.size + 1, 2, none⟩ (.slice ta nt tcc)).heap[b]? = wr.heap[b]? := fun b hb => by rw [Below.heap_setCell _ _ _ _ (by dsimp only; omega), Below.heap_setCell _ _ _ _ (by dsimp only; omega), Below.heap_setCell _ _ _ _ (by dsimp only; omega)]
      have x1 := HXR.out.frame (w' := ((wr.setCell ⟨w.heap.size + 1, 0, none⟩ (.int .i64 now)).setCell ⟨w.heap.size + 1, 1, none⟩ (.slice a nr c)).setCell ⟨w.heap.size + 1, 2, none⟩ (.slice ta nt tcc)) (fun b h1 h2 => hfar b (by omega)) (by simp)
      have x2 := (HX.out.frame (w' := ((wr.setCell ⟨w.heap.size + 1, 0, none⟩ (.int .i64 now)).setCell ⟨w.heap.size + 1, 1, none⟩ (.slice a nr c)).setCell ⟨w.heap.size + 1, 2, none⟩ (.slice ta nt tcc)) (fun b h1 h2 => hfar b (by omega)) (by simp)).lc
      generalize ((wr.setCell ⟨w.heap.size + 1, 0, none⟩ (.int .i64 now)).setCell ⟨w.heap.size + 1, 1, none⟩ (.slice a nr c)).setCell ⟨w.heap.size + 1, 2, none⟩ (.slice ta nt tcc) = wf at *
      obtain ⟨⟨z0, z1, z2⟩, _⟩ := cellk3 gF
      exact bodyPost_ret (v := .agg #[.int .i64 now, .slice a nr c, .slice ta nt tcc]) (by simp [results, Tryz.results16, go_sem, z0, z1, z2]) rfl ⟨a, c, ta, tcc, Wz, Q, Q + 1, wr.heap.size, rfl, ⟨x1, x2⟩, by omega, by omega, bF⟩
end Go.Proofs.YtigjdlpjibakjaaGreat
namespace Go.Proofs.YtigjdlpjibakjaaGreat
open Go.RowKit
set_option linter.unusedSimpArgs false
set_option linter.unusedVariables false
def sts (ts : List Tx) : List Int := (ts.filter (fun t => t.2.1)).map (fun t => t.1)
theorem sts_next {ts : List Tx} {i : Nat} (h : i < ts.length) : sts (ts.take (i + 1)) = if ts[i].2.1 = true then sts (ts.take i) ++ [ts[i].1] else sts (ts.take i) := by
  unfold sts
  rw [List.take_add_one, List.getElem?_eq_getElem h]
  simp only [Option.toList, List.filter_append, List.map_append]
  cases hb : ts[i].2.1
  · simp [hb]
  · simp [hb]
theorem sts_len (ts : List Tx) : (sts ts).length ≤ ts.length := by
  unfold sts
  rw [List.length_map]
  exact List.length_filter_le _ _
def oldI (now : Int) (ts : List Tx) : Int := match sts ts with
  | [] => now
  | x :: r => r.foldl min x
def oldS (now : Int) (ts : List Tx) : Int := ts.foldl (fun m t => if t.2.1 = true ∧ t.1 < m then t.1 else m) now
theorem oldS_sts (ts : List Tx) : ∀ now, oldS now ts = (sts ts).foldl min now := by
  induction ts with
  | nil => intro now; rfl
  | cons t r ih =>
    intro now
    show oldS (if t.2.1 = true ∧ t.1 < now then t.1 else now) r = _
    rw [ih]
    cases hb : t.2.1
    · have : sts (t :: r) = sts r := by unfold sts; simp [hb]
      rw [this]; simp
    · have : sts (t :: r) = t.1 :: sts r := by unfold sts; simp [hb]
      rw [this, List.foldl_cons]
      congr 1
      by_cases h : t.1 < now
      · rw [if_pos ⟨rfl, h⟩]; omega
      · rw [if_neg (fun q => h q.2)]; omega
theorem old_same {now : Int} {ts : List Tx} (h : ∀ t ∈ ts, t.1 ≤ now) : oldI now ts = oldS now ts := by
  rw [oldS_sts]
  unfold oldI
  cases hs : sts ts with
  | nil => rfl
  | cons x r =>
    have hx : x ≤ now := by
      have : x ∈ sts ts := by rw [hs]; exact List.mem_cons_self
      unfold sts at this
      rw [List.mem_map] at this
      obtain ⟨t, ht, rfl⟩ := this
      exact h t (List.mem_filter.1 ht).1
    show r.foldl min x = (x :: r).foldl min now
    rw [List.foldl_cons, show min now x = x by omega]
theorem Tryz.infoIX : (Tryz.prog.info? 3).map (fun i => (i.zero, i.size, i.bytes)) = some (some (.int .i64 0), 1, 8) := by kernel_rfl
theorem make_intX (n : Nat) (hn : n ≤ 1099511627776) (w : World) : (Instr.makeSlice 92 (.int .i64 0) (.int .i64 n)).run Tryz.prog w = .ok (.slice (some ⟨w.heap.size, 0, none⟩) 0 n) (w.alloc (.cells (madeCells #[.int .i64 0] n) 3)) := by
  obtain ⟨i0, hi, hz0, hz1, hz2⟩ := info_parts Tryz.infoIX
  have := run_make (P := Tryz.prog) w 92 3 i0 _ Tryz.underlying92 hi hz0 .i64 .i64 0 n (by omega) (by omega) (by rw [hz2]; omega) (by omega)
  rw [hz1, Nat.mul_one] at this
  exact this
theorem old_1 (st : Int) (op : Bool) (a : Option Addr) (n cap : Nat) (w : World) : Calls Tryz.prog 65 #[.agg #[.int .i64 st, .bool op, .slice a n cap]] w fun e w' => e = .returned (.tuple #[.int .i64 st, .bool op]) ∧ Below w.heap.size w w' := by
  go_enter Tryz.func65, Tryz.ntmps65
  go_wp2_with fail
  go_quiet (fail)
  go_wp2_with fail
  exact bodyPost_ret (v := .tuple #[.int .i64 st, .bool op]) (by simp [results, Tryz.results65, go_sem]) rfl ⟨rfl, btrans (balloc (Below.refl _ _) _) ⟨rfl, rfl, rfl, Nat.le_refl _, fun _ _ => rfl⟩⟩
set_option maxRecDepth 100000 in
set_option maxHeartbeats 2000000 in
theorem kept_st {N : Nat → Prop} (a : Option Addr) (cap : Nat) (ts : List Tx) (w : World) (hm : ts.length ≤ 1099511627776) (h : Txs N 1099511627776 w a ts) : Calls Tryz.prog 64 #[.slice a ts.length cap, .func (.func 65) #[] #[]] w fun e w' => ∃ g c, e = .returned (.slice (some ⟨g, 0, none⟩) (sts ts).length c) ∧ w'.ownsRow w.heap.size 3 1 (.slice (some ⟨g, 0, none⟩) (sts ts).length c) (sts ts).length ((sts ts).map (Value.int .i64)) ∧ Below w.heap.size w w' := by
  obtain ⟨i0, hi0, hz0, hz1, hz2⟩ := info_parts Tryz.infoIX
  have HR := hid h
  clear h
  have hmk := make_intX ts.length hm
  obtain ⟨n, hn⟩ : ∃ n, n = ts.length := ⟨_, rfl⟩
  have HN := hid hn.symm
  rw [← hn] at hm hmk ⊢
  clear hn
  have hB0 : Below w.heap.size w (w.alloc (.cells (madeCells #[.int .i64 0] n) 3)) := balloc (Below.refl _ _) _
  have HI : Hid ((w.alloc (.cells (madeCells #[.int .i64 0] n) 3)).ownsRow w.heap.size 3 1 (.slice (some ⟨w.heap.size, 0, none⟩) 0 n) 0 (([] : List Int).map (Value.int .i64))) := hid (by
    have := World.ownsRow_made (base := w.heap.size) (e := 3) (size := 1) w (madeCells #[.int .i64 0] n) n (Nat.le_refl _) (by unfold maxLen; omega) (by rw [size_madeCells, Nat.mul_one])
    simpa using this)
  go_enter Tryz.func64, Tryz.ntmps64
  go_upto_region 2 with fail
  generalize w.alloc (.cells (madeCells #[.int .i64 0] n) 3) = W0 at *
  clear hmk
  go_wp2_with fail
  go_loopw [5, 15] (fun tv ti wr => ∃ i g5 c5 : Nat, ∃ zs : List Int, ti = .int .i64 i ∧ i ≤ n ∧ tv = .slice (some ⟨g5, 0, none⟩) zs.length c5 ∧ zs.length ≤ i ∧ Hid (zs = sts (ts.take i)) ∧ Hid (wr.ownsRow w.heap.size 3 1 (.slice (some ⟨g5, 0, none⟩) zs.length c5) zs.length (zs.map (Value.int .i64))) ∧ Hid (Below w.heap.size w wr)) (fun _ ti _ => n - (intOf ti).toNat)
  case atStart => exact ⟨0, w.heap.size, n, [], rfl, Nat.zero_le _, rfl, Nat.zero_le _, hid rfl, HI, hid hB0⟩
  case round =>
    clear HI hB0
    obtain ⟨i, g5, c5, zs, rfl, hi, rfl, hzi, HZ, HV, HBW⟩ := hrel
    have hwX := HBW.out.size
    by_cases hlt : i < n
    · have d1 : (i : Int) < (n : Int) := by omega
      have hir : i < ts.length := by rw [HN.out]; exact hlt
      obtain ⟨b, o, rfl, hbs, a', cap', k0, k1, k2, _, _, _, _⟩ := (HR.out.below HBW.out).at i hir
      have HX := hid (sts_next hir)
      rw [← HZ.out] at HX
      generalize ts[i].1 = st at *
      generalize ts[i].2.1 = op at *
      generalize ts[i].2.2.length = np at *
      have hbx : Below wr.heap.size wr (wr.alloc (.cells #[.int .i64 st, .bool op, .slice a' np cap'] 46)) := balloc (Below.refl _ _) _
      go_upto_region 5 with fail
      have gx := new_alloc wr wr.heap.size (.cells #[.int .i64 st, .bool op, .slice a' np cap'] 46) rfl
      have HV1 := hid (HV.out.alloc (.cells #[.int .i64 st, .bool op, .slice a' np cap'] 46))
      have HB1 := hid (btrans HBW.out hbx)
      clear k0 k1 k2 hbx HV
      generalize wr.alloc (.cells #[.int .i64 st, .bool op, .slice a' np cap'] 46) = W1 at *
      obtain ⟨⟨x0, x1, x2⟩, _⟩ := cellk3 gx
      clear gx
      go_wp2_with fail
      refine (old_1 st op a' np cap' _).mono ?_
      rintro e z ⟨rfl, hz⟩
      have HBz := hid (btrans HB1.out hz)
      have HVz := hid (own_frame HV1.out (fun g e => hz.block g (HV1.out.lt g e).2))
      clear hz x0 x1 x2 HV1 HB1
      cases op
      · have HZ2 : Hid (zs = sts (ts.take (i + 1))) := hid (by rw [HX.out]; simp)
        go_wp2_with fail
        go_roundw
        case rel => exact ⟨i + 1, g5, c5, zs, by go_num, by omega, rfl, by omega, HZ2, HVz, HBz⟩
        case measure => simp [intOf]; omega
      · have HZ2 : Hid (zs ++ [st] = sts (ts.take (i + 1))) := hid (by rw [HX.out]; simp)
        have hown := HVz.out
        have hzw := HBz.out.size
        clear HX HVz HZ
        go_wp2_with (at_builtin; refine wpList_append_lies _ rfl (.tmp 26) (.tmp 28) 92 rfl w.heap.size 3 i0 _ 1 8 Tryz.underlying92 hi0 hz0 hz1 hz2 rfl (by decide) _ _ _ rfl (hown.alloc _) ⟨z.heap.size, 0, none⟩ 1 1 [.int .i64 st] rfl rfl (World.news_of_block (cs := #[.int .i64 st]) (t := 3) (fr := (0, 0)) (heap_alloc_new z _)) (by simp [Value.oneCell']) (by omega) (by unfold maxLen; omega) (by omega) (by simp; omega) (z.heap.size + 1) (by simp) ?_; intro gg cq w2 hown2 hgrow hat hlt2)
        have HO2 : Hid (w2.ownsRow w.heap.size 3 1 (.slice (some ⟨gg, 0, none⟩) (zs ++ [st]).length cq) (zs ++ [st]).length ((zs ++ [st]).map (Value.int .i64))) := hid (by simpa using hown2)
        have HB2 := hid (Below.grown (balloc HBz.out (.cells #[.int .i64 st] 3)) hgrow (by simp; omega) (fun k e => (hown.lt k e).1))
        have hln : zs.length + 1 = (zs ++ [st]).length := by simp
        clear hown2 hgrow hown
        go_roundw
        case rel => exact ⟨i + 1, gg, cq, zs ++ [st], by go_num, by omega, by rw [← hln], by rw [← hln]; omega, HZ2, HO2, HB2⟩
        case measure => simp [intOf]; omega
    · have d1 : (n : Int) ≤ (i : Int) := by omega
      have hin : i = ts.length := by have := HN.out; omega
      have hzs : zs = sts ts := by rw [HZ.out, hin, List.take_length]
      subst hzs
      clear hin
      go_wp2_with fail
      go_ret
      exact ⟨g5, c5, rfl, HV.out, HBW.out⟩
set_option maxRecDepth 100000 in
set_option maxHeartbeats 1000000 in
theorem min_ints (B g c : Nat) (x : Int) (r : List Int) (w : World) (hm : r.length ≤ 1099511627776) (h : w.ownsRow B 3 1 (.slice (some ⟨g, 0, none⟩) (r.length + 1) c) (r.length + 1) ((x :: r).map (Value.int .i64))) : Calls Tryz.prog 66 #[.slice (some ⟨g, 0, none⟩) (r.length + 1) c] w fun e w' => e = .returned (.int .i64 (r.foldl min x)) ∧ w' = w := by
  have HC : Hid (∀ j (hj : j < (x :: r).length), w.cell? ⟨g, j, none⟩ = some (.int .i64 (x :: r)[j])) := hid (fun j hj => by
    rw [World.ownsRow.cellAt h j (by simp at hj; omega), List.getElem?_map, List.getElem?_eq_getElem hj]; rfl)
  clear h
  have c0 : w.cell? ⟨g, 0, none⟩ = some (.int .i64 x) := HC.out 0 (by simp)
  have h0 : ¬ ((r.length : Int) + 1 < 1) := by omega
  go_enter Tryz.func66, Tryz.ntmps66
  go_wp2_with fail
  go_loopw [3, 4] (fun tm ti wr => ∃ j : Nat, ∃ m : Int, ti = .int .i64 ((j : Int) + 1) ∧ tm = .int .i64 m ∧ j ≤ r.length ∧ Hid (m = (r.take j).foldl min x) ∧ wr = w) (fun _ ti _ => r.length + 1 - (intOf ti).toNat)
  case atStart => exact ⟨0, x, by simp, rfl, Nat.zero_le _, hid rfl, rfl⟩
  case round =>
    obtain ⟨j, m, rfl, rfl, hj, HM, hw⟩ := hrel
    subst hw
    by_cases hlt : j < r.length
    · have c1 : (j : Int) + 1 < (r.length : Int) + 1 := by omega
      have cj : wr.cell? ⟨g, j + 1, none⟩ = some (.int .i64 r[j]) := HC.out (j + 1) (by simp; omega)
      have HN : Hid ((r.take (j + 1)).foldl min x = min m r[j]) := hid (by rw [List.take_add_one, List.getElem?_eq_getElem hlt, List.foldl_append, HM.out]; rfl)
      generalize r[j] = q at *
      have HN2 : Hid (min m q = (r.take (j + 1)).foldl min x) := hid HN.out.symm
      clear HN HM
      go_wp2_with fail
      go_roundw
      case rel => exact ⟨j + 1, _, by go_num, rfl, by omega, HN2, by first | rfl | trivial⟩
      case measure => simp [intOf]; omega
    · obtain rfl : j = r.length := by omega
      rw [List.take_length] at HM
      have c1 : ¬ ((r.length : Int) + 1 < (r.length : Int) + 1) := by omega
      go_wp2_with fail
      go_ret
      exact ⟨by first | (rw [HM.out]; done) | (rw [HM.out]; rfl), rfl⟩
set_option maxRecDepth 100000 in
set_option maxHeartbeats 1000000 in
theorem impl_Oldest {N : Nat → Prop} (now : Int) (a ta : Option Addr) (nr cap tcap : Nat) (ts : List Tx) (w : World) (htm : ts.length ≤ 1099511627776) (h : Txs N 1099511627776 w ta ts) : Calls Tryz.prog 33 #[.agg #[.int .i64 now, .slice a nr cap, .slice ta ts.length tcap]] w fun e w' => e = .returned (.int .i64 (oldI now ts)) ∧ Below w.heap.size w w' := by
  have hB : Below w.heap.size w (w.alloc (.cells #[.int .i64 now, .slice a nr cap, .slice ta ts.length tcap] 34)) := balloc (Below.refl _ _) _
  have HK := hid (kept_st ta tcap ts _ htm (h.below hB))
  have gS := new_alloc w w.heap.size (.cells #[.int .i64 now, .slice a nr cap, .slice ta ts.length tcap] 34) rfl
  have hl := sts_len ts
  clear h
  obtain ⟨ans, hans⟩ : ∃ ans, ans = oldI now ts := ⟨_, rfl⟩
  rw [← hans]
  have HA := hid hans
  unfold oldI at HA
  clear hans
  generalize sts ts = zs at *
  have hzl : zs.length ≤ 1099511627776 := by omega
  clear hl
  generalize ts.length = nt at *
  go_enter Tryz.func33, Tryz.ntmps33
  go_wp2_with fail
  generalize w.alloc (.cells #[.int .i64 now, .slice a nr cap, .slice ta nt tcap] 34) = W at *
  refine HK.out.mono ?_
  rintro e y ⟨g, c, rfl, hown, hy⟩
  replace gS := keepheap2 hy gS
  replace hB := btrans hB hy
  have HO := hid hown
  obtain ⟨⟨x0, x1, x2⟩, _⟩ := cellk3 gS
  clear hy hown HK gS
  cases zs with
  | nil =>
    go_wp2_with fail
    go_ret
    exact ⟨by first | (rw [HA.out]; done) | (rw [HA.out]; rfl), hB⟩
  | cons x r =>
    have hne : (((x :: r).length : Int) == 0) = false := by rw [beq_eq_false_iff_ne]; simp; omega
    have hl2 : (x :: r).length = r.length + 1 := rfl
    have hne2 : ((r.length : Int) + 1 == 0) = false := by rw [beq_eq_false_iff_ne]; omega
    have HM := hid (min_ints W.heap.size g c x r y (by simp at hzl; omega) HO.out)
    go_wp2_with fail
    refine HM.out.mono ?_
    rintro e z ⟨rfl, hz⟩
    replace hz := hz.symm
    subst hz
    go_wp2_with fail
    go_ret
    exact ⟨by first | (rw [HA.out]; done) | (rw [HA.out]; rfl), hB⟩
set_option maxRecDepth 100000 in
set_option maxHeartbeats 2000000 in
theorem spec_Oldest {N : Nat → Prop} (now : Int) (a ta : Option Addr) (nr cap tcap : Nat) (ts : List Tx) (w : World) (htm : ts.length ≤ 1099511627776) (h : Txs N 1099511627776 w ta ts) : Calls Tryz.prog 31 #[.agg #[.int .i64 now, .slice a nr cap, .slice ta ts.length tcap]] w fun e w' => e = .returned (.int .i64 (oldS now ts)) ∧ Below w.heap.size w w' := by
  have hB : Below w.heap.size w (w.alloc (.cells #[.int .i64 now, .slice a nr cap, .slice ta ts.length tcap] 34)) := balloc (Below.refl _ _) _
  have HR := hid (h.below hB)
  have gS := new_alloc w w.heap.size (.cells #[.int .i64 now, .slice a nr cap, .slice ta ts.length tcap] 34) rfl
  clear h
  obtain ⟨n, hn⟩ : ∃ n, n = ts.length := ⟨_, rfl⟩
  have HN := hid hn.symm
  have HF : Hid (∀ q : Int, q = oldS now (ts.take n) → Ending.returned (.int .i64 q) = .returned (.int .i64 (oldS now ts))) := hid (fun q e => by rw [e, hn, List.take_length])
  rw [← hn] at htm hB HR gS ⊢
  clear hn
  go_enter Tryz.func31, Tryz.ntmps31
  go_upto_region 1 with fail
  generalize w.alloc (.cells #[.int .i64 now, .slice a nr cap, .slice ta n tcap] 34) = W at *
  obtain ⟨⟨x0, x1, x2⟩, _⟩ := cellk3 gS
  have X0 := hid x0
  have X2 := hid x2
  clear x1 gS
  go_wp2_with fail
  go_loopw [3, 4] (fun tm ti wr => ∃ j : Nat, ∃ m : Int, ti = .int .i64 j ∧ tm = .int .i64 m ∧ j ≤ n ∧ Hid (m = oldS now (ts.take j)) ∧ wr = W) (fun _ ti _ => n - (intOf ti).toNat)
  case atStart => exact ⟨0, now, rfl, rfl, Nat.zero_le _, hid rfl, rfl⟩
  case round =>
    obtain ⟨j, m, rfl, rfl, hj, HM, hw⟩ := hrel
    subst hw
    by_cases hlt : j < n
    · have c1 : (j : Int) < (n : Int) := by omega
      have hjr : j < ts.length := by rw [HN.out]; exact hlt
      obtain ⟨b, o, rfl, hbs, a', cap', k0, k1, k2, _, _, _, _⟩ := HR.out.at j hjr
      have HX : Hid (oldS now (ts.take (j + 1)) = if ts[j].2.1 = true ∧ ts[j].1 < m then ts[j].1 else m) := hid (by
        have e : ts.take (j + 1) = ts.take j ++ [ts[j]] := by rw [List.take_add_one, List.getElem?_eq_getElem hjr]; rfl
        rw [e, HM.out]
        unfold oldS
        rw [List.foldl_append]
        rfl)
      generalize ts[j].1 = st at *
      generalize ts[j].2.1 = op at *
      cases op
      · have HX2 : Hid (m = oldS now (ts.take (j + 1))) := hid (by rw [HX.out]; simp)
        clear HX
        go_wp2_with fail
        go_roundw
        case rel => exact ⟨j + 1, _, by go_num, rfl, by omega, HX2, by first | rfl | trivial⟩
        case measure => simp [intOf]; omega
      · by_cases hs : st < m
        · have HX2 : Hid (st = oldS now (ts.take (j + 1))) := hid (by rw [HX.out, if_pos ⟨rfl, hs⟩])
          clear HX
          go_wp2_with fail
          go_roundw
          case rel => exact ⟨j + 1, _, by go_num, rfl, by omega, HX2, by first | rfl | trivial⟩
          case measure => simp [intOf]; omega
        · have HX2 : Hid (m = oldS now (ts.take (j + 1))) := hid (by rw [HX.out, if_neg (fun q => hs q.2)])
          clear HX
          go_wp2_with fail
          go_roundw
          case rel => exact ⟨j + 1, _, by go_num, rfl, by omega, HX2, by first | rfl | trivial⟩
          case measure => simp [intOf]; omega
    · obtain rfl : j = n := by omega
      have c1 : (j : Int) ≤ (j : Int) := by omega
      go_wp2_with fail
      go_ret
      exact ⟨HF.out _ HM.out, hB⟩
end Go.Proofs.YtigjdlpjibakjaaGreat
namespace Go.Proofs.YtigjdlpjibakjaaGreat
open Go.RowKit
set_option linter.unusedSimpArgs false
set_option linter.unusedVariables false
set_option maxRecDepth 100000 in
set_option maxHeartbeats 2000000 in
theorem kept_copied2 (B cp0 : Nat) (rs : List Rw) (w : World) (hm : rs.length ≤ 1099511627776) (h : RwsS w B rs) : Calls Tryz.prog 60 #[.slice (some ⟨B, 0, none⟩) rs.length cp0, .func (.func 79) #[] #[]] w fun e w' => ∃ v xs, e = .returned v ∧ RowsX w.heap.size w'.heap.size w' v (rs.filter allb) xs ∧ Below w.heap.size w w' := by
  obtain ⟨i0, hi0, hz0, hz1, hz2⟩ := info_parts Tryz.infoRow
  have HR := hid h
  clear h
  have hmk := make_rows0 rs.length hm
  obtain ⟨n, hn⟩ : ∃ n, n = rs.length := ⟨_, rfl⟩
  have HN := hid hn.symm
  rw [← hn] at hm hmk ⊢
  clear hn
  have hB0 : Below w.heap.size w (w.alloc (.cells (madeCells #[.int .i64 0, .int .i64 0, .int .i64 0, .int .i64 0, .slice none 0 0] (n * 5)) 88)) := balloc (Below.refl _ _) _
  have HI : Hid (RowsX w.heap.size (w.alloc (.cells (madeCells #[.int .i64 0, .int .i64 0, .int .i64 0, .int .i64 0, .slice none 0 0] (n * 5)) 88)).heap.size (w.alloc (.cells (madeCells #[.int .i64 0, .int .i64 0, .int .i64 0, .int .i64 0, .slice none 0 0] (n * 5)) 88)) (.slice (some ⟨w.heap.size, 0, none⟩) 0 n) [] []) := hid (by
    have := World.ownsRow_made (base := w.heap.size) (e := 88) (size := 5) w (madeCells #[.int .i64 0, .int .i64 0, .int .i64 0, .int .i64 0, .slice none 0 0] (n * 5)) n (Nat.le_refl _) (by unfold maxLen; omega) (size_madeCells _ _)
    exact RowsX.nil this (fun g e => by simp [Value.ownBlock] at e; subst e; simp) (Nat.le_refl _))
  go_enter Tryz.func60, Tryz.ntmps60
  go_upto_region 2 with fail
  generalize w.alloc (.cells (madeCells #[.int .i64 0, .int .i64 0, .int .i64 0, .int .i64 0, .slice none 0 0] (n * 5)) 88) = W0 at *
  clear hmk
  go_wp2_with fail
  go_loopw [5, 15] (fun tv ti wr => ∃ i : Nat, ∃ xs : List El, ti = .int .i64 i ∧ i ≤ n ∧ Hid (RowsX w.heap.size wr.heap.size wr tv ((rs.take i).filter allb) xs) ∧ Hid (Below w.heap.size w wr)) (fun _ ti _ => n - (intOf ti).toNat)
  case atStart => exact ⟨0, [], rfl, Nat.zero_le _, HI, hid hB0⟩
  case round =>
    clear HI hB0
    obtain ⟨i, xs, rfl, hi, HV, HBW⟩ := hrel
    obtain ⟨a5, c5, rfl⟩ := kept_form HV.out
    have hwX := HBW.out.size
    by_cases hlt : i < n
    · have d1 : (i : Int) < (n : Int) := by omega
      have hir : i < rs.length := by rw [HN.out]; exact hlt
      obtain ⟨ci, cpi, k9, k0, k1, k2, k3, k4, k6, k7⟩ := (HR.out.below HBW.out).2 i hir
      have hbx : Below wr.heap.size wr (wr.alloc (.cells #[.int .i64 rs[i].1, .int .i64 rs[i].2.1, .int .i64 rs[i].2.2.1, .int .i64 rs[i].2.2.2.1, .slice (some ⟨ci, 0, none⟩) rs[i].2.2.2.2.length cpi] 88)) := balloc (Below.refl _ _) _
      have HT := hid (fun (W : World) (hb : Below wr.heap.size wr W) => copied_1 rs[i] ci 0 cpi W k6 (Nat.lt_of_lt_of_le k9 hb.size) (k7.below hb))
      have HX := hid (flt_next (p := allb) hir)
      have hil : ((rs.take i).filter allb).length ≤ i := by have := List.length_filter_le allb (rs.take i); simp at this; omega
      have HK6 := hid k6
      have HSN : Hid (∀ (r : Rw), rs[i] = r → (r.1, r.2.1, r.2.2.1, r.2.2.2.1, r.2.2.2.2) = rs[i]) := hid (fun r e => by rw [e])
      clear k6 k7 k9
      unfold RT rwv at HT
      obtain ⟨r, hr⟩ : ∃ r, r = rs[i] := ⟨_, rfl⟩
      rw [← hr] at k0 k1 k2 k3 k4 HT HX HK6 hbx
      generalize hpr : allb r = q2 at HX HT
      clear hpr hr HSN
      generalize (rs.take i).filter allb = zs at *
      obtain ⟨id, fr, te, kd, ps⟩ := r
      simp only at k0 k1 k2 k3 k4 HT hbx HK6
      have hps : ps.length ≤ 1099511627776 := HK6.out
      go_upto_region 5 with fail
      have gx := new_alloc wr wr.heap.size (.cells #[.int .i64 id, .int .i64 fr, .int .i64 te, .int .i64 kd, .slice (some ⟨ci, 0, none⟩) ps.length cpi] 88) rfl
      have HI1 := hid (HV.out.below hbx)
      have HB1 := hid (btrans HBW.out hbx)
      have HT1 := hid (HT.out _ hbx)
      have hs1 := hbx.size
      clear k0 k1 k2 k3 k4 HT hbx HV
      generalize wr.alloc (.cells #[.int .i64 id, .int .i64 fr, .int .i64 te, .int .i64 kd, .slice (some ⟨ci, 0, none⟩) ps.length cpi] 88) = W1 at *
      generalize wr.heap.size = X at *
      obtain ⟨⟨x0, x1, x2, x3, x4⟩, _⟩ := cell5g gx
      clear gx
      go_wp2_with fail
      refine HT1.out.mono ?_
      rintro e z ⟨g, cp, rfl, hcp, hgs, ho, hz⟩
      have HBz := hid (btrans HB1.out hz)
      have HIz := hid (HI1.out.below hz)
      have HO := hid ho
      have hzs := hz.size
      have hwz := HBz.out.size
      clear hz x0 x1 x2 x3 x4 HT1 HI1 HB1 ho
      cases q2
      · go_wp2_with fail
        have hal : Below z.heap.size z (z.alloc (.cells #[.int .i64 id, .int .i64 fr, .int .i64 te, .int .i64 kd, .slice (some ⟨g, 0, none⟩) ps.length cp] 88)) := balloc (Below.refl _ _) _
        have HV2 : Hid (RowsX w.heap.size (z.alloc (.cells #[.int .i64 id, .int .i64 fr, .int .i64 te, .int .i64 kd, .slice (some ⟨g, 0, none⟩) ps.length cp] 88)).heap.size (z.alloc (.cells #[.int .i64 id, .int .i64 fr, .int .i64 te, .int .i64 kd, .slice (some ⟨g, 0, none⟩) ps.length cp] 88)) (.slice a5 zs.length c5) ((rs.take (i + 1)).filter allb) xs) := hid (by
          rw [HX.out]
          simpa using (HIz.out.below hal).mono (Nat.le_refl _) (Nat.le_trans (by omega) hal.size) (Nat.le_refl _))
        have HBa := hid (btrans HBz.out hal)
        clear hal
        go_roundw
        case rel => exact ⟨i + 1, xs, by go_num, by omega, HV2, HBa⟩
        case measure => simp [intOf]; omega
      · have HX2 : Hid ((rs.take (i + 1)).filter allb = zs ++ [(id, fr, te, kd, ps)]) := hid (by rw [HX.out]; simp)
        clear HX
        go_upto_region 7 with fail
        have hal : Below z.heap.size z (z.alloc (.cells #[.int .i64 id, .int .i64 fr, .int .i64 te, .int .i64 kd, .slice (some ⟨g, 0, none⟩) ps.length cp] 88)) := balloc (Below.refl _ _) _
        have gy := new_alloc z z.heap.size (.cells #[.int .i64 id, .int .i64 fr, .int .i64 te, .int .i64 kd, .slice (some ⟨g, 0, none⟩) ps.length cp] 88) rfl
        have HIa := hid (HIz.out.below hal)
        have HBa := hid (btrans HBz.out hal)
        have HOa := hid (HO.out.below hal)
        have has : z.heap.size < (z.alloc (.cells #[.int .i64 id, .int .i64 fr, .int .i64 te, .int .i64 kd, .slice (some ⟨g, 0, none⟩) ps.length cp] 88)).heap.size := by simp
        clear hal HO HIz HBz
        generalize z.alloc (.cells #[.int .i64 id, .int .i64 fr, .int .i64 te, .int .i64 kd, .slice (some ⟨g, 0, none⟩) ps.length cp] 88) = Z at *
        obtain ⟨⟨x0, x1, x2, x3, x4⟩, _⟩ := cell5g gy
        clear gy
        have hownZ := HIa.out.2.1
        have hgZ := HOa.out.1
        go_wp2_with (at_builtin; (refine wpList_append_lies _ rfl (.tmp 26) (.tmp 28) 29 rfl w.heap.size 88 i0 _ 5 56 Tryz.underlying29 hi0 hz0 hz1 hz2 rfl (by decide) (.slice a5 zs.length c5) zs.length (flat5 xs) rfl (hownZ.alloc _) ⟨Z.heap.size, 0, none⟩ 1 1 (ev (elR (id, fr, te, kd, ps) g cp)) rfl rfl (World.news_of_block (cs := #[.int .i64 id, .int .i64 fr, .int .i64 te, .int .i64 kd, .slice (some ⟨g, 0, none⟩) ps.length cp]) (t := 88) (fr := (0, 0)) (heap_alloc_new Z _)) (by simp [ev, elR, Value.oneCell']) (by omega) (by unfold maxLen; omega) (by omega) (by simp; omega) (Z.heap.size + 1) (by simp) ?_; intro gg cq w2 hown2 hgrow hat hlt2))
        have hal2 : Below Z.heap.size Z (Z.alloc (.cells #[.int .i64 id, .int .i64 fr, .int .i64 te, .int .i64 kd, .slice (some ⟨g, 0, none⟩) ps.length cp] 88)) := balloc (Below.refl _ _) _
        have hsn := RowsX.snoc (r := (id, fr, te, kd, ps)) (c := g) (cp := cp) (HIa.out.below hal2) (by omega) (by omega) (by simp; omega) hcp hps (HOa.out.below hal2) hown2 hgrow (by simpa using hat) hlt2
        have hb2 : Below w.heap.size w w2 := Below.grown (balloc HBa.out _) hgrow (by simp; omega) (fun k e => (hownZ.lt k e).1)
        have HSN2 : Hid (RowsX w.heap.size w2.heap.size w2 (.slice (some ⟨gg, 0, none⟩) (zs.length + 1) cq) ((rs.take (i + 1)).filter allb) (xs ++ [elR (id, fr, te, kd, ps) g cp])) := hid (by rw [HX2.out]; exact hsn)
        have HB2 := hid hb2
        clear hsn hb2 hown2 hgrow hal2 hownZ
        go_roundw
        case rel => exact ⟨i + 1, _, by go_num, by omega, HSN2, HB2⟩
        case measure => simp [intOf]; omega
    · have d1 : (n : Int) ≤ (i : Int) := by omega
      have hin : i = rs.length := by have := HN.out; omega
      have HF : Hid (RowsX w.heap.size wr.heap.size wr (.slice a5 ((rs.take i).filter allb).length c5) (rs.filter allb) xs) := hid (by have := HV.out; rw [hin, List.take_length] at this ⊢; exact this)
      clear hin HV
      go_wp2_with fail
      go_ret
      exact ⟨_, xs, rfl, HF.out, HBW.out⟩
set_option maxRecDepth 100000 in
set_option maxHeartbeats 2000000 in
theorem kept_vac2 (B cp0 : Nat) (rs : List Rw) (t : Int) (p : Nat) (w : World) (hm : rs.length ≤ 1099511627776) (h : RwsS w B rs) (c1 : w.cell? ⟨p, 0, none⟩ = some (.int .i64 t)) : Calls Tryz.prog 60 #[.slice (some ⟨B, 0, none⟩) rs.length cp0, .func (.func 61) #[] #[.pointer (some ⟨p, 0, none⟩)]] w fun e w' => ∃ v xs, e = .returned v ∧ RowsX w.heap.size w'.heap.size w' v (rs.filter (vkeep t)) xs ∧ Below w.heap.size w w' := by
  obtain ⟨i0, hi0, hz0, hz1, hz2⟩ := info_parts Tryz.infoRow
  have HR := hid h
  have HC := hid c1
  clear c1
  clear h
  have hmk := make_rows0 rs.length hm
  obtain ⟨n, hn⟩ : ∃ n, n = rs.length := ⟨_, rfl⟩
  have HN := hid hn.symm
  rw [← hn] at hm hmk ⊢
  clear hn
  have hB0 : Below w.heap.size w (w.alloc (.cells (madeCells #[.int .i64 0, .int .i64 0, .int .i64 0, .int .i64 0, .slice none 0 0] (n * 5)) 88)) := balloc (Below.refl _ _) _
  have HI : Hid (RowsX w.heap.size (w.alloc (.cells (madeCells #[.int .i64 0, .int .i64 0, .int .i64 0, .int .i64 0, .slice none 0 0] (n * 5)) 88)).heap.size (w.alloc (.cells (madeCells #[.int .i64 0, .int .i64 0, .int .i64 0, .int .i64 0, .slice none 0 0] (n * 5)) 88)) (.slice (some ⟨w.heap.size, 0, none⟩) 0 n) [] []) := hid (by
    have := World.ownsRow_made (base := w.heap.size) (e := 88) (size := 5) w (madeCells #[.int .i64 0, .int .i64 0, .int .i64 0, .int .i64 0, .slice none 0 0] (n * 5)) n (Nat.le_refl _) (by unfold maxLen; omega) (size_madeCells _ _)
    exact RowsX.nil this (fun g e => by simp [Value.ownBlock] at e; subst e; simp) (Nat.le_refl _))
  go_enter Tryz.func60, Tryz.ntmps60
  go_upto_region 2 with fail
  generalize w.alloc (.cells (madeCells #[.int .i64 0, .int .i64 0, .int .i64 0, .int .i64 0, .slice none 0 0] (n * 5)) 88) = W0 at *
  clear hmk
  go_wp2_with fail
  go_loopw [5, 15] (fun tv ti wr => ∃ i : Nat, ∃ xs : List El, ti = .int .i64 i ∧ i ≤ n ∧ Hid (RowsX w.heap.size wr.heap.size wr tv ((rs.take i).filter (vkeep t)) xs) ∧ Hid (Below w.heap.size w wr)) (fun _ ti _ => n - (intOf ti).toNat)
  case atStart => exact ⟨0, [], rfl, Nat.zero_le _, HI, hid hB0⟩
  case round =>
    clear HI hB0
    obtain ⟨i, xs, rfl, hi, HV, HBW⟩ := hrel
    obtain ⟨a5, c5, rfl⟩ := kept_form HV.out
    have hwX := HBW.out.size
    by_cases hlt : i < n
    · have d1 : (i : Int) < (n : Int) := by omega
      have hir : i < rs.length := by rw [HN.out]; exact hlt
      obtain ⟨ci, cpi, k9, k0, k1, k2, k3, k4, k6, k7⟩ := (HR.out.below HBW.out).2 i hir
      have hbx : Below wr.heap.size wr (wr.alloc (.cells #[.int .i64 rs[i].1, .int .i64 rs[i].2.1, .int .i64 rs[i].2.2.1, .int .i64 rs[i].2.2.2.1, .slice (some ⟨ci, 0, none⟩) rs[i].2.2.2.2.length cpi] 88)) := balloc (Below.refl _ _) _
      have HT := hid (fun (W : World) (hb : Below wr.heap.size wr W) => vac_1 rs[i] ci 0 cpi t p W k6 (Nat.lt_of_lt_of_le k9 hb.size) (k7.below hb) (keepcell (btrans HBW.out hb) HC.out))
      have HX := hid (flt_next (p := (vkeep t)) hir)
      have hil : ((rs.take i).filter (vkeep t)).length ≤ i := by have := List.length_filter_le (vkeep t) (rs.take i); simp at this; omega
      have HK6 := hid k6
      have HSN : Hid (∀ (r : Rw), rs[i] = r → (r.1, r.2.1, r.2.2.1, r.2.2.2.1, r.2.2.2.2) = rs[i]) := hid (fun r e => by rw [e])
      clear k6 k7 k9
      unfold RT rwv at HT
      obtain ⟨r, hr⟩ : ∃ r, r = rs[i] := ⟨_, rfl⟩
      rw [← hr] at k0 k1 k2 k3 k4 HT HX HK6 hbx
      generalize hpr : (vkeep t) r = q2 at HX HT
      clear hpr hr HSN
      generalize (rs.take i).filter (vkeep t) = zs at *
      obtain ⟨id, fr, te, kd, ps⟩ := r
      simp only at k0 k1 k2 k3 k4 HT hbx HK6
      have hps : ps.length ≤ 1099511627776 := HK6.out
      go_upto_region 5 with fail
      have gx := new_alloc wr wr.heap.size (.cells #[.int .i64 id, .int .i64 fr, .int .i64 te, .int .i64 kd, .slice (some ⟨ci, 0, none⟩) ps.length cpi] 88) rfl
      have HI1 := hid (HV.out.below hbx)
      have HB1 := hid (btrans HBW.out hbx)
      have HT1 := hid (HT.out _ hbx)
      have hs1 := hbx.size
      clear k0 k1 k2 k3 k4 HT hbx HV
      generalize wr.alloc (.cells #[.int .i64 id, .int .i64 fr, .int .i64 te, .int .i64 kd, .slice (some ⟨ci, 0, none⟩) ps.length cpi] 88) = W1 at *
      generalize wr.heap.size = X at *
      obtain ⟨⟨x0, x1, x2, x3, x4⟩, _⟩ := cell5g gx
      clear gx
      go_wp2_with fail
      refine HT1.out.mono ?_
      rintro e z ⟨g, cp, rfl, hcp, hgs, ho, hz⟩
      have HBz := hid (btrans HB1.out hz)
      have HIz := hid (HI1.out.below hz)
      have HO := hid ho
      have hzs := hz.size
      have hwz := HBz.out.size
      clear hz x0 x1 x2 x3 x4 HT1 HI1 HB1 ho
      cases q2
      · go_wp2_with fail
        have hal : Below z.heap.size z (z.alloc (.cells #[.int .i64 id, .int .i64 fr, .int .i64 te, .int .i64 kd, .slice (some ⟨g, 0, none⟩) ps.length cp] 88)) := balloc (Below.refl _ _) _
        have HV2 : Hid (RowsX w.heap.size (z.alloc (.cells #[.int .i64 id, .int .i64 fr, .int .i64 te, .int .i64 kd, .slice (some ⟨g, 0, none⟩) ps.length cp] 88)).heap.size (z.alloc (.cells #[.int .i64 id, .int .i64 fr, .int .i64 te, .int .i64 kd, .slice (some ⟨g, 0, none⟩) ps.length cp] 88)) (.slice a5 zs.length c5) ((rs.take (i + 1)).filter (vkeep t)) xs) := hid (by
          rw [HX.out]
          simpa using (HIz.out.below hal).mono (Nat.le_refl _) (Nat.le_trans (by omega) hal.size) (Nat.le_refl _))
        have HBa := hid (btrans HBz.out hal)
        clear hal
        go_roundw
        case rel => exact ⟨i + 1, xs, by go_num, by omega, HV2, HBa⟩
        case measure => simp [intOf]; omega
      · have HX2 : Hid ((rs.take (i + 1)).filter (vkeep t) = zs ++ [(id, fr, te, kd, ps)]) := hid (by rw [HX.out]; simp)
        clear HX
        go_upto_region 7 with fail
        have hal : Below z.heap.size z (z.alloc (.cells #[.int .i64 id, .int .i64 fr, .int .i64 te, .int .i64 kd, .slice (some ⟨g, 0, none⟩) ps.length cp] 88)) := balloc (Below.refl _ _) _
        have gy := new_alloc z z.heap.size (.cells #[.int .i64 id, .int .i64 fr, .int .i64 te, .int .i64 kd, .slice (some ⟨g, 0, none⟩) ps.length cp] 88) rfl
        have HIa := hid (HIz.out.below hal)
        have HBa := hid (btrans HBz.out hal)
        have HOa := hid (HO.out.below hal)
        have has : z.heap.size < (z.alloc (.cells #[.int .i64 id, .int .i64 fr, .int .i64 te, .int .i64 kd, .slice (some ⟨g, 0, none⟩) ps.length cp] 88)).heap.size := by simp
        clear hal HO HIz HBz
        generalize z.alloc (.cells #[.int .i64 id, .int .i64 fr, .int .i64 te, .int .i64 kd, .slice (some ⟨g, 0, none⟩) ps.length cp] 88) = Z at *
        obtain ⟨⟨x0, x1, x2, x3, x4⟩, _⟩ := cell5g gy
        clear gy
        have hownZ := HIa.out.2.1
        have hgZ := HOa.out.1
        go_wp2_with (at_builtin; (refine wpList_append_lies _ rfl (.tmp 26) (.tmp 28) 29 rfl w.heap.size 88 i0 _ 5 56 Tryz.underlying29 hi0 hz0 hz1 hz2 rfl (by decide) (.slice a5 zs.length c5) zs.length (flat5 xs) rfl (hownZ.alloc _) ⟨Z.heap.size, 0, none⟩ 1 1 (ev (elR (id, fr, te, kd, ps) g cp)) rfl rfl (World.news_of_block (cs := #[.int .i64 id, .int .i64 fr, .int .i64 te, .int .i64 kd, .slice (some ⟨g, 0, none⟩) ps.length cp]) (t := 88) (fr := (0, 0)) (heap_alloc_new Z _)) (by simp [ev, elR, Value.oneCell']) (by omega) (by unfold maxLen; omega) (by omega) (by simp; omega) (Z.heap.size + 1) (by simp) ?_; intro gg cq w2 hown2 hgrow hat hlt2))
        have hal2 : Below Z.heap.size Z (Z.alloc (.cells #[.int .i64 id, .int .i64 fr, .int .i64 te, .int .i64 kd, .slice (some ⟨g, 0, none⟩) ps.length cp] 88)) := balloc (Below.refl _ _) _
        have hsn := RowsX.snoc (r := (id, fr, te, kd, ps)) (c := g) (cp := cp) (HIa.out.below hal2) (by omega) (by omega) (by simp; omega) hcp hps (HOa.out.below hal2) hown2 hgrow (by simpa using hat) hlt2
        have hb2 : Below w.heap.size w w2 := Below.grown (balloc HBa.out _) hgrow (by simp; omega) (fun k e => (hownZ.lt k e).1)
        have HSN2 : Hid (RowsX w.heap.size w2.heap.size w2 (.slice (some ⟨gg, 0, none⟩) (zs.length + 1) cq) ((rs.take (i + 1)).filter (vkeep t)) (xs ++ [elR (id, fr, te, kd, ps) g cp])) := hid (by rw [HX2.out]; exact hsn)
        have HB2 := hid hb2
        clear hsn hb2 hown2 hgrow hal2 hownZ
        go_roundw
        case rel => exact ⟨i + 1, _, by go_num, by omega, HSN2, HB2⟩
        case measure => simp [intOf]; omega
    · have d1 : (n : Int) ≤ (i : Int) := by omega
      have hin : i = rs.length := by have := HN.out; omega
      have HF : Hid (RowsX w.heap.size wr.heap.size wr (.slice a5 ((rs.take i).filter (vkeep t)).length c5) (rs.filter (vkeep t)) xs) := hid (by have := HV.out; rw [hin, List.take_length] at this ⊢; exact this)
      clear hin HV
      go_wp2_with fail
      go_ret
      exact ⟨_, xs, rfl, HF.out, HBW.out⟩
set_option maxRecDepth 100000 in
set_option maxHeartbeats 1000000 in
theorem rows_copied2 (now : Int) (B cp0 : Nat) (rs : List Rw) (w : World) (hm : rs.length ≤ 1099511627776) (h : RwsS w B rs) : Calls Tryz.prog 45 #[.agg #[.int .i64 now, .slice (some ⟨B, 0, none⟩) rs.length cp0]] w fun e w' => VR w now rs e w' := by
  have HK := hid (fun (W : World) (hb : Below w.heap.size w W) => kept_copied2 B cp0 rs W hm (h.below hb))
  have hfl : rs.filter allb = rs := List.filter_eq_self.2 (fun _ _ => rfl)
  rw [hfl] at HK
  clear h hfl
  obtain ⟨n, hn⟩ : ∃ n, n = rs.length := ⟨_, rfl⟩
  have HN := hid hn.symm
  unfold VR
  rw [← hn] at hm HK ⊢
  clear hn
  have hB : Below w.heap.size w ((w.alloc (.cells #[.int .i64 now, .slice (some ⟨B, 0, none⟩) n cp0] 31)).alloc (.cells #[.int .i64 0, .slice none 0 0] 31)) := balloc (balloc (Below.refl _ _) _) _
  have g0 := old_alloc (o' := .cells #[.int .i64 0, .slice none 0 0] 31) (new_alloc w w.heap.size (.cells #[.int .i64 now, .slice (some ⟨B, 0, none⟩) n cp0] 31) rfl)
  have g1 := new_alloc (w.alloc (.cells #[.int .i64 now, .slice (some ⟨B, 0, none⟩) n cp0] 31)) (w.heap.size + 1) (.cells #[.int .i64 0, .slice none 0 0] 31) (by simp)
  go_enter Tryz.func45, Tryz.ntmps45
  go_upto_region 1 with fail
  generalize (w.alloc (.cells #[.int .i64 now, .slice (some ⟨B, 0, none⟩) n cp0] 31)).alloc (.cells #[.int .i64 0, .slice none 0 0] 31) = W at *
  obtain ⟨d0, d1, _, _⟩ := cell2f g0
  have hWs := lt_of_block g1
  go_wp2_with fail
  refine (HK.out _ hB).mono ?_
  rintro e y ⟨v, xs, rfl, hX, hy⟩
  obtain ⟨a, c, rfl⟩ := kept_form hX
  rw [HN.out] at hX
  rw [HN.out]
  replace g0 := keepheap2 hy g0
  replace g1 := keepheap2 hy g1
  have HB := hid (btrans hB hy)
  have HX := hid hX
  clear hB hy hX HK d0 d1
  obtain ⟨d0, d1, f0, f1⟩ := cell2f g0
  obtain ⟨v0, v1, u0, u1⟩ := cell2f g1
  go_wp2_with fail
  have gF := set2r (set_far (q := w.heap.size) (k := 1) (u := .slice a n c) g1 (by omega)) (.int .i64 now) (.slice a n c)
  have bF := bset (bset (bset HB.out (q := w.heap.size) (k := 1) (Nat.le_refl _) (.slice a n c)) (q := w.heap.size + 1) (k := 0) (by omega) (.int .i64 now)) (q := w.heap.size + 1) (k := 1) (by omega) (.slice a n c)
  have xF := (HX.out.frame (w' := ((y.setCell ⟨w.heap.size, 1, none⟩ (.slice a n c)).setCell ⟨w.heap.size + 1, 0, none⟩ (.int .i64 now)).setCell ⟨w.heap.size + 1, 1, none⟩ (.slice a n c)) (fun b h1 h2 => by rw [Below.heap_setCell _ _ _ _ (by dsimp only; omega), Below.heap_setCell _ _ _ _ (by dsimp only; omega), Below.heap_setCell _ _ _ _ (by dsimp only; omega)]) (by simp)).mono (base' := w.heap.size) (hi' := (((y.setCell ⟨w.heap.size, 1, none⟩ (.slice a n c)).setCell ⟨w.heap.size + 1, 0, none⟩ (.int .i64 now)).setCell ⟨w.heap.size + 1, 1, none⟩ (.slice a n c)).heap.size) (by omega) (by simp) (Nat.le_refl _)
  generalize ((y.setCell ⟨w.heap.size, 1, none⟩ (.slice a n c)).setCell ⟨w.heap.size + 1, 0, none⟩ (.int .i64 now)).setCell ⟨w.heap.size + 1, 1, none⟩ (.slice a n c) = wf at *
  obtain ⟨z0, z1, _, _⟩ := cell2f gF
  exact bodyPost_ret (v := .agg #[.int .i64 now, .slice a n c]) (by simp [results, Tryz.results45, go_sem, z0, z1]) rfl ⟨a, c, xs, rfl, xF, bF⟩
set_option maxRecDepth 100000 in
set_option maxHeartbeats 1000000 in
theorem impl_Vacuum2 {N : Nat → Prop} (now : Int) (B cp0 : Nat) (rs : List Rw) (t : Int) (w : World) (hm : rs.length ≤ 1099511627776) (h : RwsS w B rs) (hr : Rws N w (some ⟨B, 0, none⟩) rs) : Calls Tryz.prog 32 #[.agg #[.int .i64 now, .slice (some ⟨B, 0, none⟩) rs.length cp0], .int .i64 t] w fun e w' => VR w now (vacb now rs t) e w' := by
  have HOK := hid (fun (W : World) (hb : Below w.heap.size w W) => impl_RowsOk now (some ⟨B, 0, none⟩) cp0 rs W hm (hr.below hb))
  have HCO : Hid (rowsb now rs = false → ∀ (W : World) (hb : Below w.heap.size w W), Calls Tryz.prog 45 #[.agg #[.int .i64 now, .slice (some ⟨B, 0, none⟩) rs.length cp0]] W fun e w' => VR W now (vacb now rs t) e w') := hid (fun e W hb => by
    have hv : vacb now rs t = rs := by unfold vacb; rw [if_neg (by rw [e]; simp)]
    rw [hv]; exact rows_copied2 now B cp0 rs W hm (h.below hb))
  have HKP : Hid (rowsb now rs = true → ∀ (W : World) (hb : Below w.heap.size w W) (p : Nat) (c1 : W.cell? ⟨p, 0, none⟩ = some (.int .i64 t)), Calls Tryz.prog 60 #[.slice (some ⟨B, 0, none⟩) rs.length cp0, .func (.func 61) #[] #[.pointer (some ⟨p, 0, none⟩)]] W fun e w' => ∃ v xs, e = .returned v ∧ RowsX W.heap.size w'.heap.size w' v (vacb now rs t) xs ∧ Below W.heap.size W w') := hid (fun e W hb p c1 => by
    have hv : vacb now rs t = rs.filter (vkeep t) := by unfold vacb; rw [if_pos e]
    rw [hv]; exact kept_vac2 B cp0 rs t p W hm (h.below hb) c1)
  clear h hr
  unfold VR at *
  generalize vacb now rs t = vs at *
  generalize rowsb now rs = ob at *
  generalize rs.length = n at *
  have hmf : ∀ (fn : Fn) (first cp : Array Value) (w : World), (Instr.makeFunc fn first cp).run Tryz.prog w = .ok (.func fn first cp) w := fun _ _ _ _ => rfl
  have hBx : Below w.heap.size w (((w.alloc (.cells #[.int .i64 now, .slice (some ⟨B, 0, none⟩) n cp0] 31)).alloc (.cells #[.int .i64 t] 3)).alloc (.cells #[.int .i64 0, .slice none 0 0] 31)) := balloc (balloc (balloc (Below.refl _ _) _) _) _
  have g0 := old_alloc (o' := .cells #[.int .i64 0, .slice none 0 0] 31) (old_alloc (o' := .cells #[.int .i64 t] 3) (new_alloc w w.heap.size (.cells #[.int .i64 now, .slice (some ⟨B, 0, none⟩) n cp0] 31) rfl))
  have g1 := old_alloc (o' := .cells #[.int .i64 0, .slice none 0 0] 31) (new_alloc (w.alloc (.cells #[.int .i64 now, .slice (some ⟨B, 0, none⟩) n cp0] 31)) (w.heap.size + 1) (.cells #[.int .i64 t] 3) (by simp))
  have g2 := new_alloc ((w.alloc (.cells #[.int .i64 now, .slice (some ⟨B, 0, none⟩) n cp0] 31)).alloc (.cells #[.int .i64 t] 3)) (w.heap.size + 1 + 1) (.cells #[.int .i64 0, .slice none 0 0] 31) (by simp)
  go_enter Tryz.func32, Tryz.ntmps32
  go_upto_region 1 with fail
  generalize ((w.alloc (.cells #[.int .i64 now, .slice (some ⟨B, 0, none⟩) n cp0] 31)).alloc (.cells #[.int .i64 t] 3)).alloc (.cells #[.int .i64 0, .slice none 0 0] 31) = W0 at *
  obtain ⟨d0, d1, _, _⟩ := cell2f g0
  go_wp2_with fail
  refine (HOK.out _ hBx).mono ?_
  rintro e W ⟨rfl, hz⟩
  replace g0 := keepheap2 hz g0
  replace g1 := keepheap2 hz g1
  replace g2 := keepheap2 hz g2
  have hB := btrans hBx hz
  have hWs := lt_of_block g2
  clear hBx hz d0 d1 HOK
  obtain ⟨d0, d1, _, _⟩ := cell2f g0
  cases ob
  · have CO := hid (HCO.out rfl W hB)
    have HB := hid hB
    have HG2 := hid g2
    clear HCO HKP g0 g1 g2 hB
    go_wp2_with fail
    refine CO.out.mono ?_
    rintro e y ⟨a, c, xs, rfl, hX, hy⟩
    have g2 := keepheap2 hy HG2.out
    have HBy := hid (btrans HB.out hy)
    have HX := hid hX
    clear hX hy d0 d1
    obtain ⟨v0, v1, u0, u1⟩ := cell2f g2
    go_wp2_with fail
    have gF := set2r g2 (.int .i64 now) (.slice a vs.length c)
    have bF := bset (bset HBy.out (q := w.heap.size + 1 + 1) (k := 0) (by omega) (.int .i64 now)) (q := w.heap.size + 1 + 1) (k := 1) (by omega) (.slice a vs.length c)
    have xF := (HX.out.frame (w' := (y.setCell ⟨w.heap.size + 1 + 1, 0, none⟩ (.int .i64 now)).setCell ⟨w.heap.size + 1 + 1, 1, none⟩ (.slice a vs.length c)) (fun b h1 h2 => by rw [Below.heap_setCell _ _ _ _ (by dsimp only; omega), Below.heap_setCell _ _ _ _ (by dsimp only; omega)]) (by simp)).mono (base' := w.heap.size) (hi' := ((y.setCell ⟨w.heap.size + 1 + 1, 0, none⟩ (.int .i64 now)).setCell ⟨w.heap.size + 1 + 1, 1, none⟩ (.slice a vs.length c)).heap.size) (by omega) (by simp) (Nat.le_refl _)
    generalize (y.setCell ⟨w.heap.size + 1 + 1, 0, none⟩ (.int .i64 now)).setCell ⟨w.heap.size + 1 + 1, 1, none⟩ (.slice a vs.length c) = wf at *
    obtain ⟨z0, z1, _, _⟩ := cell2f gF
    exact bodyPost_ret (v := .agg #[.int .i64 now, .slice a vs.length c]) (by simp [results, Tryz.results32, go_sem, z0, z1]) rfl ⟨a, c, xs, rfl, xF, bF⟩
  · have c1 : W.cell? ⟨w.heap.size + 1, 0, none⟩ = some (.int .i64 t) := by simp [World.cell?, g1]
    have KP := hid (HKP.out rfl W hB (w.heap.size + 1) c1)
    have HB := hid hB
    have HG2 := hid g2
    have HG0 := hid g0
    clear HCO HKP c1 g0 g1 g2 hB
    go_wp2_with fail
    refine KP.out.mono ?_
    rintro e y ⟨v, xs, rfl, hX, hy⟩
    obtain ⟨a, c, rfl⟩ := kept_form hX
    have g2 := keepheap2 hy HG2.out
    have g0 := keepheap2 hy HG0.out
    have HBy := hid (btrans HB.out hy)
    have HX := hid hX
    clear hX hy d0 d1
    obtain ⟨d0, d1, _, _⟩ := cell2f g0
    obtain ⟨v0, v1, u0, u1⟩ := cell2f g2
    go_wp2_with fail
    have gF := set2r g2 (.int .i64 now) (.slice a vs.length c)
    have bF := bset (bset HBy.out (q := w.heap.size + 1 + 1) (k := 0) (by omega) (.int .i64 now)) (q := w.heap.size + 1 + 1) (k := 1) (by omega) (.slice a vs.length c)
    have xF := (HX.out.frame (w' := (y.setCell ⟨w.heap.size + 1 + 1, 0, none⟩ (.int .i64 now)).setCell ⟨w.heap.size + 1 + 1, 1, none⟩ (.slice a vs.length c)) (fun b h1 h2 => by rw [Below.heap_setCell _ _ _ _ (by dsimp only; omega), Below.heap_setCell _ _ _ _ (by dsimp only; omega)]) (by simp)).mono (base' := w.heap.size) (hi' := ((y.setCell ⟨w.heap.size + 1 + 1, 0, none⟩ (.int .i64 now)).setCell ⟨w.heap.size + 1 + 1, 1, none⟩ (.slice a vs.length c)).heap.size) (by omega) (by simp) (Nat.le_refl _)
    generalize (y.setCell ⟨w.heap.size + 1 + 1, 0, none⟩ (.int .i64 now)).setCell ⟨w.heap.size + 1 + 1, 1, none⟩ (.slice a vs.length c) = wf at *
    obtain ⟨z0, z1, _, _⟩ := cell2f gF
    exact bodyPost_ret (v := .agg #[.int .i64 now, .slice a vs.length c]) (by simp [results, Tryz.results32, go_sem, z0, z1]) rfl ⟨a, c, xs, rfl, xF, bF⟩
end Go.Proofs.YtigjdlpjibakjaaGreat
