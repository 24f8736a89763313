/- Texts of stores, joined: Xt, Xu, Xo, Vi. -/
import Derived.Test.YtjhnfbefgjoiiaaGreatJ3
import Derived.Test.YtjhnfbefgjoiiaaGreatJ4
import Derived.Test.YtjhnfbefgjoiiaaGreatRwB
import Derived.Test.YtjhnfbefgjoiiaaGreatRwP
import Derived.Test.YtjhnfbefgjoiiaaGreatRwA0
import Derived.Lib.SliceRun
namespace Go.Proofs.YtjhnfbefgjoiiaaGreat
open Go.RowKit
set_option linter.unusedSimpArgs false
set_option linter.unusedVariables false
theorem RwsS.z {w : World} {B : Nat} {rs : List Rw} (h : RwsS w B rs) : RwsZ w B rs := by
  refine ⟨h.1, fun j hj => ?_⟩
  obtain ⟨c, cp, a0, a1, a2, a3, a4, a5, a6, a7⟩ := h.2 j hj
  exact ⟨c, cp, a0, ⟨a1, a2, a3, a4, a5⟩, a6, a7⟩
theorem RwsZ.s {w : World} {B : Nat} {rs : List Rw} (h : RwsZ w B rs) : RwsS w B rs := by
  refine ⟨h.1, fun j hj => ?_⟩
  obtain ⟨c, cp, a0, ⟨a1, a2, a3, a4, a5⟩, a6, a7⟩ := h.2 j hj
  exact ⟨c, cp, a0, a1, a2, a3, a4, a5, a6, a7⟩
set_option maxRecDepth 100000 in
set_option maxHeartbeats 1000000 in
theorem rowsZ_copied (now : Int) (B cap : Nat) (rs : List Rw) (w : World) (hm : rs.length ≤ 1099511627776) (h : RwsZ w B rs) : Calls Tryz.prog 29 #[.agg #[.int .i64 now, .slice (some ⟨B, 0, none⟩) rs.length cap]] w fun e w' => ∃ g c ps, e = .returned (.agg #[.int .i64 now, .slice (some ⟨g, 0, none⟩) rs.length c]) ∧ LX KR 57 w.heap.size w'.heap.size w' (.slice (some ⟨g, 0, none⟩) rs.length c) rs ps ∧ Below w.heap.size w w' := by
  have HK := hid (fun (W : World) (hb : Below w.heap.size w W) => kept_rw B cap rs W hm (h.below hb))
  clear h
  generalize hn : rs.length = n at *
  have HN := hid hn
  clear hn
  have hB : Below w.heap.size w ((w.alloc (.cells #[.int .i64 now, .slice (some ⟨B, 0, none⟩) n cap] 28)).alloc (.cells #[.int .i64 0, .slice none 0 0] 28)) := balloc (balloc (Below.refl _ _) _) _
  have g0 := old_alloc (o' := .cells #[.int .i64 0, .slice none 0 0] 28) (new_alloc w w.heap.size (.cells #[.int .i64 now, .slice (some ⟨B, 0, none⟩) n cap] 28) rfl)
  have g1 := new_alloc (w.alloc (.cells #[.int .i64 now, .slice (some ⟨B, 0, none⟩) n cap] 28)) (w.heap.size + 1) (.cells #[.int .i64 0, .slice none 0 0] 28) (by simp)
  go_enter Tryz.func29, Tryz.ntmps29
  go_upto_region 1 with fail
  generalize (w.alloc (.cells #[.int .i64 now, .slice (some ⟨B, 0, none⟩) n cap] 28)).alloc (.cells #[.int .i64 0, .slice none 0 0] 28) = W at *
  obtain ⟨d0, d1, _, _⟩ := cell2f g0
  have hWs := lt_of_block g1
  go_wp2_with fail
  refine (HK.out _ hB).mono ?_
  rintro e y ⟨v, xs, rfl, hX, ⟨a, c, rfl⟩, hy⟩
  replace g0 := keepheap2 hy g0
  replace g1 := keepheap2 hy g1
  have HB := hid (btrans hB hy)
  have HX := hid hX
  have hyz := hy.size
  clear hB hy hX HK d0 d1
  obtain ⟨d0, d1, f0, f1⟩ := cell2f g0
  obtain ⟨v0, v1, u0, u1⟩ := cell2f g1
  go_wp2_with fail
  have gF := set2r (set_far (q := w.heap.size) (k := 1) (u := .slice (some ⟨a, 0, none⟩) n c) g1 (by omega)) (.int .i64 now) (.slice (some ⟨a, 0, none⟩) n c)
  have bF := bset (bset (bset HB.out (q := w.heap.size) (k := 1) (Nat.le_refl _) (.slice (some ⟨a, 0, none⟩) n c)) (q := w.heap.size + 1) (k := 0) (by omega) (.int .i64 now)) (q := w.heap.size + 1) (k := 1) (by omega) (.slice (some ⟨a, 0, none⟩) n c)
  have xF := (HX.out.frame (w' := ((y.setCell ⟨w.heap.size, 1, none⟩ (.slice (some ⟨a, 0, none⟩) n c)).setCell ⟨w.heap.size + 1, 0, none⟩ (.int .i64 now)).setCell ⟨w.heap.size + 1, 1, none⟩ (.slice (some ⟨a, 0, none⟩) n c)) (fun b h1 h2 => by rw [Below.heap_setCell _ _ _ _ (by dsimp only; omega), Below.heap_setCell _ _ _ _ (by dsimp only; omega), Below.heap_setCell _ _ _ _ (by dsimp only; omega)]) (by simp)).mono (base' := w.heap.size) (hi' := (((y.setCell ⟨w.heap.size, 1, none⟩ (.slice (some ⟨a, 0, none⟩) n c)).setCell ⟨w.heap.size + 1, 0, none⟩ (.int .i64 now)).setCell ⟨w.heap.size + 1, 1, none⟩ (.slice (some ⟨a, 0, none⟩) n c)).heap.size) (by omega) (by simp) (Nat.le_refl _)
  generalize ((y.setCell ⟨w.heap.size, 1, none⟩ (.slice (some ⟨a, 0, none⟩) n c)).setCell ⟨w.heap.size + 1, 0, none⟩ (.int .i64 now)).setCell ⟨w.heap.size + 1, 1, none⟩ (.slice (some ⟨a, 0, none⟩) n c) = wf at *
  obtain ⟨z0, z1, _, _⟩ := cell2f gF
  exact bodyPost_ret (v := .agg #[.int .i64 now, .slice (some ⟨a, 0, none⟩) n c]) (by simp [results, Tryz.results29, go_sem, z0, z1]) rfl ⟨a, c, xs, rfl, xF, bF⟩
theorem LC.rwsZ {base hi : Nat} {w : World} {g cap : Nat} {xs : List Rw} (h : LC KR base hi w (.slice (some ⟨g, 0, none⟩) xs.length cap) xs) : RwsZ w g xs := by
  obtain ⟨h0, h⟩ := h
  rcases h with ⟨_, e⟩ | ⟨g', cp, ss, lo, up, e, h1, h2, h3, h4, h5, h6⟩
  · cases e
  · cases e
    refine ⟨by omega, fun j hj => ?_⟩
    obtain ⟨⟨b1, _, c, cq, e, b2, b3, b4, b5, b6⟩, a2, a3, a4⟩ := h5 j hj
    have k0 := b1 0 (by decide)
    have k1 := b1 1 (by decide)
    have k2 := b1 2 (by decide)
    have k3 := b1 3 (by decide)
    have k4 := b1 4 (by decide)
    simp only [KR, e] at k0 k1 k2 k3 k4
    exact ⟨c, cq, b6.1, ⟨k0, k1, k2, k3, k4⟩, b3, b6.pts⟩
/-- A store in memory of its own: the rows from b1 on below u1, the transactions from b2 on below u2. -/
def StX (b1 u1 b2 u2 : Nat) (w : World) (a ta : Option Addr) (cap tcap : Nat) (rs : List Rw) (ts : List Tx) : Prop := LC KR b1 u1 w (.slice a rs.length cap) rs ∧ LC KT b2 u2 w (.slice ta ts.length tcap) ts
theorem StX.below {b1 u1 b2 u2 : Nat} {w w' : World} {a ta : Option Addr} {cap tcap : Nat} {rs : List Rw} {ts : List Tx} (h : StX b1 u1 b2 u2 w a ta cap tcap rs ts) (H : Below w.heap.size w w') : StX b1 u1 b2 u2 w' a ta cap tcap rs ts := ⟨h.1.below H, h.2.below H⟩
set_option maxRecDepth 100000 in
set_option maxHeartbeats 1000000 in
theorem store_copied (now : Int) (B D rc tc : Nat) (rs : List Rw) (ts : List Tx) (w : World) (hm : rs.length ≤ 1099511627776) (htm : ts.length ≤ 1099511627776) (hr : RwsZ w B rs) (ht : TxsS w D ts) : Calls Tryz.prog 40 #[.agg #[.int .i64 now, .slice (some ⟨B, 0, none⟩) rs.length rc, .slice (some ⟨D, 0, none⟩) ts.length tc]] w fun e w' => ∃ g c tg tcc mid, e = .returned (.agg #[.int .i64 now, .slice (some ⟨g, 0, none⟩) rs.length c, .slice (some ⟨tg, 0, none⟩) ts.length tcc]) ∧ StX mid w'.heap.size w.heap.size mid w' (some ⟨g, 0, none⟩) (some ⟨tg, 0, none⟩) c tcc rs ts ∧ RwsZ w' g rs ∧ w.heap.size ≤ mid ∧ mid ≤ w'.heap.size ∧ Below w.heap.size w w' := by
  have HK := hid (fun (W : World) (hb : Below w.heap.size w W) => kept_tx D tc ts W htm (ht.below hb))
  have HR := hid (fun (W : World) (hb : Below w.heap.size w W) => rowsZ_copied now B rc rs W hm (hr.below hb))
  clear hr ht
  unfold StX
  generalize hnr : rs.length = nr at *
  generalize hnt : ts.length = nt at *
  have HNR := hid hnr
  have HNT := hid hnt
  clear hnr hnt
  have hB : Below w.heap.size w ((w.alloc (.cells #[.int .i64 now, .slice (some ⟨B, 0, none⟩) nr rc, .slice (some ⟨D, 0, none⟩) nt tc] 40)).alloc (.cells #[.int .i64 0, .slice none 0 0, .slice none 0 0] 40)) := balloc (balloc (Below.refl _ _) _) _
  have g0 := old_alloc (o' := .cells #[.int .i64 0, .slice none 0 0, .slice none 0 0] 40) (new_alloc w w.heap.size (.cells #[.int .i64 now, .slice (some ⟨B, 0, none⟩) nr rc, .slice (some ⟨D, 0, none⟩) nt tc] 40) rfl)
  have g1 := new_alloc (w.alloc (.cells #[.int .i64 now, .slice (some ⟨B, 0, none⟩) nr rc, .slice (some ⟨D, 0, none⟩) nt tc] 40)) (w.heap.size + 1) (.cells #[.int .i64 0, .slice none 0 0, .slice none 0 0] 40) (by simp)
  go_enter Tryz.func40, Tryz.ntmps40
  go_upto_region 1 with fail
  generalize (w.alloc (.cells #[.int .i64 now, .slice (some ⟨B, 0, none⟩) nr rc, .slice (some ⟨D, 0, none⟩) nt tc] 40)).alloc (.cells #[.int .i64 0, .slice none 0 0, .slice none 0 0] 40) = W at *
  obtain ⟨⟨d0, d1, d2⟩, _⟩ := cellk3 g0
  have hWs := lt_of_block g1
  go_wp2_with fail
  refine (HK.out _ hB).mono ?_
  rintro e y ⟨v, px, rfl, hX, ⟨tg, tcc, rfl⟩, hy⟩
  replace g0 := keepheap2 hy g0
  replace g1 := keepheap2 hy g1
  replace hB := btrans hB hy
  have hyz := hy.size
  have HX := hid hX
  clear hy hX HK d0 d1 d2
  obtain ⟨⟨d0, d1, d2⟩, _⟩ := cellk3 g0
  go_wp2_with fail
  refine (HR.out _ hB).mono ?_
  rintro e z ⟨g, c, pr, rfl, hX2, hz⟩
  replace g1 := keepheap2 hz g1
  replace hB := btrans hB hz
  have hzz := hz.size
  have HX1 := hid (HX.out.below hz)
  have HX2 := hid hX2
  clear hz hX2 HR HX g0 d0 d1 d2
  obtain ⟨⟨v0, v1, v2⟩, u0, u1, u2⟩ := cellk3 g1
  have HB := hid hB
  clear hB
  go_wp2_with fail
  have gF := setk3 g1 (.int .i64 now) (.slice (some ⟨g, 0, none⟩) nr c) (.slice (some ⟨tg, 0, none⟩) nt tcc)
  have bF := bset (bset (bset HB.out (q := w.heap.size + 1) (k := 0) (by omega) (.int .i64 now)) (q := w.heap.size + 1) (k := 1) (by omega) (.slice (some ⟨g, 0, none⟩) nr c)) (q := w.heap.size + 1) (k := 2) (by omega) (.slice (some ⟨tg, 0, none⟩) nt tcc)
  have hfar : ∀ b, b ≠ w.heap.size + 1 → (((z.setCell ⟨w.heap.size + 1, 0, none⟩ (.int .i64 now)).setCell ⟨w.heap.size + 1, 1, none⟩ (.slice (some ⟨g, 0, none⟩) nr c)).setCell ⟨w.heap.size + 1, 2, none⟩ (.slice (some ⟨tg, 0, none⟩) nt tcc)).heap[b]? = z.heap[b]? := fun b hb => by rw [Below.heap_setCell _ _ _ _ (by dsimp only; omega), Below.heap_setCell _ _ _ _ (by dsimp only; omega), Below.heap_setCell _ _ _ _ (by dsimp only; omega)]
  have hwz : (((z.setCell ⟨w.heap.size + 1, 0, none⟩ (.int .i64 now)).setCell ⟨w.heap.size + 1, 1, none⟩ (.slice (some ⟨g, 0, none⟩) nr c)).setCell ⟨w.heap.size + 1, 2, none⟩ (.slice (some ⟨tg, 0, none⟩) nt tcc)).heap.size = z.heap.size := by simp only [World.size_setCell]
  generalize (((z.setCell ⟨w.heap.size + 1, 0, none⟩ (.int .i64 now)).setCell ⟨w.heap.size + 1, 1, none⟩ (.slice (some ⟨g, 0, none⟩) nr c)).setCell ⟨w.heap.size + 1, 2, none⟩ (.slice (some ⟨tg, 0, none⟩) nt tcc)) = wf at *
  have x1 := ((HX2.out.frame (w' := wf) (fun b h1 h2 => hfar b (by omega)) (by omega)).mono (hi' := wf.heap.size) (Nat.le_refl _) (by omega) (Nat.le_refl _)).lc
  have x2 := ((HX1.out.frame (w' := wf) (fun b h1 h2 => hfar b (by omega)) (by omega)).mono (base' := w.heap.size) (hi' := y.heap.size) (by omega) (Nat.le_refl _) (by omega)).lc
  have hrz : RwsZ wf g rs := by
    refine LC.rwsZ (cap := c) (base := y.heap.size) (hi := wf.heap.size) ?_
    rw [HNR.out]; exact x1
  obtain ⟨⟨z0, z1, z2⟩, _⟩ := cellk3 gF
  exact bodyPost_ret (v := .agg #[.int .i64 now, .slice (some ⟨g, 0, none⟩) nr c, .slice (some ⟨tg, 0, none⟩) nt tcc]) (by simp [results, Tryz.results40, go_sem, z0, z1, z2]) rfl ⟨g, c, tg, tcc, y.heap.size, rfl, ⟨x1, x2⟩, hrz, by omega, by omega, bF⟩
end Go.Proofs.YtjhnfbefgjoiiaaGreat
namespace Go.Proofs.YtjhnfbefgjoiiaaGreat
open Go.RowKit
set_option linter.unusedSimpArgs false
set_option linter.unusedVariables false
theorem own_nilT {w : World} {B : Nat} : w.ownsRow B 101 3 (.slice none 0 0) 0 [] := ⟨by simp, .inl ⟨rfl, rfl⟩⟩
theorem LX.form {α : Type} {K : Kd α} {t : TypeId} {base hi : Nat} {w : World} {v : Value} {xs : List α} {ps : List (α × Value)} (h : LX K t base hi w v xs ps) : ∃ a cap, v = .slice a xs.length cap := by
  obtain ⟨a, cap, e, _⟩ := h.lc.form
  exact ⟨a, cap, e⟩
set_option maxRecDepth 100000 in
set_option maxHeartbeats 4000000 in
theorem spec_copyStore (now : Int) (B D tc : Nat) (rs : List Rw) (ts : List Tx) (w : World) (hm : rs.length ≤ 1099511627776) (htm : ts.length ≤ 1099511627776) (hr : RwsS w B rs) (ht : TxsS w D ts) : Calls Tryz.prog 36 #[.agg #[.int .i64 now, .slice (some ⟨B, 0, none⟩) rs.length rs.length, .slice (some ⟨D, 0, none⟩) ts.length tc]] w fun e w' => ∃ a c ta tcc b1 u1 b2 u2, e = .returned (.agg #[.int .i64 now, .slice a rs.length c, .slice ta ts.length tcc]) ∧ StX b1 u1 b2 u2 w' a ta c tcc rs ts ∧ w.heap.size ≤ b1 ∧ w.heap.size ≤ b2 ∧ Below w.heap.size w w' := by
  obtain ⟨i0, hi0, hz0, hz1, hz2⟩ := info_parts Tryz.infoTx
  have HR := hid (fun (W : World) (hb : Below w.heap.size w W) => spec_copyRows now B rs W hm (hr.below hb))
  have HTS := hid ht
  clear hr ht
  unfold StX
  unfold VR at HR
  generalize hnr : rs.length = nr at *
  have HNR := hid hnr
  obtain ⟨nt, hnt⟩ : ∃ nt, nt = ts.length := ⟨_, rfl⟩
  have HNT := hid hnt.symm
  rw [← hnt] at htm ⊢
  clear hnr hnt
  have hB : Below w.heap.size w ((w.alloc (.cells #[.int .i64 now, .slice (some ⟨B, 0, none⟩) nr nr, .slice (some ⟨D, 0, none⟩) nt tc] 40)).alloc (.cells #[.int .i64 0, .slice none 0 0, .slice none 0 0] 40)) := balloc (balloc (Below.refl _ _) _) _
  have g0 := old_alloc (o' := .cells #[.int .i64 0, .slice none 0 0, .slice none 0 0] 40) (new_alloc w w.heap.size (.cells #[.int .i64 now, .slice (some ⟨B, 0, none⟩) nr nr, .slice (some ⟨D, 0, none⟩) nt tc] 40) rfl)
  have g1 := new_alloc (w.alloc (.cells #[.int .i64 now, .slice (some ⟨B, 0, none⟩) nr nr, .slice (some ⟨D, 0, none⟩) nt tc] 40)) (w.heap.size + 1) (.cells #[.int .i64 0, .slice none 0 0, .slice none 0 0] 40) (by simp)
  have hWs : w.heap.size + 1 < ((w.alloc (.cells #[.int .i64 now, .slice (some ⟨B, 0, none⟩) nr nr, .slice (some ⟨D, 0, none⟩) nt tc] 40)).alloc (.cells #[.int .i64 0, .slice none 0 0, .slice none 0 0] 40)).heap.size := by simp
  go_enter Tryz.func36, Tryz.ntmps36
  go_upto_region 1 with fail
  generalize (w.alloc (.cells #[.int .i64 now, .slice (some ⟨B, 0, none⟩) nr nr, .slice (some ⟨D, 0, none⟩) nt tc] 40)).alloc (.cells #[.int .i64 0, .slice none 0 0, .slice none 0 0] 40) = W at *
  obtain ⟨⟨d0, d1, d2⟩, _⟩ := cellk3 g0
  go_wp2_with fail
  refine (HR.out _ hB).mono ?_
  rintro e y ⟨a, c, pr, rfl, hX, hy⟩
  replace g0 := keepheap2 hy g0
  replace g1 := keepheap2 hy g1
  replace hB := btrans hB hy
  have hyz := hy.size
  have HX := hid hX.lc
  clear hy hX HR d0 d1 d2
  go_upto_region 2 with fail
  have hal : Below y.heap.size y (y.alloc (.cells #[.int .i64 now, .slice a nr c, .slice none 0 0] 40)) := balloc (Below.refl _ _) _
  have g2 := new_alloc y y.heap.size (.cells #[.int .i64 now, .slice a nr c, .slice none 0 0] 40) rfl
  replace g0 := keepheap2 hal g0
  replace g1 := keepheap2 hal g1
  have HX1 := hid (HX.out.below hal)
  have HB1 := hid (btrans hB hal)
  have hyq : y.heap.size < (y.alloc (.cells #[.int .i64 now, .slice a nr c, .slice none 0 0] 40)).heap.size := by simp
  clear hal hB HX
  generalize y.alloc (.cells #[.int .i64 now, .slice a nr c, .slice none 0 0] 40) = Y0 at *
  generalize W.heap.size = Wz at *
  generalize y.heap.size = Q at *
  have HX0 := hid (LX.nil (K := KT) (t := 101) (base := Q + 1) (hi := Y0.heap.size) (own_nilT (w := Y0)) (fun g e => by cases e) (Nat.le_refl _))
  have hBz := HB1.out.size
  go_wp2_with fail
  go_loopw [4] (fun ti wr => ∃ i : Nat, ∃ v : Value, ∃ ps' : List (Tx × Value), ti = .int .i64 i ∧ i ≤ nt ∧ Hid (LX KT 101 (Q + 1) wr.heap.size wr v (ts.take i) ps') ∧ Hid (wr.heap[w.heap.size]? = some (.cells #[.int .i64 now, .slice (some ⟨B, 0, none⟩) nr nr, .slice (some ⟨D, 0, none⟩) nt tc] 40 (0, 0))) ∧ Hid (wr.heap[w.heap.size + 1]? = some (.cells #[.int .i64 0, .slice none 0 0, .slice none 0 0] 40 (0, 0))) ∧ Hid (wr.heap[Q]? = some (.cells #[.int .i64 now, .slice a nr c, v] 40 (0, 0))) ∧ Hid (LC KR Wz Q wr (.slice a nr c) rs) ∧ Hid (Q < wr.heap.size) ∧ Hid (Below w.heap.size w wr)) (fun ti _ => nt - (intOf ti).toNat)
  case atStart => exact ⟨0, _, [], rfl, Nat.zero_le _, HX0, hid g0, hid g1, hid g2, HX1, hid (by omega), HB1⟩
  case round =>
    clear HX0 g0 g1 g2 HX1 HB1 hBz
    obtain ⟨i, v, ps', rfl, hi, HV, G0, G1, G2, HXR, HS, HBW⟩ := hrel
    obtain ⟨⟨d0, d1, d2⟩, _⟩ := cellk3 G0.out
    have hws := HS.out
    by_cases hlt : i < nt
    · have c1 : (i : Int) < (nt : Int) := by omega
      have hir : i < ts.length := by rw [HNT.out]; exact hlt
      obtain ⟨ci, cpi, k9, ⟨k0, k1, k2⟩, k6, k7⟩ := (HTS.out.below HBW.out).2 i hir
      have HTK : Hid (ts.take (i + 1) = ts.take i ++ [ts[i]]) := hid (by rw [List.take_add_one, List.getElem?_eq_getElem hir]; rfl)
      have HIL : Hid ((ts.take i).length = i) := hid (by rw [List.length_take]; omega)
      obtain ⟨r, hr⟩ : ∃ r, r = ts[i] := ⟨_, rfl⟩
      rw [← hr] at k0 k1 k2 k6 k7 HTK
      clear hr
      obtain ⟨st, op, cs⟩ := r
      simp only at k0 k1 k2 k6 k7
      have hbx : Below wr.heap.size wr (wr.alloc (.cells #[.int .i64 st, .bool op, .slice (some ⟨ci, 0, none⟩) cs.length cpi] 101)) := balloc (Below.refl _ _) _
      have HC1 := hid (spec_copyChs ci cpi cs _ k6 (k7.below hbx))
      clear k7
      go_upto_region 6 with fail
      have gx := new_alloc wr wr.heap.size (.cells #[.int .i64 st, .bool op, .slice (some ⟨ci, 0, none⟩) cs.length cpi] 101) rfl
      have HV1 := hid (HV.out.below hbx)
      have HG0 := hid (keepheap2 hbx G0.out)
      have HG1 := hid (keepheap2 hbx G1.out)
      have HG2 := hid (keepheap2 hbx G2.out)
      have HXR1 := hid (HXR.out.below hbx)
      have HB1 := hid (btrans HBW.out hbx)
      have hs1 : wr.heap.size < (wr.alloc (.cells #[.int .i64 st, .bool op, .slice (some ⟨ci, 0, none⟩) cs.length cpi] 101)).heap.size := by simp
      clear k0 k1 k2 d0 d1 d2 hbx HV G0 G1 G2 HXR
      generalize wr.alloc (.cells #[.int .i64 st, .bool op, .slice (some ⟨ci, 0, none⟩) cs.length cpi] 101) = W1 at *
      generalize wr.heap.size = X at *
      obtain ⟨⟨x0, x1, x2⟩, _⟩ := cellk3 gx
      go_wp2_with fail
      refine HC1.out.mono ?_
      rintro e y ⟨sv, px, rfl, hXc, ⟨g, cp, rfl⟩, hy⟩
      have gy := keepheap2 hy gx
      have hys := hy.size
      have HV2 := hid (HV1.out.below hy)
      have HG0' := hid (keepheap2 hy HG0.out)
      have HG1' := hid (keepheap2 hy HG1.out)
      have HG2' := hid (keepheap2 hy HG2.out)
      have HXR2 := hid (HXR1.out.below hy)
      have HBy := hid (btrans HB1.out hy)
      have hwy := HBy.out.size
      have HO := hid hXc.lc
      clear hy hXc gx HC1 HV1 HG0 HG1 HG2 HXR1 HB1 x0 x1 x2
      obtain ⟨⟨x0, x1, x2⟩, y0, y1, y2⟩ := cellk3 gy
      go_upto_region 7 with fail
      have gq := setk3_2 gy (.slice (some ⟨g, 0, none⟩) cs.length cp)
      have hfar : ∀ b, b ≠ X → (y.setCell ⟨X, 2, none⟩ (.slice (some ⟨g, 0, none⟩) cs.length cp)).heap[b]? = y.heap[b]? := fun b hb => by rw [Below.heap_setCell _ _ _ _ (by dsimp only; omega)]
      have HV3 := hid (HV2.out.frame (w' := y.setCell ⟨X, 2, none⟩ (.slice (some ⟨g, 0, none⟩) cs.length cp)) (fun b h1 h2 => hfar b (by omega)) (by simp))
      have HG0 := hid ((hfar w.heap.size (by omega)).trans HG0'.out)
      have HG1 := hid ((hfar (w.heap.size + 1) (by omega)).trans HG1'.out)
      have g2 := (hfar Q (by omega)).trans HG2'.out
      have HXR3 := hid (HXR2.out.frame (w' := y.setCell ⟨X, 2, none⟩ (.slice (some ⟨g, 0, none⟩) cs.length cp)) (fun b h1 h2 => hfar b (by omega)) (by simp))
      have HB3 := hid (bset HBy.out (q := X) (k := 2) (by omega) (.slice (some ⟨g, 0, none⟩) cs.length cp))
      have HO3 := hid (HO.out.frame (w' := y.setCell ⟨X, 2, none⟩ (.slice (some ⟨g, 0, none⟩) cs.length cp)) (fun b h1 h2 => hfar b (by omega)) (by simp))
      have hs3 : (y.setCell ⟨X, 2, none⟩ (.slice (some ⟨g, 0, none⟩) cs.length cp)).heap.size = y.heap.size := by simp
      have hs3a := Nat.le_of_eq hs3
      have hs3b := Nat.le_of_eq hs3.symm
      clear hs3 hfar HV2 HG0' HG1' HG2' HXR2 HBy HO gy x0 x1 x2 y0 y1 y2
      generalize y.setCell ⟨X, 2, none⟩ (.slice (some ⟨g, 0, none⟩) cs.length cp) = Y at *
      generalize W1.heap.size = W1z at *
      generalize y.heap.size = yz at *
      obtain ⟨⟨x0, x1, x2⟩, _⟩ := cellk3 gq
      obtain ⟨⟨v0, v1, v2⟩, _⟩ := cellk3 g2
      have hownZ : Y.ownsRow (Q + 1) 101 3 v i (flatK KT ps') := by have := HV3.out.2.1; rw [HIL.out] at this; exact this
      have hal2 : Below Y.heap.size Y (Y.alloc (.cells #[.int .i64 st, .bool op, .slice (some ⟨g, 0, none⟩) cs.length cp] 101)) := balloc (Below.refl _ _) _
      have HGE := hid (keepheap2 hal2 g2)
      have hvb : v.ownBlock ≠ some Q := fun e => by have := (hownZ.lt _ e).1; omega
      clear gq g2
      go_wp2_with (at_builtin; (refine wpList_append_lies _ rfl (.tmp 27) (.tmp 29) 38 rfl (Q + 1) 101 i0 _ 3 40 Tryz.underlying38 hi0 hz0 hz1 hz2 rfl (by decide) v i (flatK KT ps') rfl (hownZ.alloc _) ⟨Y.heap.size, 0, none⟩ 1 1 [.int .i64 st, .bool op, .slice (some ⟨g, 0, none⟩) cs.length cp] rfl rfl (World.news_of_block (cs := #[.int .i64 st, .bool op, .slice (some ⟨g, 0, none⟩) cs.length cp]) (t := 101) (fr := (0, 0)) (heap_alloc_new Y _)) (by simp [Value.oneCell']) (by omega) (by unfold maxLen; omega) (by omega) (by simp; omega) (Y.heap.size + 1) (by simp) ?_; intro gg cq w2 hown2 hgrow hat hlt2; have g2 := (hgrow.block Q (lt_of_block HGE.out) (fun e => hvb e.symm)).trans HGE.out; obtain ⟨⟨t0, t1, t2⟩, s0, s1, s2⟩ := cellk3 g2))
      have hsn := LX.snoc (K := KT) (x := (st, op, cs)) (sv := .slice (some ⟨g, 0, none⟩) cs.length cp) (l := W1z) (u := yz) (g := gg) (cap := cq) (HV3.out.below hal2) (by omega) (by omega) (HO3.out.below hal2) (by rw [HIL.out]; exact hown2) hgrow (by simpa using hat) hlt2
      rw [HIL.out] at hsn
      have hb2 : Below w.heap.size w w2 := Below.grown (balloc HB3.out _) hgrow (by simp; omega) (fun k e => by have := (hownZ.lt k e).1; omega)
      have hw2 := hgrow.size
      have hbk : ∀ b, b ≤ Q → w2.heap[b]? = Y.heap[b]? := fun b hb => (hgrow.block b (by simp; omega) (fun e => by have := (hownZ.lt _ e.symm).1; omega)).trans (hal2.block b (by omega))
      have hfar : ∀ b, b ≠ Q → (w2.setCell ⟨Q, 2, none⟩ (.slice (some ⟨gg, 0, none⟩) (i + 1) cq)).heap[b]? = w2.heap[b]? := fun b hb => by rw [Below.heap_setCell _ _ _ _ (by dsimp only; omega)]
      have HF1 := hid ((hsn.frame (w' := w2.setCell ⟨Q, 2, none⟩ (.slice (some ⟨gg, 0, none⟩) (i + 1) cq)) (fun b h1 h2 => hfar b (by omega)) (by simp)).mono (hi' := (w2.setCell ⟨Q, 2, none⟩ (.slice (some ⟨gg, 0, none⟩) (i + 1) cq)).heap.size) (Nat.le_refl _) (by simp) (Nat.le_refl _))
      rw [← HTK.out] at HF1
      have HF2 := hid (((hfar w.heap.size (by omega)).trans (hbk _ (by omega))).trans HG0.out)
      have HF3 := hid (((hfar (w.heap.size + 1) (by omega)).trans (hbk _ (by omega))).trans HG1.out)
      have HF4 : Hid ((w2.setCell ⟨Q, 2, none⟩ (.slice (some ⟨gg, 0, none⟩) (i + 1) cq)).heap[Q]? = some (.cells #[.int .i64 now, .slice a nr c, .slice (some ⟨gg, 0, none⟩) (i + 1) cq] 40 (0, 0))) := hid (setk3_2 g2 _)
      have HF7 := hid (HXR3.out.frame (w' := w2.setCell ⟨Q, 2, none⟩ (.slice (some ⟨gg, 0, none⟩) (i + 1) cq)) (fun b h1 h2 => (hfar b (by omega)).trans (hbk b (by omega))) (by simp at hw2 ⊢; omega))
      have HF5 : Hid (Q < (w2.setCell ⟨Q, 2, none⟩ (.slice (some ⟨gg, 0, none⟩) (i + 1) cq)).heap.size) := hid (by simp at hw2 ⊢; omega)
      have HF6 := hid (bset hb2 (q := Q) (k := 2) (by omega) (.slice (some ⟨gg, 0, none⟩) (i + 1) cq))
      clear hsn hb2 hown2 hgrow hal2 hownZ hfar hbk g2 t0 t1 t2 s0 s1 s2 HGE
      go_roundw
      case rel => exact ⟨i + 1, _, _, by go_num, by omega, HF1, HF2, HF3, HF4, HF7, HF5, HF6⟩
      case measure => simp [intOf]; omega
    · have c1 : (nt : Int) ≤ (i : Int) := by omega
      have hin : i = ts.length := by have := HNT.out; omega
      have hX : LX KT 101 (Q + 1) wr.heap.size wr v ts ps' := by have := HV.out; rw [hin, List.take_length] at this; exact this
      obtain ⟨ta, tcc, rfl⟩ := hX.form
      rw [HNT.out] at hX G2
      have HX := hid hX
      clear hin HV hX
      obtain ⟨⟨v0, v1, v2⟩, s0, s1, s2⟩ := cellk3 G1.out
      obtain ⟨⟨t0, t1, t2⟩, _⟩ := cellk3 G2.out
      go_wp2_with fail
      have gF := setk3 G1.out (.int .i64 now) (.slice a nr c) (.slice ta nt tcc)
      have bF := bset (bset (bset HBW.out (q := w.heap.size + 1) (k := 0) (by omega) (.int .i64 now)) (q := w.heap.size + 1) (k := 1) (by omega) (.slice a nr c)) (q := w.heap.size + 1) (k := 2) (by omega) (.slice ta nt tcc)
      have hfar : ∀ b, b ≠ w.heap.size + 1 → (((wr.setCell ⟨w.heap.size + 1, 0, none⟩ (.int .i64 now)).setCell ⟨w.heap.size + 1, 1, none⟩ (.slice a nr c)).setCell ⟨w.heap.size + 1, 2, none⟩ (.slice ta nt tcc)).heap[b]? = wr.heap[b]? := fun b hb => by rw [Below.heap_setCell _ _ _ _ (by dsimp only; omega), Below.heap_setCell _ _ _ _ (by dsimp only; omega), Below.heap_setCell _ _ _ _ (by dsimp only; omega)]
      have x1 := HXR.out.frame (w' := ((wr.setCell ⟨w.heap.size + 1, 0, none⟩ (.int .i64 now)).setCell ⟨w.heap.size + 1, 1, none⟩ (.slice a nr c)).setCell ⟨w.heap.size + 1, 2, none⟩ (.slice ta nt tcc)) (fun b h1 h2 => hfar b (by omega)) (by simp)
      have x2 := (HX.out.frame (w' := ((wr.setCell ⟨w.heap.size + 1, 0, none⟩ (.int .i64 now)).setCell ⟨w.heap.size + 1, 1, none⟩ (.slice a nr c)).setCell ⟨w.heap.size + 1, 2, none⟩ (.slice ta nt tcc)) (fun b h1 h2 => hfar b (by omega)) (by simp)).lc
      generalize ((wr.setCell ⟨w.heap.size + 1, 0, none⟩ (.int .i64 now)).setCell ⟨w.heap.size + 1, 1, none⟩ (.slice a nr c)).setCell ⟨w.heap.size + 1, 2, none⟩ (.slice ta nt tcc) = wf at *
      obtain ⟨⟨z0, z1, z2⟩, _⟩ := cellk3 gF
      exact bodyPost_ret (v := .agg #[.int .i64 now, .slice a nr c, .slice ta nt tcc]) (by simp [results, Tryz.results36, go_sem, z0, z1, z2]) rfl ⟨a, c, ta, tcc, Wz, Q, Q + 1, wr.heap.size, rfl, ⟨x1, x2⟩, by omega, by omega, bF⟩
end Go.Proofs.YtjhnfbefgjoiiaaGreat
namespace Go.Proofs.YtjhnfbefgjoiiaaGreat
open Go.RowKit
set_option linter.unusedSimpArgs false
set_option linter.unusedVariables false
def sts (ts : List Tx) : List Int := (ts.filter (fun t => t.2.1)).map (fun t => t.1)
theorem sts_next {ts : List Tx} {i : Nat} (h : i < ts.length) : sts (ts.take (i + 1)) = if ts[i].2.1 = true then sts (ts.take i) ++ [ts[i].1] else sts (ts.take i) := by
  unfold sts
  rw [List.take_add_one, List.getElem?_eq_getElem h]
  simp only [Option.toList, List.filter_append, List.map_append]
  cases hb : ts[i].2.1
  · simp [hb]
  · simp [hb]
theorem sts_len (ts : List Tx) : (sts ts).length ≤ ts.length := by
  unfold sts
  rw [List.length_map]
  exact List.length_filter_le _ _
def oldI (now : Int) (ts : List Tx) : Int := match sts ts with
  | [] => now
  | x :: r => r.foldl min x
def oldS (now : Int) (ts : List Tx) : Int := ts.foldl (fun m t => if t.2.1 = true ∧ t.1 < m then t.1 else m) now
theorem oldS_sts (ts : List Tx) : ∀ now, oldS now ts = (sts ts).foldl min now := by
  induction ts with
  | nil => intro now; rfl
  | cons t r ih =>
    intro now
    show oldS (if t.2.1 = true ∧ t.1 < now then t.1 else now) r = _
    rw [ih]
    cases hb : t.2.1
    · have : sts (t :: r) = sts r := by unfold sts; simp [hb]
      rw [this]; simp
    · have : sts (t :: r) = t.1 :: sts r := by unfold sts; simp [hb]
      rw [this, List.foldl_cons]
      congr 1
      by_cases h : t.1 < now
      · rw [if_pos ⟨rfl, h⟩]; omega
      · rw [if_neg (fun q => h q.2)]; omega
theorem old_same {now : Int} {ts : List Tx} (h : ∀ t ∈ ts, t.1 ≤ now) : oldI now ts = oldS now ts := by
  rw [oldS_sts]
  unfold oldI
  cases hs : sts ts with
  | nil => rfl
  | cons x r =>
    have hx : x ≤ now := by
      have : x ∈ sts ts := by rw [hs]; exact List.mem_cons_self
      unfold sts at this
      rw [List.mem_map] at this
      obtain ⟨t, ht, rfl⟩ := this
      exact h t (List.mem_filter.1 ht).1
    show r.foldl min x = (x :: r).foldl min now
    rw [List.foldl_cons, show min now x = x by omega]
theorem Tryz.infoIX : (Tryz.prog.info? 3).map (fun i => (i.zero, i.size, i.bytes)) = some (some (.int .i64 0), 1, 8) := by kernel_rfl
theorem make_intX (n : Nat) (hn : n ≤ 1099511627776) (w : World) : (Instr.makeSlice 108 (.int .i64 0) (.int .i64 n)).run Tryz.prog w = .ok (.slice (some ⟨w.heap.size, 0, none⟩) 0 n) (w.alloc (.cells (madeCells #[.int .i64 0] n) 3)) := by
  obtain ⟨i0, hi, hz0, hz1, hz2⟩ := info_parts Tryz.infoIX
  have := run_make (P := Tryz.prog) w 108 3 i0 _ Tryz.underlying108 hi hz0 .i64 .i64 0 n (by omega) (by omega) (by rw [hz2]; omega) (by omega)
  rw [hz1, Nat.mul_one] at this
  exact this
theorem old_1 (st : Int) (op : Bool) (a : Option Addr) (n cap : Nat) (w : World) : Calls Tryz.prog 76 #[.agg #[.int .i64 st, .bool op, .slice a n cap]] w fun e w' => e = .returned (.tuple #[.int .i64 st, .bool op]) ∧ Below w.heap.size w w' := by
  go_enter Tryz.func76, Tryz.ntmps76
  go_wp2_with fail
  go_quiet (fail)
  go_wp2_with fail
  exact bodyPost_ret (v := .tuple #[.int .i64 st, .bool op]) (by simp [results, Tryz.results76, go_sem]) rfl ⟨rfl, btrans (balloc (Below.refl _ _) _) ⟨rfl, rfl, rfl, Nat.le_refl _, fun _ _ => rfl⟩⟩
set_option maxRecDepth 100000 in
set_option maxHeartbeats 2000000 in
theorem kept_st {N : Nat → Prop} (a : Option Addr) (cap : Nat) (ts : List Tx) (w : World) (hm : ts.length ≤ 1099511627776) (h : Txs N 1099511627776 w a ts) : Calls Tryz.prog 75 #[.slice a ts.length cap, .func (.func 76) #[] #[]] w fun e w' => ∃ g c, e = .returned (.slice (some ⟨g, 0, none⟩) (sts ts).length c) ∧ w'.ownsRow w.heap.size 3 1 (.slice (some ⟨g, 0, none⟩) (sts ts).length c) (sts ts).length ((sts ts).map (Value.int .i64)) ∧ Below w.heap.size w w' := by
  obtain ⟨i0, hi0, hz0, hz1, hz2⟩ := info_parts Tryz.infoIX
  have HR := hid h
  clear h
  have hmk := make_intX ts.length hm
  obtain ⟨n, hn⟩ : ∃ n, n = ts.length := ⟨_, rfl⟩
  have HN := hid hn.symm
  rw [← hn] at hm hmk ⊢
  clear hn
  have hB0 : Below w.heap.size w (w.alloc (.cells (madeCells #[.int .i64 0] n) 3)) := balloc (Below.refl _ _) _
  have HI : Hid ((w.alloc (.cells (madeCells #[.int .i64 0] n) 3)).ownsRow w.heap.size 3 1 (.slice (some ⟨w.heap.size, 0, none⟩) 0 n) 0 (([] : List Int).map (Value.int .i64))) := hid (by
    have := World.ownsRow_made (base := w.heap.size) (e := 3) (size := 1) w (madeCells #[.int .i64 0] n) n (Nat.le_refl _) (by unfold maxLen; omega) (by rw [size_madeCells, Nat.mul_one])
    simpa using this)
  go_enter Tryz.func75, Tryz.ntmps75
  go_upto_region 2 with fail
  generalize w.alloc (.cells (madeCells #[.int .i64 0] n) 3) = W0 at *
  clear hmk
  go_wp2_with fail
  go_loopw [5, 15] (fun tv ti wr => ∃ i g5 c5 : Nat, ∃ zs : List Int, ti = .int .i64 i ∧ i ≤ n ∧ tv = .slice (some ⟨g5, 0, none⟩) zs.length c5 ∧ zs.length ≤ i ∧ Hid (zs = sts (ts.take i)) ∧ Hid (wr.ownsRow w.heap.size 3 1 (.slice (some ⟨g5, 0, none⟩) zs.length c5) zs.length (zs.map (Value.int .i64))) ∧ Hid (Below w.heap.size w wr)) (fun _ ti _ => n - (intOf ti).toNat)
  case atStart => exact ⟨0, w.heap.size, n, [], rfl, Nat.zero_le _, rfl, Nat.zero_le _, hid rfl, HI, hid hB0⟩
  case round =>
    clear HI hB0
    obtain ⟨i, g5, c5, zs, rfl, hi, rfl, hzi, HZ, HV, HBW⟩ := hrel
    have hwX := HBW.out.size
    by_cases hlt : i < n
    · have d1 : (i : Int) < (n : Int) := by omega
      have hir : i < ts.length := by rw [HN.out]; exact hlt
      obtain ⟨b, o, rfl, hbs, a', cap', k0, k1, k2, _, _, _, _⟩ := (HR.out.below HBW.out).at i hir
      have HX := hid (sts_next hir)
      rw [← HZ.out] at HX
      generalize ts[i].1 = st at *
      generalize ts[i].2.1 = op at *
      generalize ts[i].2.2.length = np at *
      have hbx : Below wr.heap.size wr (wr.alloc (.cells #[.int .i64 st, .bool op, .slice a' np cap'] 101)) := balloc (Below.refl _ _) _
      go_upto_region 5 with fail
      have gx := new_alloc wr wr.heap.size (.cells #[.int .i64 st, .bool op, .slice a' np cap'] 101) rfl
      have HV1 := hid (HV.out.alloc (.cells #[.int .i64 st, .bool op, .slice a' np cap'] 101))
      have HB1 := hid (btrans HBW.out hbx)
      clear k0 k1 k2 hbx HV
      generalize wr.alloc (.cells #[.int .i64 st, .bool op, .slice a' np cap'] 101) = W1 at *
      obtain ⟨⟨x0, x1, x2⟩, _⟩ := cellk3 gx
      clear gx
      go_wp2_with fail
      refine (old_1 st op a' np cap' _).mono ?_
      rintro e z ⟨rfl, hz⟩
      have HBz := hid (btrans HB1.out hz)
      have HVz := hid (own_frame HV1.out (fun g e => hz.block g (HV1.out.lt g e).2))
      clear hz x0 x1 x2 HV1 HB1
      cases op
      · have HZ2 : Hid (zs = sts (ts.take (i + 1))) := hid (by rw [HX.out]; simp)
        go_wp2_with fail
        go_roundw
        case rel => exact ⟨i + 1, g5, c5, zs, by go_num, by omega, rfl, by omega, HZ2, HVz, HBz⟩
        case measure => simp [intOf]; omega
      · have HZ2 : Hid (zs ++ [st] = sts (ts.take (i + 1))) := hid (by rw [HX.out]; simp)
        have hown := HVz.out
        have hzw := HBz.out.size
        clear HX HVz HZ
        go_wp2_with (at_builtin; refine wpList_append_lies _ rfl (.tmp 26) (.tmp 28) 108 rfl w.heap.size 3 i0 _ 1 8 Tryz.underlying108 hi0 hz0 hz1 hz2 rfl (by decide) _ _ _ rfl (hown.alloc _) ⟨z.heap.size, 0, none⟩ 1 1 [.int .i64 st] rfl rfl (World.news_of_block (cs := #[.int .i64 st]) (t := 3) (fr := (0, 0)) (heap_alloc_new z _)) (by simp [Value.oneCell']) (by omega) (by unfold maxLen; omega) (by omega) (by simp; omega) (z.heap.size + 1) (by simp) ?_; intro gg cq w2 hown2 hgrow hat hlt2)
        have HO2 : Hid (w2.ownsRow w.heap.size 3 1 (.slice (some ⟨gg, 0, none⟩) (zs ++ [st]).length cq) (zs ++ [st]).length ((zs ++ [st]).map (Value.int .i64))) := hid (by simpa using hown2)
        have HB2 := hid (Below.grown (balloc HBz.out (.cells #[.int .i64 st] 3)) hgrow (by simp; omega) (fun k e => (hown.lt k e).1))
        have hln : zs.length + 1 = (zs ++ [st]).length := by simp
        clear hown2 hgrow hown
        go_roundw
        case rel => exact ⟨i + 1, gg, cq, zs ++ [st], by go_num, by omega, by rw [← hln], by rw [← hln]; omega, HZ2, HO2, HB2⟩
        case measure => simp [intOf]; omega
    · have d1 : (n : Int) ≤ (i : Int) := by omega
      have hin : i = ts.length := by have := HN.out; omega
      have hzs : zs = sts ts := by rw [HZ.out, hin, List.take_length]
      subst hzs
      clear hin
      go_wp2_with fail
      go_ret
      exact ⟨g5, c5, rfl, HV.out, HBW.out⟩
set_option maxRecDepth 100000 in
set_option maxHeartbeats 1000000 in
theorem min_ints (B g c : Nat) (x : Int) (r : List Int) (w : World) (hm : r.length ≤ 1099511627776) (h : w.ownsRow B 3 1 (.slice (some ⟨g, 0, none⟩) (r.length + 1) c) (r.length + 1) ((x :: r).map (Value.int .i64))) : Calls Tryz.prog 77 #[.slice (some ⟨g, 0, none⟩) (r.length + 1) c] w fun e w' => e = .returned (.int .i64 (r.foldl min x)) ∧ w' = w := by
  have HC : Hid (∀ j (hj : j < (x :: r).length), w.cell? ⟨g, j, none⟩ = some (.int .i64 (x :: r)[j])) := hid (fun j hj => by
    rw [World.ownsRow.cellAt h j (by simp at hj; omega), List.getElem?_map, List.getElem?_eq_getElem hj]; rfl)
  clear h
  have c0 : w.cell? ⟨g, 0, none⟩ = some (.int .i64 x) := HC.out 0 (by simp)
  have h0 : ¬ ((r.length : Int) + 1 < 1) := by omega
  go_enter Tryz.func77, Tryz.ntmps77
  go_wp2_with fail
  go_loopw [3, 4] (fun tm ti wr => ∃ j : Nat, ∃ m : Int, ti = .int .i64 ((j : Int) + 1) ∧ tm = .int .i64 m ∧ j ≤ r.length ∧ Hid (m = (r.take j).foldl min x) ∧ wr = w) (fun _ ti _ => r.length + 1 - (intOf ti).toNat)
  case atStart => exact ⟨0, x, by simp, rfl, Nat.zero_le _, hid rfl, rfl⟩
  case round =>
    obtain ⟨j, m, rfl, rfl, hj, HM, hw⟩ := hrel
    subst hw
    by_cases hlt : j < r.length
    · have c1 : (j : Int) + 1 < (r.length : Int) + 1 := by omega
      have cj : wr.cell? ⟨g, j + 1, none⟩ = some (.int .i64 r[j]) := HC.out (j + 1) (by simp; omega)
      have HN : Hid ((r.take (j + 1)).foldl min x = min m r[j]) := hid (by rw [List.take_add_one, List.getElem?_eq_getElem hlt, List.foldl_append, HM.out]; rfl)
      generalize r[j] = q at *
      have HN2 : Hid (min m q = (r.take (j + 1)).foldl min x) := hid HN.out.symm
      clear HN HM
      go_wp2_with fail
      go_roundw
      case rel => exact ⟨j + 1, _, by go_num, rfl, by omega, HN2, by first | rfl | trivial⟩
      case measure => simp [intOf]; omega
    · obtain rfl : j = r.length := by omega
      rw [List.take_length] at HM
      have c1 : ¬ ((r.length : Int) + 1 < (r.length : Int) + 1) := by omega
      go_wp2_with fail
      go_ret
      exact ⟨by first | (rw [HM.out]; done) | (rw [HM.out]; rfl), rfl⟩
set_option maxRecDepth 100000 in
set_option maxHeartbeats 1000000 in
theorem impl_Oldest {N : Nat → Prop} (now : Int) (a ta : Option Addr) (nr cap tcap : Nat) (ts : List Tx) (w : World) (htm : ts.length ≤ 1099511627776) (h : Txs N 1099511627776 w ta ts) : Calls Tryz.prog 42 #[.agg #[.int .i64 now, .slice a nr cap, .slice ta ts.length tcap]] w fun e w' => e = .returned (.int .i64 (oldI now ts)) ∧ Below w.heap.size w w' := by
  have hB : Below w.heap.size w (w.alloc (.cells #[.int .i64 now, .slice a nr cap, .slice ta ts.length tcap] 40)) := balloc (Below.refl _ _) _
  have HK := hid (kept_st ta tcap ts _ htm (h.below hB))
  have gS := new_alloc w w.heap.size (.cells #[.int .i64 now, .slice a nr cap, .slice ta ts.length tcap] 40) rfl
  have hl := sts_len ts
  clear h
  obtain ⟨ans, hans⟩ : ∃ ans, ans = oldI now ts := ⟨_, rfl⟩
  rw [← hans]
  have HA := hid hans
  unfold oldI at HA
  clear hans
  generalize sts ts = zs at *
  have hzl : zs.length ≤ 1099511627776 := by omega
  clear hl
  generalize ts.length = nt at *
  go_enter Tryz.func42, Tryz.ntmps42
  go_wp2_with fail
  generalize w.alloc (.cells #[.int .i64 now, .slice a nr cap, .slice ta nt tcap] 40) = W at *
  refine HK.out.mono ?_
  rintro e y ⟨g, c, rfl, hown, hy⟩
  replace gS := keepheap2 hy gS
  replace hB := btrans hB hy
  have HO := hid hown
  obtain ⟨⟨x0, x1, x2⟩, _⟩ := cellk3 gS
  clear hy hown HK gS
  cases zs with
  | nil =>
    go_wp2_with fail
    go_ret
    exact ⟨by first | (rw [HA.out]; done) | (rw [HA.out]; rfl), hB⟩
  | cons x r =>
    have hne : (((x :: r).length : Int) == 0) = false := by rw [beq_eq_false_iff_ne]; simp; omega
    have hl2 : (x :: r).length = r.length + 1 := rfl
    have hne2 : ((r.length : Int) + 1 == 0) = false := by rw [beq_eq_false_iff_ne]; omega
    have HM := hid (min_ints W.heap.size g c x r y (by simp at hzl; omega) HO.out)
    go_wp2_with fail
    refine HM.out.mono ?_
    rintro e z ⟨rfl, hz⟩
    replace hz := hz.symm
    subst hz
    go_wp2_with fail
    go_ret
    exact ⟨by first | (rw [HA.out]; done) | (rw [HA.out]; rfl), hB⟩
set_option maxRecDepth 100000 in
set_option maxHeartbeats 2000000 in
theorem spec_Oldest {N : Nat → Prop} (now : Int) (a ta : Option Addr) (nr cap tcap : Nat) (ts : List Tx) (w : World) (htm : ts.length ≤ 1099511627776) (h : Txs N 1099511627776 w ta ts) : Calls Tryz.prog 38 #[.agg #[.int .i64 now, .slice a nr cap, .slice ta ts.length tcap]] w fun e w' => e = .returned (.int .i64 (oldS now ts)) ∧ Below w.heap.size w w' := by
  have hB : Below w.heap.size w (w.alloc (.cells #[.int .i64 now, .slice a nr cap, .slice ta ts.length tcap] 40)) := balloc (Below.refl _ _) _
  have HR := hid (h.below hB)
  have gS := new_alloc w w.heap.size (.cells #[.int .i64 now, .slice a nr cap, .slice ta ts.length tcap] 40) rfl
  clear h
  obtain ⟨n, hn⟩ : ∃ n, n = ts.length := ⟨_, rfl⟩
  have HN := hid hn.symm
  have HF : Hid (∀ q : Int, q = oldS now (ts.take n) → Ending.returned (.int .i64 q) = .returned (.int .i64 (oldS now ts))) := hid (fun q e => by rw [e, hn, List.take_length])
  rw [← hn] at htm hB HR gS ⊢
  clear hn
  go_enter Tryz.func38, Tryz.ntmps38
  go_upto_region 1 with fail
  generalize w.alloc (.cells #[.int .i64 now, .slice a nr cap, .slice ta n tcap] 40) = W at *
  obtain ⟨⟨x0, x1, x2⟩, _⟩ := cellk3 gS
  have X0 := hid x0
  have X2 := hid x2
  clear x1 gS
  go_wp2_with fail
  go_loopw [3, 4] (fun tm ti wr => ∃ j : Nat, ∃ m : Int, ti = .int .i64 j ∧ tm = .int .i64 m ∧ j ≤ n ∧ Hid (m = oldS now (ts.take j)) ∧ wr = W) (fun _ ti _ => n - (intOf ti).toNat)
  case atStart => exact ⟨0, now, rfl, rfl, Nat.zero_le _, hid rfl, rfl⟩
  case round =>
    obtain ⟨j, m, rfl, rfl, hj, HM, hw⟩ := hrel
    subst hw
    by_cases hlt : j < n
    · have c1 : (j : Int) < (n : Int) := by omega
      have hjr : j < ts.length := by rw [HN.out]; exact hlt
      obtain ⟨b, o, rfl, hbs, a', cap', k0, k1, k2, _, _, _, _⟩ := HR.out.at j hjr
      have HX : Hid (oldS now (ts.take (j + 1)) = if ts[j].2.1 = true ∧ ts[j].1 < m then ts[j].1 else m) := hid (by
        have e : ts.take (j + 1) = ts.take j ++ [ts[j]] := by rw [List.take_add_one, List.getElem?_eq_getElem hjr]; rfl
        rw [e, HM.out]
        unfold oldS
        rw [List.foldl_append]
        rfl)
      generalize ts[j].1 = st at *
      generalize ts[j].2.1 = op at *
      cases op
      · have HX2 : Hid (m = oldS now (ts.take (j + 1))) := hid (by rw [HX.out]; simp)
        clear HX
        go_wp2_with fail
        go_roundw
        case rel => exact ⟨j + 1, _, by go_num, rfl, by omega, HX2, by first | rfl | trivial⟩
        case measure => simp [intOf]; omega
      · by_cases hs : st < m
        · have HX2 : Hid (st = oldS now (ts.take (j + 1))) := hid (by rw [HX.out, if_pos ⟨rfl, hs⟩])
          clear HX
          go_wp2_with fail
          go_roundw
          case rel => exact ⟨j + 1, _, by go_num, rfl, by omega, HX2, by first | rfl | trivial⟩
          case measure => simp [intOf]; omega
        · have HX2 : Hid (m = oldS now (ts.take (j + 1))) := hid (by rw [HX.out, if_neg (fun q => hs q.2)])
          clear HX
          go_wp2_with fail
          go_roundw
          case rel => exact ⟨j + 1, _, by go_num, rfl, by omega, HX2, by first | rfl | trivial⟩
          case measure => simp [intOf]; omega
    · obtain rfl : j = n := by omega
      have c1 : (j : Int) ≤ (j : Int) := by omega
      go_wp2_with fail
      go_ret
      exact ⟨HF.out _ HM.out, hB⟩
end Go.Proofs.YtjhnfbefgjoiiaaGreat
namespace Go.Proofs.YtjhnfbefgjoiiaaGreat
open Go.RowKit
set_option linter.unusedSimpArgs false
set_option linter.unusedVariables false
/-- Ended by t. -/
def eend (t : Int) (x : El) : Bool := decide (x.2.2.1 ≠ 0) && decide (x.2.2.1 ≤ t)
theorem ended_1 (id fr te kd : Int) (a : Option Addr) (n cap : Nat) (t : Int) (p : Nat) (w : World) (c1 : w.cell? ⟨p, 0, none⟩ = some (.int .i64 t)) : Calls Tryz.prog 64 #[.agg #[.int .i64 id, .int .i64 fr, .int .i64 te, .int .i64 kd, .slice a n cap], .pointer (some ⟨p, 0, none⟩)] w fun e w' => e = .returned (.bool (decide (te ≠ 0) && decide (te ≤ t))) ∧ Below w.heap.size w w' := by
  have HE := hid (fun W => impl_ended (id, fr, te, kd, List.replicate n (0, 0)) a cap t W)
  unfold rwv at HE
  simp only [List.length_replicate] at HE
  have hB : Below w.heap.size w (w.alloc (.cells #[.int .i64 id, .int .i64 fr, .int .i64 te, .int .i64 kd, .slice a n cap] 57)) := balloc (Below.refl _ _) _
  have g0 := new_alloc w w.heap.size (.cells #[.int .i64 id, .int .i64 fr, .int .i64 te, .int .i64 kd, .slice a n cap] 57) rfl
  replace c1 := keepcell hB c1
  go_enter Tryz.func64, Tryz.ntmps64
  go_upto_region 1 with fail
  generalize w.alloc (.cells #[.int .i64 id, .int .i64 fr, .int .i64 te, .int .i64 kd, .slice a n cap] 57) = W at *
  obtain ⟨⟨x0, x1, x2, x3, x4⟩, _⟩ := cell5g g0
  go_wp2_with fail
  refine (HE.out _).mono ?_
  rintro e z ⟨rfl, hz⟩
  go_wp2_with fail
  go_ret
  exact ⟨by simp, btrans hB hz⟩
theorem fnd_yes {xs : List El} {q : El → Bool} {i : Nat} (hi : i < xs.length) (hb : ∀ m (h : m < xs.length), m < i → q xs[m] = false) (h : q xs[i] = true) : xs.findIdx q = i := by
  rw [List.findIdx_eq hi]
  exact ⟨h, fun j hj => by simp [hb j (by omega) hj]⟩
theorem fnd_no {xs : List El} {q : El → Bool} (hb : ∀ m (h : m < xs.length), q xs[m] = false) : xs.findIdx q = xs.length := by
  rw [List.findIdx_eq_length]
  intro x hx
  obtain ⟨m, hm, rfl⟩ := List.getElem_of_mem hx
  simp [hb m hm]
set_option maxRecDepth 100000 in
set_option maxHeartbeats 2000000 in
theorem index_ended (g cap : Nat) (xs : List El) (t : Int) (p : Nat) (w : World) (hm : xs.length ≤ 1099511627776) (hg : g < w.heap.size) (h : ElsAt w g 0 xs) (c1 : w.cell? ⟨p, 0, none⟩ = some (.int .i64 t)) : Calls Tryz.prog 100 #[.slice (some ⟨g, 0, none⟩) xs.length cap, .func (.func 64) #[] #[.pointer (some ⟨p, 0, none⟩)]] w fun e w' => e = .returned (.int .i64 (if xs.findIdx (eend t) < xs.length then (xs.findIdx (eend t) : Int) else -1)) ∧ Below w.heap.size w w' := by
  have HR := hid h
  have HC := hid c1
  clear h c1
  have HNO : Hid ((∀ m (h : m < xs.length), eend t xs[m] = false) → (if xs.findIdx (eend t) < xs.length then (xs.findIdx (eend t) : Int) else -1) = -1) := hid (fun hb => by rw [fnd_no hb]; simp)
  have HYE : Hid (∀ i (hi : i < xs.length), (∀ m (h : m < xs.length), m < i → eend t xs[m] = false) → eend t xs[i] = true → (if xs.findIdx (eend t) < xs.length then (xs.findIdx (eend t) : Int) else -1) = (i : Int)) := hid (fun i hi hb h => by rw [fnd_yes hi hb h, if_pos hi])
  generalize (if xs.findIdx (eend t) < xs.length then (xs.findIdx (eend t) : Int) else -1) = q at *
  obtain ⟨n, hn⟩ : ∃ n, n = xs.length := ⟨_, rfl⟩
  have HN := hid hn.symm
  rw [← hn] at hm ⊢
  clear hn
  go_enter Tryz.func100, Tryz.ntmps100
  go_wp2_with fail
  go_loopw [8] (fun ti wr => ∃ i : Nat, ti = .int .i64 i ∧ i ≤ n ∧ Hid (∀ m (h : m < xs.length), m < i → eend t xs[m] = false) ∧ Hid (Below w.heap.size w wr)) (fun ti _ => n - (intOf ti).toNat)
  case atStart => exact ⟨0, rfl, Nat.zero_le _, hid (fun m h hh => absurd hh (by omega)), hid (Below.refl _ _)⟩
  case round =>
    obtain ⟨i, rfl, hi, HA, HBW⟩ := hrel
    by_cases hlt : i < n
    · have d1 : (i : Int) < (n : Int) := by omega
      have hir : i < xs.length := by rw [HN.out]; exact hlt
      obtain ⟨k0, k1, k2, k3, k4⟩ := HR.out i hir
      replace k0 := keepcell HBW.out k0
      replace k1 := keepcell HBW.out k1
      replace k2 := keepcell HBW.out k2
      replace k3 := keepcell HBW.out k3
      replace k4 := keepcell HBW.out k4
      rw [Nat.zero_add] at k0 k1 k2 k3 k4
      have c1 := keepcell HBW.out HC.out
      have HY := hid (HYE.out i hir HA.out)
      have HX : Hid (eend t xs[i] = false → ∀ m (h : m < xs.length), m < i + 1 → eend t xs[m] = false) := hid (fun e m h hm => by
        by_cases e2 : m = i
        · subst e2; exact e
        · exact HA.out m h (by omega))
      have HQ : Hid (eend t xs[i] = (decide (xs[i].2.2.1 ≠ 0) && decide (xs[i].2.2.1 ≤ t))) := hid rfl
      generalize eend t xs[i] = eb at *
      generalize xs[i].2.2.2.2.2.2 = v6 at *
      generalize xs[i].2.2.2.2.2.1 = v5 at *
      generalize xs[i].2.2.2.2.1 = v4 at *
      generalize xs[i].2.2.2.1 = v3 at *
      generalize xs[i].2.2.1 = v2 at *
      generalize xs[i].2.1 = v1 at *
      generalize xs[i].1 = v0 at *
      have HE := hid (fun W c1 => ended_1 v0 v1 v2 v3 v4 v5 v6 t p W c1)
      rw [← HQ.out] at HE
      clear HQ
      go_wp2_with fail
      refine (HE.out _ c1).mono ?_
      rintro e z ⟨rfl, hz⟩
      have HBz := hid (btrans HBW.out hz)
      clear hz k0 k1 k2 k3 k4 c1
      cases eb
      · have HF := hid (HX.out rfl)
        go_wp2_with fail
        go_roundw
        case rel => exact ⟨i + 1, by go_num, by omega, HF, HBz⟩
        case measure => simp [intOf]; omega
      · have HF := hid (HY.out rfl)
        go_wp2_with fail
        go_ret
        exact ⟨by rw [HF.out]; rfl, HBz.out⟩
    · have d1 : (n : Int) ≤ (i : Int) := by omega
      have HF := hid (HNO.out (fun m h => HA.out m h (by have := HN.out; omega)))
      go_wp2_with fail
      go_ret
      exact ⟨by rw [HF.out]; rfl, HBW.out⟩
theorem own_frameV {w w' : World} {B : Nat} {e : TypeId} {sz : Nat} {v : Value} {n : Nat} {xs : List Value} (h : w.ownsRow B e sz v n xs) (hb : ∀ g, v.ownBlock = some g → w'.heap[g]? = w.heap[g]?) : w'.ownsRow B e sz v n xs := by
  refine ⟨h.1, ?_⟩
  rcases h.2 with q | ⟨g, c, cur, e1, q1, q2, q3⟩
  · exact .inl q
  · refine .inr ⟨g, c, cur, e1, q1, ?_, q3⟩
    rw [hb g (by rw [e1]; rfl)]; exact q2
/-- But for one block, nothing that was there is changed. -/
def But (g : Nat) (w w' : World) : Prop := w.heap.size ≤ w'.heap.size ∧ (∀ b, b < w.heap.size → b ≠ g → w'.heap[b]? = w.heap[b]?) ∧ (w'.os = w.os ∧ w'.tape = w.tape ∧ w'.output = w.output)
theorem But.below {g : Nat} {w y z : World} (h : But g w y) (H : Below y.heap.size y z) : But g w z :=
  ⟨Nat.le_trans h.1 H.size, fun b h1 h2 => (H.block b (Nat.lt_of_lt_of_le h1 h.1)).trans (h.2.1 b h1 h2), H.os.trans h.2.2.1, H.tape.trans h.2.2.2.1, H.output.trans h.2.2.2.2⟩
theorem But.set {g k : Nat} {w y : World} (h : But g w y) (u : Value) : But g w (y.setCell ⟨g, k, none⟩ u) :=
  ⟨by have := h.1; simpa using this, fun b h1 h2 => by rw [Below.heap_setCell _ _ _ _ (by dsimp only; omega)]; exact h.2.1 b h1 h2, h.2.2⟩
theorem But.sets {g : Nat} {w : World} : ∀ (vs : List Value) (k : Nat) (y : World), But g w y → But g w (y.setCells g k vs)
  | [], _, _, h => h
  | v :: r, k, y, h => But.sets r (k + 1) _ (h.set v)
theorem set5L {α : Type} (L : List α) (k : Nat) (a b c d e : α) (h : k + 5 ≤ L.length) : ((((L.set k a).set (k + 1) b).set (k + 2) c).set (k + 3) d).set (k + 4) e = L.take k ++ [a, b, c, d, e] ++ L.drop (k + 5) := by
  obtain ⟨A, o0, o1, o2, o3, o4, R, rfl, hA⟩ : ∃ A o0 o1 o2 o3 o4 R, L = A ++ o0 :: o1 :: o2 :: o3 :: o4 :: R ∧ A.length = k := by
    have e := (List.take_append_drop k L).symm
    have hl : (L.drop k).length = L.length - k := by simp
    match hd : L.drop k, hl with
    | [], hl => simp at hl; omega
    | [_], hl => simp at hl; omega
    | [_, _], hl => simp at hl; omega
    | [_, _, _], hl => simp at hl; omega
    | [_, _, _, _], hl => simp at hl; omega
    | o0 :: o1 :: o2 :: o3 :: o4 :: R, _ => exact ⟨L.take k, o0, o1, o2, o3, o4, R, by rw [← hd]; exact e, by simp; omega⟩
  subst hA
  simp [List.set_append, List.take_append, List.drop_append]
theorem flat5_take (xs : List El) : ∀ i, (flat5 xs).take (i * 5) = flat5 (xs.take i) := by
  induction xs with
  | nil => intro i; simp [flat5]
  | cons x r ih =>
    intro i
    cases i with
    | zero => simp [flat5]
    | succ i =>
      show ((ev x) ++ flat5 r).take _ = ev x ++ flat5 (r.take i)
      rw [List.take_append, List.take_of_length_le (by simp [ev]; omega), ← ih i]
      congr 2
      simp [ev]; omega
theorem flat5_drop (xs : List El) : ∀ i, (flat5 xs).drop (i * 5) = flat5 (xs.drop i) := by
  induction xs with
  | nil => intro i; simp [flat5]
  | cons x r ih =>
    intro i
    cases i with
    | zero => simp [flat5]
    | succ i =>
      show ((ev x) ++ flat5 r).drop _ = flat5 (r.drop i)
      rw [List.drop_append, List.drop_of_length_le (by simp [ev]; omega), ← ih i, List.nil_append]
      congr 1
      simp [ev]; omega
theorem flat5_set (xs : List El) (i : Nat) (x : El) (h : i < xs.length) : flat5 (xs.set i x) = (flat5 xs).take (i * 5) ++ ev x ++ (flat5 xs).drop (i * 5 + 5) := by
  rw [show i * 5 + 5 = (i + 1) * 5 by omega, flat5_take, flat5_drop, List.set_eq_take_append_cons_drop, if_pos h]
  simp [flat5]
theorem own_set5 {w : World} {base g c n i : Nat} {t : TypeId} {xs : List Value} (h : w.ownsRow base t 5 (.slice (some ⟨g, 0, none⟩) n c) n xs) (hi : i < n) (x0 x1 x2 x3 x4 : Value) : (((((w.setCell ⟨g, i * 5, none⟩ x0).setCell ⟨g, i * 5 + 1, none⟩ x1).setCell ⟨g, i * 5 + 2, none⟩ x2).setCell ⟨g, i * 5 + 3, none⟩ x3).setCell ⟨g, i * 5 + 4, none⟩ x4).ownsRow base t 5 (.slice (some ⟨g, 0, none⟩) n c) n (xs.take (i * 5) ++ [x0, x1, x2, x3, x4] ++ xs.drop (i * 5 + 5)) := by
  have hxl := h.1
  refine ⟨by simp; omega, ?_⟩
  rcases h.2 with ⟨q, _⟩ | ⟨g', c', cur, e, q1, q2, q3, q4, q5, q6⟩
  · cases q
  · cases e
    refine .inr ⟨g, c, _, rfl, q1, set_at (set_at (set_at (set_at (set_at q2)))), q3, q4, by simp; omega, ?_⟩
    have hcl : cur.toList.length = c * 5 := by simpa using q5
    have e1 : (((((cur.setIfInBounds (i * 5) x0).setIfInBounds (i * 5 + 1) x1).setIfInBounds (i * 5 + 2) x2).setIfInBounds (i * 5 + 3) x3).setIfInBounds (i * 5 + 4) x4).toList = cur.toList.take (i * 5) ++ [x0, x1, x2, x3, x4] ++ cur.toList.drop (i * 5 + 5) := by
      simp only [Array.toList_setIfInBounds]
      exact set5L _ _ _ _ _ _ _ (by omega)
    rw [e1]
    obtain ⟨r, hr⟩ : ∃ r, cur.toList = xs ++ r := ⟨cur.toList.drop (n * 5), by rw [← q6]; exact (List.take_append_drop _ _).symm⟩
    have f1 : cur.toList.take (i * 5) = xs.take (i * 5) := by rw [hr, List.take_append_of_le_length (by omega)]
    have f2 : cur.toList.drop (i * 5 + 5) = xs.drop (i * 5 + 5) ++ r := by rw [hr, List.drop_append_of_le_length (by omega)]
    rw [f1, f2, ← List.append_assoc, List.take_append_of_le_length (by simp; omega)]
    exact List.take_of_length_le (by simp; omega)
theorem own_cells5 {w : World} {base g c n : Nat} {t : TypeId} {xs : List Value} (h : w.ownsRow base t 5 (.slice (some ⟨g, 0, none⟩) n c) n xs) : ∀ k, k < c * 5 → (w.cell? ⟨g, k, none⟩).isSome = true ∧ w.frozen? ⟨g, k, none⟩ = false := by
  rcases h.2 with ⟨q, _⟩ | ⟨g', c', cur, e, q1, q2, q3, q4, q5, q6⟩
  · cases q
  · cases e
    intro k hk
    refine ⟨?_, by simp [World.frozen?, q2]⟩
    simp [World.cell?, q2, Array.getElem?_eq_getElem (show k < cur.size by omega)]
theorem own_els {w : World} {base g c n : Nat} {t : TypeId} {xs : List El} (h : w.ownsRow base t 5 (.slice (some ⟨g, 0, none⟩) n c) n (flat5 xs)) : ElsAt w g 0 xs := by
  intro j hj
  obtain ⟨h0, h1, h2, h3, h4⟩ := flat5_at xs j hj
  have hc := h.cells (g := g) rfl
  have hc : ∀ j u, (flat5 xs)[j]? = some u → w.cell? ⟨g, j, none⟩ = some u := fun j u e => by
    have := hc j u e
    have ha : (⟨g, 0, none⟩ : Addr).add j = ⟨g, j, none⟩ := by unfold Addr.add; split <;> simp_all
    rwa [ha] at this
  simp only [Nat.zero_add]
  exact ⟨hc _ _ h0, hc _ _ h1, hc _ _ h2, hc _ _ h3, hc _ _ h4⟩
theorem set_at' {w : World} {p : Nat} {cs : Array Value} {t : TypeId} {fr : Nat × Nat} : ∀ (vs : List Value) (k : Nat), w.heap[p]? = some (.cells cs t fr) → ∃ cs', (w.setCells p k vs).heap[p]? = some (.cells cs' t fr) ∧ cs'.size = cs.size ∧ cs'.toList.take k = cs.toList.take k := by
  intro vs
  induction vs generalizing w cs with
  | nil => intro k h; exact ⟨cs, h, rfl, rfl⟩
  | cons v r ih =>
    intro k h
    obtain ⟨cs', e1, e2, e3⟩ := ih (w := w.setCell ⟨p, k, none⟩ v) (cs := cs.setIfInBounds k v) (k + 1) (set_at h)
    refine ⟨cs', e1, by simpa using e2, ?_⟩
    have := congrArg (List.take k) e3
    rw [List.take_take, List.take_take, Nat.min_eq_left (by omega)] at this
    rw [this, Array.toList_setIfInBounds]
    apply List.ext_getElem?
    intro m
    rw [List.getElem?_take, List.getElem?_take, List.getElem?_set]
    by_cases hm : m < k
    · rw [if_pos hm, if_pos hm, if_neg (by omega)]
    · rw [if_neg hm, if_neg hm]
/-- What is left behind the end is put away. -/
theorem own_cut {w : World} {base g c n i : Nat} {t : TypeId} {ys : List El} (h : w.ownsRow base t 5 (.slice (some ⟨g, 0, none⟩) n c) n (flat5 ys)) (hy : ys.length = n) (hi : i ≤ n) (vs : List Value) : (w.setCells g (i * 5) vs).ownsRow base t 5 (.slice (some ⟨g, 0, none⟩) i c) i (flat5 (ys.take i)) := by
  refine ⟨by rw [flat5_len]; simp; omega, ?_⟩
  rcases h.2 with ⟨q, _⟩ | ⟨g', c', cur, e, q1, q2, q3, q4, q5, q6⟩
  · cases q
  · cases e
    obtain ⟨cs, e1, e2, e3⟩ := set_at' vs (i * 5) q2
    refine .inr ⟨g, c, cs, rfl, q1, e1, by omega, q4, by omega, ?_⟩
    rw [e3, ← flat5_take, ← q6, List.take_take, Nat.min_eq_left (by omega)]
theorem run_clear_rows (w : World) (base g c n i : Nat) (xs : List Value) (h : w.ownsRow base 57 5 (.slice (some ⟨g, 0, none⟩) n c) n xs) (hi : i < n) (cc : Nat) : ∃ vs, ∀ ty, (Builtin.clear_ #[26] ty #[.slice (some ⟨g, i * 5, none⟩) (n - i) cc]).run Tryz.prog w = .ok (.tuple #[]) (w.setCells g (i * 5) vs) := by
  obtain ⟨i0, hi0, hz0, hz1, hz2⟩ := info_parts Tryz.infoRw
  have hc := own_cells5 h
  have hnc : n ≤ c := by
    rcases h.2 with ⟨q, _⟩ | ⟨g', c', cur, e, q1, q2, q3, q4, q5, q6⟩
    · cases q
    · cases e; exact q3
  refine ⟨(Builtin.zeroCells #[.int .i64 0, .int .i64 0, .int .i64 0, .int .i64 0, .slice none 0 0] (n - i)).toList, fun ty => ?_⟩
  have hl : (Builtin.zeroCells #[.int .i64 0, .int .i64 0, .int .i64 0, .int .i64 0, .slice none 0 0] (n - i)).toList.length = (n - i) * 5 := by simp [Builtin.zeroCells]
  have h1 : ∀ v ∈ (Builtin.zeroCells #[.int .i64 0, .int .i64 0, .int .i64 0, .int .i64 0, .slice none 0 0] (n - i)).toList, v.oneCell' = true := by
    intro v hv
    simp [Builtin.zeroCells] at hv
    obtain ⟨k, hk, rfl⟩ := hv
    obtain e | e | e | e | e : k % 5 = 0 ∨ k % 5 = 1 ∨ k % 5 = 2 ∨ k % 5 = 3 ∨ k % 5 = 4 := by omega
    all_goals (rw [e]; rfl)
  have hst := run_storeCells_cells (P := Tryz.prog) g (i * 5) _ 0 w (fun j hj => by rw [hl] at hj; exact (hc _ (by omega)).1) (fun j hj => by rw [hl] at hj; exact (hc _ (by omega)).2) h1
  rw [Nat.add_zero] at hst
  have hzv : (zeroValue 57).run Tryz.prog w = .ok (.agg #[.int .i64 0, .int .i64 0, .int .i64 0, .int .i64 0, .slice none 0 0]) w := by
    have key : ∀ (P : Program) (i : TypeInfo) (z : Value), P.info? 57 = some i → i.zero = some z → (zeroValue 57).run P w = .ok z w := by intro P i z h1 h2; simp [zeroValue, typeInfo, h1, h2]
    exact key _ _ _ hi0 hz0
  obtain ⟨m, hm⟩ : ∃ m, n - i = m + 1 := ⟨n - i - 1, by omega⟩
  rw [hm] at hst ⊢
  simp [Builtin.clear_, run_underlying Tryz.underlying26, hzv, Value.cells, hst]
theorem keep_next {xs : List El} {q : El → Bool} {j : Nat} (h : j < xs.length) : (xs.take (j + 1)).filter q = if q xs[j] = true then (xs.take j).filter q ++ [xs[j]] else (xs.take j).filter q := by
  rw [List.take_succ_eq_append_getElem h, List.filter_append]
  by_cases e : q xs[j] = true
  · simp [e]
  · simp [e]
set_option maxRecDepth 100000 in
set_option maxHeartbeats 4000000 in
theorem del_ended (base g cap n : Nat) (xs : List El) (t : Int) (p : Nat) (w : World) (hn : xs.length = n) (hm : n ≤ 1099511627776) (h : w.ownsRow base 57 5 (.slice (some ⟨g, 0, none⟩) n cap) n (flat5 xs)) (hp : p ≠ g) (hpw : p < w.heap.size) (c1 : w.cell? ⟨p, 0, none⟩ = some (.int .i64 t)) : Calls Tryz.prog 63 #[.slice (some ⟨g, 0, none⟩) n cap, .func (.func 64) #[] #[.pointer (some ⟨p, 0, none⟩)]] w fun e w' => ∃ m, m = (xs.filter (fun x => !eend t x)).length ∧ e = .returned (.slice (some ⟨g, 0, none⟩) m cap) ∧ w'.ownsRow base 57 5 (.slice (some ⟨g, 0, none⟩) m cap) m (flat5 (xs.filter (fun x => !eend t x))) ∧ But g w w' := by
  have hgw : g < w.heap.size := (h.lt g rfl).2
  have hnc : n ≤ cap := by
    rcases h.2 with ⟨q, _⟩ | ⟨g', c', cur, e, q1, q2, q3, q4, q5, q6⟩
    · cases q
    · cases e; exact q3
  have HIX := hid (index_ended g cap xs t p w (by omega) hgw (own_els h) c1)
  rw [hn] at HIX
  have HO := hid h
  have HC := hid c1
  have HN := hid hn
  clear h c1
  have hle := List.findIdx_le_length (xs := xs) (p := eend t)
  have HNO : Hid (xs.findIdx (eend t) = n → xs.filter (fun x => !eend t x) = xs) := hid (fun e => by
    rw [← hn, List.findIdx_eq_length] at e
    exact List.filter_eq_self.2 (fun x hx => by simp [e x hx]))
  have HYE : Hid (xs.findIdx (eend t) < n → xs.take (xs.findIdx (eend t)) = (xs.take (xs.findIdx (eend t) + 1)).filter (fun x => !eend t x)) := hid (fun e => by
    rw [← hn] at e
    rw [keep_next e, if_neg (by simp [List.findIdx_getElem (p := eend t) (w := e)])]
    refine (List.filter_eq_self.2 (fun x hx => ?_)).symm
    obtain ⟨m, hm, rfl⟩ := List.getElem_of_mem hx
    have hm1 : m < xs.findIdx (eend t) := by simp at hm; omega
    have := List.not_of_lt_findIdx hm1
    simpa using this)
  rw [hn] at hle
  clear hn
  generalize xs.findIdx (eend t) = f at *
  go_enter Tryz.func63, Tryz.ntmps63
  go_wp2_with fail
  refine HIX.out.mono ?_
  rintro e z ⟨rfl, hz⟩
  clear HIX
  by_cases hf : f < n
  · rw [if_pos hf]
    have hf1 : ((f : Int) == -1) = false := by simp
    have HO1 := hid (own_frameV (w' := z) HO.out (fun k e => hz.block k (by simp [Value.ownBlock] at e; omega)))
    have HB1 : Hid (But g w z) := hid ⟨hz.size, fun b h1 _ => hz.block b h1, hz.os, hz.tape, hz.output⟩
    clear hz HO HNO
    have HS := hid (HYE.out hf)
    clear HYE
    go_wp2_with fail
    go_loopw [5, 6] (fun t5 t6 wr => ∃ i j : Nat, ∃ ys : List El, t5 = .int .i64 i ∧ t6 = .int .i64 j ∧ i < j ∧ j ≤ n ∧ ys.length = n ∧ Hid (ys.take i = (xs.take j).filter (fun x => !eend t x)) ∧ Hid (ys.drop j = xs.drop j) ∧ Hid (wr.ownsRow base 57 5 (.slice (some ⟨g, 0, none⟩) n cap) n (flat5 ys)) ∧ Hid (But g w wr)) (fun _ t6 _ => n - (intOf t6).toNat)
    case atStart => exact ⟨f, f + 1, xs, rfl, by go_num, by omega, by omega, HN.out, HS, hid rfl, HO1, HB1⟩
    case round =>
      clear HS HO1 HB1
      obtain ⟨i, j, ys, rfl, rfl, hij, hj, hyl, HT, HD, HO, HB⟩ := hrel
      by_cases hlt : j < n
      · have d1 : (j : Int) < (n : Int) := by omega
        have hjy : j < ys.length := by omega
        obtain ⟨k0, k1, k2, k3, k4⟩ := own_els HO.out j hjy
        rw [Nat.zero_add] at k0 k1 k2 k3 k4
        have hxj : xs[j]'(by rw [HN.out]; exact hlt) = ys[j] := by
          have e := HD.out
          rw [List.drop_eq_getElem_cons hjy, List.drop_eq_getElem_cons (l := xs) (by rw [HN.out]; exact hlt)] at e
          exact (List.cons.inj e).1.symm
        have HD2 : Hid (ys.drop (j + 1) = xs.drop (j + 1)) := hid (by
          have e := HD.out
          rw [List.drop_eq_getElem_cons hjy, List.drop_eq_getElem_cons (l := xs) (by rw [HN.out]; exact hlt)] at e
          exact (List.cons.inj e).2)
        have HK := hid (keep_next (xs := xs) (q := fun x => !eend t x) (j := j) (by rw [HN.out]; exact hlt))
        rw [hxj] at HK
        clear hxj HD
        have HQ : Hid (eend t ys[j] = (decide (ys[j].2.2.1 ≠ 0) && decide (ys[j].2.2.1 ≤ t))) := hid rfl
        have HX : Hid (∀ y, ys[j] = y → y = ys[j]) := hid (fun y e => e.symm)
        generalize ys[j] = y at *
        clear HX
        generalize eend t y = eb at *
        obtain ⟨v0, v1, v2, v3, v4, v5, v6⟩ := y
        simp only at k0 k1 k2 k3 k4 HQ
        have HE := hid (fun W c1 => ended_1 v0 v1 v2 v3 v4 v5 v6 t p W c1)
        rw [← HQ.out] at HE
        clear HQ
        have c1 : wr.cell? ⟨p, 0, none⟩ = some (.int .i64 t) := by rw [World.cell?_of_block (a := ⟨p, 0, none⟩) (HB.out.2.1 p hpw hp)]; exact HC.out
        have hgr : g < wr.heap.size := Nat.lt_of_lt_of_le hgw HB.out.1
        go_upto_region 8 with fail
        have hbx : Below wr.heap.size wr (wr.alloc (.cells #[.int .i64 v0, .int .i64 v1, .int .i64 v2, .int .i64 v3, .slice v4 v5 v6] 57)) := balloc (Below.refl _ _) _
        have gx := new_alloc wr wr.heap.size (.cells #[.int .i64 v0, .int .i64 v1, .int .i64 v2, .int .i64 v3, .slice v4 v5 v6] 57) rfl
        have hal : wr.heap.size ≠ g := by omega
        have HB2 := hid (HB.out.below hbx)
        have HO2 := hid (own_frameV (w' := wr.alloc (.cells #[.int .i64 v0, .int .i64 v1, .int .i64 v2, .int .i64 v3, .slice v4 v5 v6] 57)) HO.out (fun k e => hbx.block k (by simp [Value.ownBlock] at e; omega)))
        replace c1 := keepcell hbx c1
        have hgr2 : g < (wr.alloc (.cells #[.int .i64 v0, .int .i64 v1, .int .i64 v2, .int .i64 v3, .slice v4 v5 v6] 57)).heap.size := by simp; omega
        clear hbx HB HO k0 k1 k2 k3 k4
        generalize wr.alloc (.cells #[.int .i64 v0, .int .i64 v1, .int .i64 v2, .int .i64 v3, .slice v4 v5 v6] 57) = W at *
        generalize wr.heap.size = X at *
        obtain ⟨⟨x0, x1, x2, x3, x4⟩, _⟩ := cell5g gx
        cases eb
        · have HK2 : Hid ((xs.take (j + 1)).filter (fun x => !eend t x) = (xs.take j).filter (fun x => !eend t x) ++ [(v0, v1, v2, v3, v4, v5, v6)]) := hid (by rw [HK.out]; rfl)
          clear HK
          go_upto_region 9 with (refine (HE.out _ c1).mono ?_; rintro e z2 ⟨rfl, hz⟩)
          have HB3 := hid (HB2.out.below hz)
          have HO3 := hid (own_frameV (w' := z2) HO2.out (fun k e => hz.block k (by simp [Value.ownBlock] at e; omega)))
          replace gx := (hz.block X (by rcases Nat.lt_or_ge X W.heap.size with h' | h'; exact h'; simp [Array.getElem?_eq_none h'] at gx)).trans gx
          clear hz HB2 HO2 c1 x0 x1 x2 x3 x4 HE
          obtain ⟨⟨x0, x1, x2, x3, x4⟩, _⟩ := cell5g gx
          obtain ⟨⟨u0, k0⟩, ⟨u1, k1⟩, ⟨u2, k2⟩, ⟨u3, k3⟩, ⟨u4, k4⟩⟩ : (∃ u, z2.cell? ⟨g, i * 5, none⟩ = some u) ∧ (∃ u, z2.cell? ⟨g, i * 5 + 1, none⟩ = some u) ∧ (∃ u, z2.cell? ⟨g, i * 5 + 2, none⟩ = some u) ∧ (∃ u, z2.cell? ⟨g, i * 5 + 3, none⟩ = some u) ∧ (∃ u, z2.cell? ⟨g, i * 5 + 4, none⟩ = some u) := by
            have hh := own_cells5 HO3.out
            exact ⟨Option.isSome_iff_exists.1 (hh _ (by omega)).1, Option.isSome_iff_exists.1 (hh _ (by omega)).1, Option.isSome_iff_exists.1 (hh _ (by omega)).1, Option.isSome_iff_exists.1 (hh _ (by omega)).1, Option.isSome_iff_exists.1 (hh _ (by omega)).1⟩
          have f0 := (own_cells5 HO3.out (i * 5) (by omega)).2
          have f1 := (own_cells5 HO3.out (i * 5 + 1) (by omega)).2
          have f2 := (own_cells5 HO3.out (i * 5 + 2) (by omega)).2
          have f3 := (own_cells5 HO3.out (i * 5 + 3) (by omega)).2
          have f4 := (own_cells5 HO3.out (i * 5 + 4) (by omega)).2
          have e1 : (i : Int) < (n : Int) := by omega
          have HO4 := hid (own_set5 HO3.out (show i < n by omega) (.int .i64 v0) (.int .i64 v1) (.int .i64 v2) (.int .i64 v3) (.slice v4 v5 v6))
          have HB4 := hid (((((HB3.out.set (k := i * 5) (.int .i64 v0)).set (k := i * 5 + 1) (.int .i64 v1)).set (k := i * 5 + 2) (.int .i64 v2)).set (k := i * 5 + 3) (.int .i64 v3)).set (k := i * 5 + 4) (.slice v4 v5 v6))
          have HFS := hid (flat5_set ys i (v0, v1, v2, v3, v4, v5, v6) (by omega))
          rw [show ([.int .i64 v0, .int .i64 v1, .int .i64 v2, .int .i64 v3, .slice v4 v5 v6] : List Value) = ev (v0, v1, v2, v3, v4, v5, v6) from rfl, ← HFS.out] at HO4
          clear HFS HO3 HB3
          have HT2 : Hid ((ys.set i (v0, v1, v2, v3, v4, v5, v6)).take (i + 1) = (xs.take (j + 1)).filter (fun x => !eend t x)) := hid (by
            rw [HK2.out, ← HT.out, List.take_succ_eq_append_getElem (by simp; omega)]
            simp [List.take_set_of_le])
          have HD3 : Hid ((ys.set i (v0, v1, v2, v3, v4, v5, v6)).drop (j + 1) = xs.drop (j + 1)) := hid (by
            rw [← HD2.out, List.drop_set_of_lt (by omega)])
          have hsl : (ys.set i (v0, v1, v2, v3, v4, v5, v6)).length = n := by simp; exact hyl
          go_wp2_with fail
          go_roundw
          case rel => exact ⟨i + 1, j + 1, _, by go_num, by go_num, by omega, by omega, hsl, HT2, HD3, HO4, HB4⟩
          case measure => simp [intOf]; omega
        · have HK2 : Hid ((xs.take (j + 1)).filter (fun x => !eend t x) = (xs.take j).filter (fun x => !eend t x)) := hid (by rw [HK.out]; rfl)
          clear HK
          go_wp2_with fail
          refine (HE.out _ c1).mono ?_
          rintro e z2 ⟨rfl, hz⟩
          have HB3 := hid (HB2.out.below hz)
          have HO3 := hid (own_frameV (w' := z2) HO2.out (fun k e => hz.block k (by simp [Value.ownBlock] at e; omega)))
          have HT2 : Hid (ys.take i = (xs.take (j + 1)).filter (fun x => !eend t x)) := hid (by rw [HK2.out]; exact HT.out)
          clear hz HB2 HO2 c1 x0 x1 x2 x3 x4 HE
          go_wp2_with fail
          go_roundw
          case rel => exact ⟨i, j + 1, ys, by go_num, by go_num, by omega, by omega, hyl, HT2, HD2, HO3, HB3⟩
          case measure => simp [intOf]; omega
      · have d1 : (n : Int) ≤ (j : Int) := by omega
        have d2 : (i : Int) ≤ (cap : Int) := by omega
        have d3 : (i : Int) ≤ (n : Int) := by omega
        have hjn : j = n := by omega
        subst hjn
        have hnei : cap ≠ i := by omega
        obtain ⟨vs, hcl⟩ := run_clear_rows wr base g cap j i (flat5 ys) HO.out (by omega) (cap - i)
        have HOF := hid (own_cut (i := i) HO.out hyl (by omega) vs)
        have HBF := hid (But.sets (g := g) vs (i * 5) wr HB.out)
        rw [HT.out, List.take_of_length_le (l := xs) (by have := HN.out; omega)] at HOF
        have hil : Hid (i = (xs.filter (fun x => !eend t x)).length) := hid (by
          have := congrArg List.length HT.out
          rw [List.take_of_length_le (l := xs) (by have := HN.out; omega), List.length_take] at this
          omega)
        go_wp2_with fail
        go_ret
        exact ⟨i, hil.out, rfl, HOF.out, HBF.out⟩
  · rw [if_neg hf]
    have HF := hid (HNO.out (by omega))
    go_wp2_with fail
    go_ret
    rw [HF.out]
    exact ⟨_, HN.out.symm, rfl, own_frameV HO.out (fun k e => hz.block k (by simp [Value.ownBlock] at e; omega)), ⟨hz.size, fun b h1 _ => hz.block b h1, hz.os, hz.tape, hz.output⟩⟩
end Go.Proofs.YtjhnfbefgjoiiaaGreat
