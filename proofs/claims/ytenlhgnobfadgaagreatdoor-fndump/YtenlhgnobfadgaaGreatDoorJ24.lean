/- Texts of stores, joined: Hb, Hc. -/
import Derived.Test.YtenlhgnobfadgaaGreatDoorHa
import Derived.Lib.SliceRun
set_option maxRecDepth 100000
set_option maxHeartbeats 4000000
set_option linter.unusedSimpArgs false
set_option linter.unusedVariables false
namespace Go.Proofs.YtenlhgnobfadgaaGreatDoor
open Go.RowKit
theorem kept_copiedG (ra : Option Addr) (cp0 : Nat) (rs : List Rw) (w : World) (hm : rs.length ≤ 1099511627776) (h : RwsG w ra rs) : Calls Tryz.prog 62 #[.slice ra rs.length cp0, .func (.func 83) #[] #[]] w fun e w' => ∃ v xs, e = .returned v ∧ RowsX w.heap.size w'.heap.size w' v (rs.filter allb) xs ∧ Below w.heap.size w w' := by
 obtain ⟨i0, hi0, hz0, hz1, hz2⟩ := info_parts Tryz.infoRow
 have HR := hid h
 clear h
 have hmk := make_rows0 rs.length hm
 obtain ⟨n, hn⟩ : ∃ n, n = rs.length := ⟨_, rfl⟩
 have HN := hid hn.symm
 rw [← hn] at hm hmk ⊢
 clear hn
 have hB0 : Below w.heap.size w (w.alloc (.cells (madeCells #[.int .i64 0, .int .i64 0, .int .i64 0, .int .i64 0, .slice none 0 0] (n * 5)) 65)) := balloc (Below.refl _ _) _
 have HI : Hid (RowsX w.heap.size (w.alloc (.cells (madeCells #[.int .i64 0, .int .i64 0, .int .i64 0, .int .i64 0, .slice none 0 0] (n * 5)) 65)).heap.size (w.alloc (.cells (madeCells #[.int .i64 0, .int .i64 0, .int .i64 0, .int .i64 0, .slice none 0 0] (n * 5)) 65)) (.slice (some ⟨w.heap.size, 0, none⟩) 0 n) [] []) := hid (by
  have := World.ownsRow_made (base := w.heap.size) (e := 65) (size := 5) w (madeCells #[.int .i64 0, .int .i64 0, .int .i64 0, .int .i64 0, .slice none 0 0] (n * 5)) n (Nat.le_refl _) (by unfold maxLen; omega) (size_madeCells _ _)
  exact RowsX.nil this (fun g e => by simp [Value.ownBlock] at e; subst e; simp) (Nat.le_refl _))
 go_enter Tryz.func62, Tryz.ntmps62
 go_upto_region 2 with fail
 generalize w.alloc (.cells (madeCells #[.int .i64 0, .int .i64 0, .int .i64 0, .int .i64 0, .slice none 0 0] (n * 5)) 65) = W0 at *
 clear hmk
 go_wp2_with fail
 go_loopw [5, 15] (fun tv ti wr => ∃ i : Nat, ∃ xs : List El, ti = .int .i64 i ∧ i ≤ n ∧ Hid (RowsX w.heap.size wr.heap.size wr tv ((rs.take i).filter allb) xs) ∧ Hid (Below w.heap.size w wr)) (fun _ ti _ => n - (intOf ti).toNat)
 case atStart => exact ⟨0, [], rfl, Nat.zero_le _, HI, hid hB0⟩
 case round =>
  clear HI hB0
  obtain ⟨i, xs, rfl, hi, HV, HBW⟩ := hrel
  obtain ⟨a5, c5, rfl⟩ := kept_form HV.out
  have hwX := HBW.out.size
  by_cases hlt : i < n
  ·have d1 : (i : Int) < (n : Int) := by omega
   have hir : i < rs.length := by rw [HN.out]; exact hlt
   obtain ⟨B, rfl, hRS⟩ := HR.out.at hir
   obtain ⟨ci, cpi, k9, k0, k1, k2, k3, k4, k6, k7⟩ := (hRS.below HBW.out).2 i hir
   clear hRS
   have hbx : Below wr.heap.size wr (wr.alloc (.cells #[.int .i64 rs[i].1, .int .i64 rs[i].2.1, .int .i64 rs[i].2.2.1, .int .i64 rs[i].2.2.2.1, .slice (some ⟨ci, 0, none⟩) rs[i].2.2.2.2.length cpi] 65)) := balloc (Below.refl _ _) _
   have HT := hid (fun (W : World) (hb : Below wr.heap.size wr W) => copied_1 rs[i] ci 0 cpi W k6 (Nat.lt_of_lt_of_le k9 hb.size) (k7.below hb))
   have HX := hid (flt_next (p := allb) hir)
   have hil : ((rs.take i).filter allb).length ≤ i := by have := List.length_filter_le allb (rs.take i); simp at this; omega
   have HK6 := hid k6
   have HSN : Hid (∀ (r : Rw), rs[i] = r → (r.1, r.2.1, r.2.2.1, r.2.2.2.1, r.2.2.2.2) = rs[i]) := hid (fun r e => by rw [e])
   clear k6 k7 k9
   unfold RT rwv at HT
   obtain ⟨r, hr⟩ : ∃ r, r = rs[i] := ⟨_, rfl⟩
   rw [← hr] at k0 k1 k2 k3 k4 HT HX HK6 hbx
   generalize hpr : allb r = q2 at HX HT
   clear hpr hr HSN
   generalize (rs.take i).filter allb = zs at *
   obtain ⟨id, fr, te, kd, ps⟩ := r
   simp only at k0 k1 k2 k3 k4 HT hbx HK6
   have hps : ps.length ≤ 1099511627776 := HK6.out
   go_upto_region 5 with fail
   have gx := new_alloc wr wr.heap.size (.cells #[.int .i64 id, .int .i64 fr, .int .i64 te, .int .i64 kd, .slice (some ⟨ci, 0, none⟩) ps.length cpi] 65) rfl
   have HI1 := hid (HV.out.below hbx)
   have HB1 := hid (btrans HBW.out hbx)
   have HT1 := hid (HT.out _ hbx)
   have hs1 := hbx.size
   clear k0 k1 k2 k3 k4 HT hbx HV
   generalize wr.alloc (.cells #[.int .i64 id, .int .i64 fr, .int .i64 te, .int .i64 kd, .slice (some ⟨ci, 0, none⟩) ps.length cpi] 65) = W1 at *
   generalize wr.heap.size = X at *
   obtain ⟨⟨x0, x1, x2, x3, x4⟩, _⟩ := cell5g gx
   clear gx
   go_wp2_with fail
   refine HT1.out.mono ?_
   rintro e z ⟨g, cp, rfl, hcp, hgs, ho, hz⟩
   have HBz := hid (btrans HB1.out hz)
   have HIz := hid (HI1.out.below hz)
   have HO := hid ho
   have hzs := hz.size
   have hwz := HBz.out.size
   clear hz x0 x1 x2 x3 x4 HT1 HI1 HB1 ho
   cases q2
   ·go_wp2_with fail
    have hal : Below z.heap.size z (z.alloc (.cells #[.int .i64 id, .int .i64 fr, .int .i64 te, .int .i64 kd, .slice (some ⟨g, 0, none⟩) ps.length cp] 65)) := balloc (Below.refl _ _) _
    have HV2 : Hid (RowsX w.heap.size (z.alloc (.cells #[.int .i64 id, .int .i64 fr, .int .i64 te, .int .i64 kd, .slice (some ⟨g, 0, none⟩) ps.length cp] 65)).heap.size (z.alloc (.cells #[.int .i64 id, .int .i64 fr, .int .i64 te, .int .i64 kd, .slice (some ⟨g, 0, none⟩) ps.length cp] 65)) (.slice a5 zs.length c5) ((rs.take (i + 1)).filter allb) xs) := hid (by
     rw [HX.out]
     simpa using (HIz.out.below hal).mono (Nat.le_refl _) (Nat.le_trans (by omega) hal.size) (Nat.le_refl _))
    have HBa := hid (btrans HBz.out hal)
    clear hal
    go_roundw
    case rel => exact ⟨i + 1, xs, by go_num, by omega, HV2, HBa⟩
    case measure => simp [intOf]; omega
   ·have HX2 : Hid ((rs.take (i + 1)).filter allb = zs ++ [(id, fr, te, kd, ps)]) := hid (by rw [HX.out]; simp)
    clear HX
    go_upto_region 7 with fail
    have hal : Below z.heap.size z (z.alloc (.cells #[.int .i64 id, .int .i64 fr, .int .i64 te, .int .i64 kd, .slice (some ⟨g, 0, none⟩) ps.length cp] 65)) := balloc (Below.refl _ _) _
    have gy := new_alloc z z.heap.size (.cells #[.int .i64 id, .int .i64 fr, .int .i64 te, .int .i64 kd, .slice (some ⟨g, 0, none⟩) ps.length cp] 65) rfl
    have HIa := hid (HIz.out.below hal)
    have HBa := hid (btrans HBz.out hal)
    have HOa := hid (HO.out.below hal)
    have has : z.heap.size < (z.alloc (.cells #[.int .i64 id, .int .i64 fr, .int .i64 te, .int .i64 kd, .slice (some ⟨g, 0, none⟩) ps.length cp] 65)).heap.size := by simp
    clear hal HO HIz HBz
    generalize z.alloc (.cells #[.int .i64 id, .int .i64 fr, .int .i64 te, .int .i64 kd, .slice (some ⟨g, 0, none⟩) ps.length cp] 65) = Z at *
    obtain ⟨⟨x0, x1, x2, x3, x4⟩, _⟩ := cell5g gy
    clear gy
    have hownZ := HIa.out.2.1
    have hgZ := HOa.out.1
    go_wp2_with (at_builtin; (refine wpList_append_lies _ rfl (.tmp 26) (.tmp 28) 30 rfl w.heap.size 65 i0 _ 5 56 Tryz.underlying30 hi0 hz0 hz1 hz2 rfl (by decide) (.slice a5 zs.length c5) zs.length (flat5 xs) rfl (hownZ.alloc _) ⟨Z.heap.size, 0, none⟩ 1 1 (ev (elR (id, fr, te, kd, ps) g cp)) rfl rfl (World.news_of_block (cs := #[.int .i64 id, .int .i64 fr, .int .i64 te, .int .i64 kd, .slice (some ⟨g, 0, none⟩) ps.length cp]) (t := 65) (fr := (0, 0)) (heap_alloc_new Z _)) (by simp [ev, elR, Value.oneCell']) (by omega) (by unfold maxLen; omega) (by omega) (by simp; omega) (Z.heap.size + 1) (by simp) ?_; intro gg cq w2 hown2 hgrow hat hlt2))
    have hal2 : Below Z.heap.size Z (Z.alloc (.cells #[.int .i64 id, .int .i64 fr, .int .i64 te, .int .i64 kd, .slice (some ⟨g, 0, none⟩) ps.length cp] 65)) := balloc (Below.refl _ _) _
    have hsn := RowsX.snoc (r := (id, fr, te, kd, ps)) (c := g) (cp := cp) (HIa.out.below hal2) (by omega) (by omega) (by simp; omega) hcp hps (HOa.out.below hal2) hown2 hgrow (by simpa using hat) hlt2
    have hb2 : Below w.heap.size w w2 := Below.grown (balloc HBa.out _) hgrow (by simp; omega) (fun k e => (hownZ.lt k e).1)
    have HSN2 : Hid (RowsX w.heap.size w2.heap.size w2 (.slice (some ⟨gg, 0, none⟩) (zs.length + 1) cq) ((rs.take (i + 1)).filter allb) (xs ++ [elR (id, fr, te, kd, ps) g cp])) := hid (by rw [HX2.out]; exact hsn)
    have HB2 := hid hb2
    clear hsn hb2 hown2 hgrow hal2 hownZ
    go_roundw
    case rel => exact ⟨i + 1, _, by go_num, by omega, HSN2, HB2⟩
    case measure => simp [intOf]; omega
  ·have d1 : (n : Int) ≤ (i : Int) := by omega
   have hin : i = rs.length := by have := HN.out; omega
   have HF : Hid (RowsX w.heap.size wr.heap.size wr (.slice a5 ((rs.take i).filter allb).length c5) (rs.filter allb) xs) := hid (by have := HV.out; rw [hin, List.take_length] at this ⊢; exact this)
   clear hin HV
   go_wp2_with fail
   go_ret
   exact ⟨_, xs, rfl, HF.out, HBW.out⟩
theorem rows_copiedG (now : Int) (ra : Option Addr) (cp0 : Nat) (rs : List Rw) (w : World) (hm : rs.length ≤ 1099511627776) (h : RwsG w ra rs) : Calls Tryz.prog 50 #[.agg #[.int .i64 now, .slice ra rs.length cp0]] w fun e w' => VR w now rs e w' := by
 have HK := hid (fun (W : World) (hb : Below w.heap.size w W) => kept_copiedG ra cp0 rs W hm (h.below hb))
 have hfl : rs.filter allb = rs := List.filter_eq_self.2 (fun _ _ => rfl)
 rw [hfl] at HK
 clear h hfl
 obtain ⟨n, hn⟩ : ∃ n, n = rs.length := ⟨_, rfl⟩
 have HN := hid hn.symm
 unfold VR
 rw [← hn] at hm HK ⊢
 clear hn
 have hB : Below w.heap.size w ((w.alloc (.cells #[.int .i64 now, .slice ra n cp0] 32)).alloc (.cells #[.int .i64 0, .slice none 0 0] 32)) := balloc (balloc (Below.refl _ _) _) _
 have g0 := old_alloc (o' := .cells #[.int .i64 0, .slice none 0 0] 32) (new_alloc w w.heap.size (.cells #[.int .i64 now, .slice ra n cp0] 32) rfl)
 have g1 := new_alloc (w.alloc (.cells #[.int .i64 now, .slice ra n cp0] 32)) (w.heap.size + 1) (.cells #[.int .i64 0, .slice none 0 0] 32) (by simp)
 go_enter Tryz.func50, Tryz.ntmps50
 go_upto_region 1 with fail
 generalize (w.alloc (.cells #[.int .i64 now, .slice ra n cp0] 32)).alloc (.cells #[.int .i64 0, .slice none 0 0] 32) = W at *
 obtain ⟨d0, d1, _, _⟩ := cell2f g0
 have hWs := lt_of_block g1
 go_wp2_with fail
 refine (HK.out _ hB).mono ?_
 rintro e y ⟨v, xs, rfl, hX, hy⟩
 obtain ⟨a, c, rfl⟩ := kept_form hX
 rw [HN.out] at hX
 rw [HN.out]
 replace g0 := keepheap2 hy g0
 replace g1 := keepheap2 hy g1
 have HB := hid (btrans hB hy)
 have HX := hid hX
 clear hB hy hX HK d0 d1
 obtain ⟨d0, d1, f0, f1⟩ := cell2f g0
 obtain ⟨v0, v1, u0, u1⟩ := cell2f g1
 go_wp2_with fail
 have gF := set2r (set_far (q := w.heap.size) (k := 1) (u := .slice a n c) g1 (by omega)) (.int .i64 now) (.slice a n c)
 have bF := bset (bset (bset HB.out (q := w.heap.size) (k := 1) (Nat.le_refl _) (.slice a n c)) (q := w.heap.size + 1) (k := 0) (by omega) (.int .i64 now)) (q := w.heap.size + 1) (k := 1) (by omega) (.slice a n c)
 have xF := (HX.out.frame (w' := ((y.setCell ⟨w.heap.size, 1, none⟩ (.slice a n c)).setCell ⟨w.heap.size + 1, 0, none⟩ (.int .i64 now)).setCell ⟨w.heap.size + 1, 1, none⟩ (.slice a n c)) (fun b h1 h2 => by rw [Below.heap_setCell _ _ _ _ (by dsimp only; omega), Below.heap_setCell _ _ _ _ (by dsimp only; omega), Below.heap_setCell _ _ _ _ (by dsimp only; omega)]) (by simp)).mono (base' := w.heap.size) (hi' := (((y.setCell ⟨w.heap.size, 1, none⟩ (.slice a n c)).setCell ⟨w.heap.size + 1, 0, none⟩ (.int .i64 now)).setCell ⟨w.heap.size + 1, 1, none⟩ (.slice a n c)).heap.size) (by omega) (by simp) (Nat.le_refl _)
 generalize ((y.setCell ⟨w.heap.size, 1, none⟩ (.slice a n c)).setCell ⟨w.heap.size + 1, 0, none⟩ (.int .i64 now)).setCell ⟨w.heap.size + 1, 1, none⟩ (.slice a n c) = wf at *
 obtain ⟨z0, z1, _, _⟩ := cell2f gF
 exact bodyPost_ret (v := .agg #[.int .i64 now, .slice a n c]) (by simp [results, Tryz.results50, go_sem, z0, z1]) rfl ⟨a, c, xs, rfl, xF, bF⟩
theorem impl_ApplyG {N N' : Nat → Prop} (now : Int) (ra : Option Addr) (rcap : Nat) (rs : List Rw) (a : Option Addr) (cap : Nat) (cs : List Ch) (w : World) (hm : rs.length ≤ 1099511627776) (h : RwsG w ra rs) (hr : Rws N w ra rs) (hcm : cs.length ≤ 1099511627776) (hC : Chs N' 1099511627776 w a cs) :
  Calls Tryz.prog 17 #[.agg #[.int .i64 now, .slice ra rs.length rcap], .slice a cs.length cap] w fun e w' => APR w now rs cs e w' := by
 have HOK := hid (fun (W : World) (hb : Below w.heap.size w W) => impl_RowsOk now ra rcap rs W hm (hr.below hb))
 have HCO := hid (fun (W : World) (hb : Below w.heap.size w W) => rows_copiedG now ra rcap rs W hm (h.below hb))
 unfold VR at HCO
 have HTK := hid (fun (W : World) (hb : Below w.heap.size w W) => takes_c now ra rs.length rcap a cap cs W hm hcm (hC.below hb))
 have HCG := hid (fun (W : World) (hb : Below w.heap.size w W) => impl_cgs a cap cs W hcm (hC.below hb))
 have HCH := hid (fun (w0 : World) (hb0 : Below w.heap.size w w0) (p base : Nat) (v0 : Value) (xs0 : List El) (W : World) (hB0 : Below w0.heap.size w0 W) (hpS : w0.heap.size ≤ p) (hbS : w0.heap.size ≤ base) (hbw : base ≤ W.heap.size) (gp0 : W.heap[p]? = some (.cells #[.int .i64 now, v0] 32 (0, 0))) (hX0 : RowsX base W.heap.size W v0 rs xs0) (hO0 : Off p v0 xs0) (q1 : rowsb now rs = true) (q2 : cgs cs = true) (q3 : now ≤ 1000000000) (q4 : rs.length + bgn cs ≤ 300) => change_c w0 p base now v0 rs xs0 a cap cs W hB0 hpS hbS hbw hcm (hC.below hb0) gp0 hX0 hO0 q1 q2 q3 q4)
 unfold CHG at HCH
 have HNO : Hid (apb now rs cs = false → ∀ (W : World) (v : Value) (xs : List El), RowsX w.heap.size W.heap.size W v rs xs → Below w.heap.size w W → APR w now rs cs (.returned (.tuple #[.agg #[.int .i64 now, v], .bool false])) W) := hid (fun e W v xs h1 h2 => by
  obtain ⟨q1, q2⟩ := apb_no e
  exact ⟨v, xs, by rw [q1, e], by rw [q2]; exact h1, h2⟩)
 have HYE : Hid (apb now rs cs = true → ∀ (W : World) (v : Value) (xs : List El), RowsX w.heap.size W.heap.size W v (apl (now + 1) rs cs) xs → Below w.heap.size w W → APR w now rs cs (.returned (.tuple #[.agg #[.int .i64 (now + 1), v], .bool true])) W) := hid (fun e W v xs h1 h2 => by
  obtain ⟨q1, q2⟩ := apb_yes e
  exact ⟨v, xs, by rw [q1, e], by rw [q2]; exact h1, h2⟩)
 have HAB : Hid (apb now rs cs = ((decide (now ≤ 1000000000) && decide (rs.length + bgn cs ≤ 300)) && (rowsb now rs && cgs cs))) := hid rfl
 have HTB : Hid ((decide (now ≤ 1000000000) && decide (rs.length + bgn cs ≤ 300)) = true → now ≤ 1000000000 ∧ rs.length + bgn cs ≤ 300) := hid (fun q => by simpa using q)
 clear h hr hC
 generalize apb now rs cs = ab at *
 generalize (decide (now ≤ 1000000000) && decide (rs.length + bgn cs ≤ 300)) = tb at *
 generalize rowsb now rs = ob at *
 generalize cgs cs = gb at *
 generalize APR w now rs cs = post at *
 obtain ⟨n, hn⟩ : ∃ n, n = rs.length := ⟨_, rfl⟩
 rw [← hn] at HOK HCO HTK HTB HCH ⊢
 obtain ⟨m, hmm⟩ : ∃ m, m = cs.length := ⟨_, rfl⟩
 rw [← hmm] at HTK HCG HCH ⊢
 clear hn hmm hm hcm
 have hBx : Below w.heap.size w ((w.alloc (.cells #[.int .i64 now, .slice ra n rcap] 32)).alloc (.cells #[.int .i64 0, .slice none 0 0] 32)) := balloc (balloc (Below.refl _ _) _) _
 have g0 := old_alloc (o' := .cells #[.int .i64 0, .slice none 0 0] 32) (new_alloc w w.heap.size (.cells #[.int .i64 now, .slice ra n rcap] 32) rfl)
 have g1 := new_alloc (w.alloc (.cells #[.int .i64 now, .slice ra n rcap] 32)) (w.heap.size + 1) (.cells #[.int .i64 0, .slice none 0 0] 32) (by simp)
 have hs2 : w.heap.size + 2 ≤ ((w.alloc (.cells #[.int .i64 now, .slice ra n rcap] 32)).alloc (.cells #[.int .i64 0, .slice none 0 0] 32)).heap.size := by simp
 go_enter Tryz.func17, Tryz.ntmps17
 go_upto_region 1 with fail
 generalize (w.alloc (.cells #[.int .i64 now, .slice ra n rcap] 32)).alloc (.cells #[.int .i64 0, .slice none 0 0] 32) = W0 at *
 obtain ⟨d0, d1, _, _⟩ := cell2f g0
 go_wp2_with fail
 refine (HCO.out _ hBx).mono ?_
 rintro e y ⟨va, vc, xs, rfl, hX, hy⟩
 have hyb : Below y.heap.size y (y.alloc (.cells #[.int .i64 now, .slice va n vc] 32)) := balloc (Below.refl _ _) _
 have gp := new_alloc y y.heap.size (.cells #[.int .i64 now, .slice va n vc] 32) rfl
 have g1w := g1
 replace g0 := keepheap2 hyb (keepheap2 hy g0)
 replace g1 := keepheap2 hyb (keepheap2 hy g1)
 have HB := hid (btrans (btrans hBx hy) hyb)
 have HBW := hid (btrans hy hyb)
 have HG1W := hid g1w
 have HBX := hid hBx
 have hyW := hy.size
 have HOf := hid (Off.new hX (p := y.heap.size) (.inr (Nat.le_refl _)))
 have HX := hid ((hX.below hyb).mono (hi' := (y.alloc (.cells #[.int .i64 now, .slice va n vc] 32)).heap.size) (Nat.le_refl _) hyb.size (Nat.le_refl _))
 have hs3 : w.heap.size + 2 ≤ y.heap.size := Nat.le_trans hs2 hy.size
 have hs4 : W0.heap.size ≤ (y.alloc (.cells #[.int .i64 now, .slice va n vc] 32)).heap.size := Nat.le_trans hy.size hyb.size
 clear hX hy hyb hBx d0 d1 HCO
 go_upto_region 2 with fail
 generalize y.alloc (.cells #[.int .i64 now, .slice va n vc] 32) = W at *
 generalize y.heap.size = p at *
 obtain ⟨d0, d1, _, _⟩ := cell2f g0
 go_wp2_with fail
 refine (HTK.out _ HB.out).mono ?_
 rintro e W1 ⟨rfl, hz⟩
 cases tb
 ·replace HNO := hid (HNO.out (by rw [HAB.out]; simp))
  replace gp := keepheap2 hz gp
  replace g1 := keepheap2 hz g1
  replace HB := hid (btrans HB.out hz)
  replace HX := hid ((HX.out.below hz).mono (hi' := W1.heap.size) (Nat.le_refl _) hz.size (Nat.le_refl _))
  clear HOK HTK HCG HCH HYE HAB HTB hz d0 d1 g0 hs4
  generalize W1 = W at *
  obtain ⟨p0, p1, _, _⟩ := cell2f gp
  obtain ⟨_, _, s0, s1⟩ := cell2f g1
  obtain ⟨v0, v1, _, _⟩ := cell2f g1
  have HBF := HB
  have HXF := HX
  go_wp2_with fail
  have gF := set2r g1 (.int .i64 (now)) (.slice va n vc)
  have bF := bset (bset HBF.out (q := w.heap.size + 1) (k := 0) (by omega) (.int .i64 (now))) (q := w.heap.size + 1) (k := 1) (by omega) (.slice va n vc)
  have xF := (HXF.out.frame (w' := (W.setCell ⟨w.heap.size + 1, 0, none⟩ (.int .i64 (now))).setCell ⟨w.heap.size + 1, 1, none⟩ (.slice va n vc)) (fun b h1 h2 => by rw [Below.heap_setCell _ _ _ _ (by dsimp only; omega), Below.heap_setCell _ _ _ _ (by dsimp only; omega)]) (by simp)).mono (base' := w.heap.size) (hi' := ((W.setCell ⟨w.heap.size + 1, 0, none⟩ (.int .i64 (now))).setCell ⟨w.heap.size + 1, 1, none⟩ (.slice va n vc)).heap.size) (by omega) (by simp) (Nat.le_refl _)
  generalize (W.setCell ⟨w.heap.size + 1, 0, none⟩ (.int .i64 (now))).setCell ⟨w.heap.size + 1, 1, none⟩ (.slice va n vc) = wf at *
  obtain ⟨z0, z1, _, _⟩ := cell2f gF
  exact bodyPost_ret (v := .tuple #[.agg #[.int .i64 (now), (.slice va n vc)], .bool false]) (by simp [results, Tryz.results17, go_sem, z0, z1]) rfl (HNO.out wf (.slice va n vc) _ xF bF)
 replace g0 := keepheap2 hz g0
 replace gp := keepheap2 hz gp
 replace g1 := keepheap2 hz g1
 replace HB := hid (btrans HB.out hz)
 replace HBW := hid (btrans HBW.out hz)
 replace HX := hid ((HX.out.below hz).mono (hi' := W1.heap.size) (Nat.le_refl _) hz.size (Nat.le_refl _))
 replace hs4 := Nat.le_trans hs4 hz.size
 clear hz d0 d1 HTK
 obtain ⟨d0, d1, _, _⟩ := cell2f g0
 go_wp2_with fail
 refine (HOK.out _ HB.out).mono ?_
 rintro e W2 ⟨rfl, hz⟩
 replace g0 := keepheap2 hz g0
 replace gp := keepheap2 hz gp
 replace g1 := keepheap2 hz g1
 replace HB := hid (btrans HB.out hz)
 replace HBW := hid (btrans HBW.out hz)
 replace HX := hid ((HX.out.below hz).mono (hi' := W2.heap.size) (Nat.le_refl _) hz.size (Nat.le_refl _))
 replace hs4 := Nat.le_trans hs4 hz.size
 clear hz d0 d1 HOK
 cases ob
 ·replace HNO := hid (HNO.out (by rw [HAB.out]; simp))
  clear HCG HCH HYE HAB HTB g0 hs4
  generalize W2 = W at *
  obtain ⟨p0, p1, _, _⟩ := cell2f gp
  obtain ⟨_, _, s0, s1⟩ := cell2f g1
  obtain ⟨v0, v1, _, _⟩ := cell2f g1
  have HBF := HB
  have HXF := HX
  go_wp2_with fail
  have gF := set2r g1 (.int .i64 (now)) (.slice va n vc)
  have bF := bset (bset HBF.out (q := w.heap.size + 1) (k := 0) (by omega) (.int .i64 (now))) (q := w.heap.size + 1) (k := 1) (by omega) (.slice va n vc)
  have xF := (HXF.out.frame (w' := (W.setCell ⟨w.heap.size + 1, 0, none⟩ (.int .i64 (now))).setCell ⟨w.heap.size + 1, 1, none⟩ (.slice va n vc)) (fun b h1 h2 => by rw [Below.heap_setCell _ _ _ _ (by dsimp only; omega), Below.heap_setCell _ _ _ _ (by dsimp only; omega)]) (by simp)).mono (base' := w.heap.size) (hi' := ((W.setCell ⟨w.heap.size + 1, 0, none⟩ (.int .i64 (now))).setCell ⟨w.heap.size + 1, 1, none⟩ (.slice va n vc)).heap.size) (by omega) (by simp) (Nat.le_refl _)
  generalize (W.setCell ⟨w.heap.size + 1, 0, none⟩ (.int .i64 (now))).setCell ⟨w.heap.size + 1, 1, none⟩ (.slice va n vc) = wf at *
  obtain ⟨z0, z1, _, _⟩ := cell2f gF
  exact bodyPost_ret (v := .tuple #[.agg #[.int .i64 (now), (.slice va n vc)], .bool false]) (by simp [results, Tryz.results17, go_sem, z0, z1]) rfl (HNO.out wf (.slice va n vc) _ xF bF)
 go_wp2_with fail
 refine (HCG.out _ HB.out).mono ?_
 rintro e W3 ⟨rfl, hz⟩
 replace g0 := keepheap2 hz g0
 replace gp := keepheap2 hz gp
 replace g1 := keepheap2 hz g1
 replace HB := hid (btrans HB.out hz)
 replace HBW := hid (btrans HBW.out hz)
 replace HX := hid ((HX.out.below hz).mono (hi' := W3.heap.size) (Nat.le_refl _) hz.size (Nat.le_refl _))
 replace hs4 := Nat.le_trans hs4 hz.size
 clear hz HCG
 cases gb
 ·replace HNO := hid (HNO.out (by rw [HAB.out]; simp))
  clear HCH HYE HAB HTB g0 hs4
  generalize W3 = W at *
  obtain ⟨p0, p1, _, _⟩ := cell2f gp
  obtain ⟨_, _, s0, s1⟩ := cell2f g1
  obtain ⟨v0, v1, _, _⟩ := cell2f g1
  have HBF := HB
  have HXF := HX
  go_wp2_with fail
  have gF := set2r g1 (.int .i64 (now)) (.slice va n vc)
  have bF := bset (bset HBF.out (q := w.heap.size + 1) (k := 0) (by omega) (.int .i64 (now))) (q := w.heap.size + 1) (k := 1) (by omega) (.slice va n vc)
  have xF := (HXF.out.frame (w' := (W.setCell ⟨w.heap.size + 1, 0, none⟩ (.int .i64 (now))).setCell ⟨w.heap.size + 1, 1, none⟩ (.slice va n vc)) (fun b h1 h2 => by rw [Below.heap_setCell _ _ _ _ (by dsimp only; omega), Below.heap_setCell _ _ _ _ (by dsimp only; omega)]) (by simp)).mono (base' := w.heap.size) (hi' := ((W.setCell ⟨w.heap.size + 1, 0, none⟩ (.int .i64 (now))).setCell ⟨w.heap.size + 1, 1, none⟩ (.slice va n vc)).heap.size) (by omega) (by simp) (Nat.le_refl _)
  generalize (W.setCell ⟨w.heap.size + 1, 0, none⟩ (.int .i64 (now))).setCell ⟨w.heap.size + 1, 1, none⟩ (.slice va n vc) = wf at *
  obtain ⟨z0, z1, _, _⟩ := cell2f gF
  exact bodyPost_ret (v := .tuple #[.agg #[.int .i64 (now), (.slice va n vc)], .bool false]) (by simp [results, Tryz.results17, go_sem, z0, z1]) rfl (HNO.out wf (.slice va n vc) _ xF bF)
 replace HYE := hid (HYE.out (by rw [HAB.out]; simp))
 obtain ⟨q3, q4⟩ := HTB.out (by first | rfl | trivial)
 have HC2 := hid (HCH.out W0 HBX.out p W0.heap.size _ xs W3 HBW.out (by omega) (Nat.le_refl _) hs4 gp HX.out HOf.out (by first | rfl | trivial) (by first | rfl | trivial) q3 q4)
 have HG1 := hid g1
 clear HCH HNO HAB HTB q3 q4 g0 gp g1 HX HOf
 go_wp2_with fail
 refine HC2.out.mono ?_
 rintro e y2 ⟨rfl, v', xs', gp, hX', hO', hB'⟩
 obtain ⟨a2, c2, rfl⟩ := kept_form hX'
 have g1 := keepheap2 hB' HG1W.out
 have HBF := hid (btrans HBX.out hB')
 have HXF := hid hX'
 clear hX' hO' hB' HC2 HG1W HBX HB HBW
 generalize (apl (now + 1) rs cs).length = n2 at *
 obtain ⟨p0, p1, _, _⟩ := cell2f gp
 obtain ⟨_, _, s0, s1⟩ := cell2f g1
 obtain ⟨v0, v1, _, _⟩ := cell2f g1
 go_wp2_with fail
 have gF := set2r g1 (.int .i64 (now + 1)) (.slice a2 n2 c2)
 have bF := bset (bset HBF.out (q := w.heap.size + 1) (k := 0) (by omega) (.int .i64 (now + 1))) (q := w.heap.size + 1) (k := 1) (by omega) (.slice a2 n2 c2)
 have xF := (HXF.out.frame (w' := (y2.setCell ⟨w.heap.size + 1, 0, none⟩ (.int .i64 (now + 1))).setCell ⟨w.heap.size + 1, 1, none⟩ (.slice a2 n2 c2)) (fun b h1 h2 => by rw [Below.heap_setCell _ _ _ _ (by dsimp only; omega), Below.heap_setCell _ _ _ _ (by dsimp only; omega)]) (by simp)).mono (base' := w.heap.size) (hi' := ((y2.setCell ⟨w.heap.size + 1, 0, none⟩ (.int .i64 (now + 1))).setCell ⟨w.heap.size + 1, 1, none⟩ (.slice a2 n2 c2)).heap.size) (by omega) (by simp) (Nat.le_refl _)
 generalize (y2.setCell ⟨w.heap.size + 1, 0, none⟩ (.int .i64 (now + 1))).setCell ⟨w.heap.size + 1, 1, none⟩ (.slice a2 n2 c2) = wf at *
 obtain ⟨z0, z1, _, _⟩ := cell2f gF
 exact bodyPost_ret (v := .tuple #[.agg #[.int .i64 (now + 1), (.slice a2 n2 c2)], .bool true]) (by simp [results, Tryz.results17, go_sem, z0, z1]) rfl (HYE.out wf (.slice a2 n2 c2) _ xF bF)
end Go.Proofs.YtenlhgnobfadgaaGreatDoor
