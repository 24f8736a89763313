import Derived.Test.YtenlhgnobfadgaaGreatDoorJ15
set_option maxRecDepth 100000
set_option maxHeartbeats 8000000
set_option linter.unusedSimpArgs false
set_option linter.unusedVariables false
namespace Go.Proofs.YtenlhgnobfadgaaGreatDoor
open Go.RowKit
def RwsG (w : World) (ra : Option Addr) (rs : List Rw) : Prop := rs = [] ∨ ∃ B, ra = some ⟨B, 0, none⟩ ∧ RwsS w B rs
theorem RwsG.below {w w' : World} {ra : Option Addr} {rs : List Rw} (h : RwsG w ra rs) (hb : Below w.heap.size w w') : RwsG w' ra rs := by
 rcases h with h | ⟨B, e, h⟩
 ·exact .inl h
 ·exact .inr ⟨B, e, h.below hb⟩
theorem RwsG.at {w : World} {ra : Option Addr} {rs : List Rw} (h : RwsG w ra rs) {i : Nat} (hi : i < rs.length) : ∃ B, ra = some ⟨B, 0, none⟩ ∧ RwsS w B rs := by
 rcases h with h | h
 ·subst h; simp at hi
 ·exact h
theorem spec_copyRowsG (now : Int) (ra : Option Addr) (rc : Nat) (rs : List Rw) (w : World) (hm : rs.length ≤ 1099511627776) (h : RwsG w ra rs) : Calls Tryz.prog 108 #[.agg #[.int .i64 now, .slice ra rs.length rc]] w fun e w' => VR w now rs e w' := by
 obtain ⟨i0, hi0, hz0, hz1, hz2⟩ := info_parts Tryz.infoRow
 have HR := hid h
 clear h
 unfold VR
 obtain ⟨n, hn⟩ : ∃ n, n = rs.length := ⟨_, rfl⟩
 have HN := hid hn.symm
 rw [← hn] at hm ⊢
 clear hn
 have hBx : Below w.heap.size w (((w.alloc (.cells #[.int .i64 now, .slice ra n rc] 32)).alloc (.cells #[.int .i64 0, .slice none 0 0] 32)).alloc (.cells #[.int .i64 now, .slice none 0 0] 32)) := balloc (balloc (balloc (Below.refl _ _) _) _) _
 have g0 := old_alloc (o' := .cells #[.int .i64 now, .slice none 0 0] 32) (old_alloc (o' := .cells #[.int .i64 0, .slice none 0 0] 32) (new_alloc w w.heap.size (.cells #[.int .i64 now, .slice ra n rc] 32) rfl))
 have g1 := old_alloc (o' := .cells #[.int .i64 now, .slice none 0 0] 32) (new_alloc (w.alloc (.cells #[.int .i64 now, .slice ra n rc] 32)) (w.heap.size + 1) (.cells #[.int .i64 0, .slice none 0 0] 32) (by simp))
 have g2 := new_alloc ((w.alloc (.cells #[.int .i64 now, .slice ra n rc] 32)).alloc (.cells #[.int .i64 0, .slice none 0 0] 32)) (w.heap.size + 1 + 1) (.cells #[.int .i64 now, .slice none 0 0] 32) (by simp)
 have hs3 : (((w.alloc (.cells #[.int .i64 now, .slice ra n rc] 32)).alloc (.cells #[.int .i64 0, .slice none 0 0] 32)).alloc (.cells #[.int .i64 now, .slice none 0 0] 32)).heap.size = w.heap.size + 3 := by simp
 go_enter Tryz.func108, Tryz.ntmps108
 go_upto_region 2 with fail
 generalize (((w.alloc (.cells #[.int .i64 now, .slice ra n rc] 32)).alloc (.cells #[.int .i64 0, .slice none 0 0] 32)).alloc (.cells #[.int .i64 now, .slice none 0 0] 32)) = W0 at *
 have HX0 := hid (RowsX.nil (base := w.heap.size + 3) (hi := W0.heap.size) (own_nilR (w := W0)) (fun g e => by cases e) (Nat.le_refl _))
 go_wp2_with fail
 go_loopw [4] (fun ti wr => ∃ i : Nat, ∃ v : Value, ∃ xs : List El, ti = .int .i64 i ∧ i ≤ n ∧ Hid (RowsX (w.heap.size + 3) wr.heap.size wr v (rs.take i) xs) ∧ Hid (wr.heap[w.heap.size]? = some (.cells #[.int .i64 now, .slice ra n rc] 32 (0, 0))) ∧ Hid (wr.heap[w.heap.size + 1]? = some (.cells #[.int .i64 0, .slice none 0 0] 32 (0, 0))) ∧ Hid (wr.heap[w.heap.size + 1 + 1]? = some (.cells #[.int .i64 now, v] 32 (0, 0))) ∧ Hid (w.heap.size + 3 ≤ wr.heap.size) ∧ Hid (Below w.heap.size w wr)) (fun ti _ => n - (intOf ti).toNat)
 case atStart => exact ⟨0, _, [], rfl, Nat.zero_le _, HX0, hid g0, hid g1, hid g2, hid (by omega), hid hBx⟩
 case round =>
  clear HX0 g0 g1 g2 hBx hs3
  obtain ⟨i, v, xs, rfl, hi, HV, G0, G1, G2, HS, HBW⟩ := hrel
  obtain ⟨d0, d1, _, _⟩ := cell2f G0.out
  have hws := HS.out
  by_cases hlt : i < n
  ·have c1 : (i : Int) < (n : Int) := by omega
   have hir : i < rs.length := by rw [HN.out]; exact hlt
   obtain ⟨B, rfl, hRS⟩ := HR.out.at hir
   obtain ⟨ci, cpi, k9, k0, k1, k2, k3, k4, k6, k7⟩ := (hRS.below HBW.out).2 i hir
   clear hRS
   have htk : rs.take (i + 1) = rs.take i ++ [rs[i]] := by rw [List.take_add_one, List.getElem?_eq_getElem hir]; rfl
   have hil : (rs.take i).length ≤ i := by simp; omega
   have HSC := hid (fun (W : World) (hb : Below wr.heap.size wr W) => spec_copyG rs[i].2.2.2.1 ci 0 cpi rs[i].2.2.2.2 W k6 (k7.below hb) (Nat.lt_of_lt_of_le k9 hb.size))
   unfold CP at HSC
   obtain ⟨r, hr⟩ : ∃ r, r = rs[i] := ⟨_, rfl⟩
   rw [← hr] at k0 k1 k2 k3 k4 k6 htk HSC
   have HTK := hid htk
   clear hr htk k7 k9
   generalize rs.take i = zs at *
   obtain ⟨id, fr, te, kd, ps⟩ := r
   simp only at k0 k1 k2 k3 k4 k6 HSC
   go_upto_region 6 with fail
   have hbx : Below wr.heap.size wr (wr.alloc (.cells #[.int .i64 id, .int .i64 fr, .int .i64 te, .int .i64 kd, .slice (some ⟨ci, 0, none⟩) ps.length cpi] 65)) := balloc (Below.refl _ _) _
   have gx := new_alloc wr wr.heap.size (.cells #[.int .i64 id, .int .i64 fr, .int .i64 te, .int .i64 kd, .slice (some ⟨ci, 0, none⟩) ps.length cpi] 65) rfl
   have HV1 := hid (HV.out.below hbx)
   have HG0 := hid (keepheap2 hbx G0.out)
   have HG1 := hid (keepheap2 hbx G1.out)
   have HG2 := hid (keepheap2 hbx G2.out)
   have HB1 := hid (btrans HBW.out hbx)
   have HC1 := hid (HSC.out _ hbx)
   have hs1 : wr.heap.size < (wr.alloc (.cells #[.int .i64 id, .int .i64 fr, .int .i64 te, .int .i64 kd, .slice (some ⟨ci, 0, none⟩) ps.length cpi] 65)).heap.size := by simp
   clear k0 k1 k2 k3 k4 d0 d1 hbx HSC HV G0 G1 G2
   generalize wr.alloc (.cells #[.int .i64 id, .int .i64 fr, .int .i64 te, .int .i64 kd, .slice (some ⟨ci, 0, none⟩) ps.length cpi] 65) = W1 at *
   generalize wr.heap.size = X at *
   obtain ⟨⟨x0, x1, x2, x3, x4⟩, _⟩ := cell5g gx
   go_wp2_with fail
   refine HC1.out.mono ?_
   rintro e y ⟨g, cp, rfl, hcp, hgs, ho, hy⟩
   have gy := keepheap2 hy gx
   have hys := hy.size
   have hwy := (btrans HB1.out hy).size
   have HV2 := hid (HV1.out.below hy)
   have HG0' := hid (keepheap2 hy HG0.out)
   have HG1' := hid (keepheap2 hy HG1.out)
   have HG2' := hid (keepheap2 hy HG2.out)
   have HBy := hid (btrans HB1.out hy)
   have HO := hid ho
   clear hy ho gx HC1 HV1 HG0 HG1 HG2 HB1 x0 x1 x2 x3 x4
   obtain ⟨⟨x0, x1, x2, x3, x4⟩, y0, y1, y2, y3, y4⟩ := cell5g gy
   go_upto_region 7 with fail
   have gq := set34 gy (.int .i64 kd) (.slice (some ⟨g, 0, none⟩) ps.length cp)
   have hfar : ∀ b, b ≠ X → ((y.setCell ⟨X, 3, none⟩ (.int .i64 kd)).setCell ⟨X, 4, none⟩ (.slice (some ⟨g, 0, none⟩) ps.length cp)).heap[b]? = y.heap[b]? := fun b hb => by rw [Below.heap_setCell _ _ _ _ (by dsimp only; omega), Below.heap_setCell _ _ _ _ (by dsimp only; omega)]
   have HV3 := hid (HV2.out.frame (w' := (y.setCell ⟨X, 3, none⟩ (.int .i64 kd)).setCell ⟨X, 4, none⟩ (.slice (some ⟨g, 0, none⟩) ps.length cp)) (fun b h1 h2 => hfar b (by omega)) (by simp))
   have HG0 := hid ((hfar w.heap.size (by omega)).trans HG0'.out)
   have HG1 := hid ((hfar (w.heap.size + 1) (by omega)).trans HG1'.out)
   have g2 := (hfar (w.heap.size + 1 + 1) (by omega)).trans HG2'.out
   have HB3 := hid (bset (bset HBy.out (q := X) (k := 3) (by omega) (.int .i64 kd)) (q := X) (k := 4) (by omega) (.slice (some ⟨g, 0, none⟩) ps.length cp))
   have HO3 := hid (own_blk HO.out (hfar g (by omega)) (by simp; exact HO.out.1))
   have hs3 : ((y.setCell ⟨X, 3, none⟩ (.int .i64 kd)).setCell ⟨X, 4, none⟩ (.slice (some ⟨g, 0, none⟩) ps.length cp)).heap.size = y.heap.size := by simp
   have hs3a := Nat.le_of_eq hs3
   have hs3b := Nat.le_of_eq hs3.symm
   have hgy := HO.out.1
   clear hs3
   clear hfar HV2 HG0' HG1' HG2' HBy HO gy x0 x1 x2 x3 x4 y0 y1 y2 y3 y4
   generalize (y.setCell ⟨X, 3, none⟩ (.int .i64 kd)).setCell ⟨X, 4, none⟩ (.slice (some ⟨g, 0, none⟩) ps.length cp) = Y at *
   obtain ⟨⟨x0, x1, x2, x3, x4⟩, _⟩ := cell5g gq
   obtain ⟨v0, v1, _, _⟩ := cell2f g2
   have hownZ := HV3.out.2.1
   have hal2 : Below Y.heap.size Y (Y.alloc (.cells #[.int .i64 id, .int .i64 fr, .int .i64 te, .int .i64 kd, .slice (some ⟨g, 0, none⟩) ps.length cp] 65)) := balloc (Below.refl _ _) _
   have HGE := hid (keepheap2 hal2 g2)
   have hvb : v.ownBlock ≠ some (w.heap.size + 1 + 1) := fun e => by have := (hownZ.lt _ e).1; omega
   clear gq g2
   go_wp2_with (at_builtin; (refine wpList_append_lies _ rfl (.tmp 26) (.tmp 28) 30 rfl (w.heap.size + 3) 65 i0 _ 5 56 Tryz.underlying30 hi0 hz0 hz1 hz2 rfl (by decide) v zs.length (flat5 xs) rfl (hownZ.alloc _) ⟨Y.heap.size, 0, none⟩ 1 1 (ev (elR (id, fr, te, kd, ps) g cp)) rfl rfl (World.news_of_block (cs := #[.int .i64 id, .int .i64 fr, .int .i64 te, .int .i64 kd, .slice (some ⟨g, 0, none⟩) ps.length cp]) (t := 65) (fr := (0, 0)) (heap_alloc_new Y _)) (by simp [ev, elR, Value.oneCell']) (by omega) (by unfold maxLen; omega) (by omega) (by simp; omega) (Y.heap.size + 1) (by simp) ?_; intro gg cq w2 hown2 hgrow hat hlt2; have g2 := (hgrow.block (w.heap.size + 1 + 1) (lt_of_block HGE.out) (fun e => hvb e.symm)).trans HGE.out; obtain ⟨t0, t1, s0, s1⟩ := cell2f g2))
   have hsn := RowsX.snoc (r := (id, fr, te, kd, ps)) (c := g) (cp := cp) (HV3.out.below hal2) (by omega) (by omega) (by simp; omega) hcp k6 (HO3.out.below hal2) hown2 hgrow (by simpa using hat) hlt2
   have hb2 : Below w.heap.size w w2 := Below.grown (balloc HB3.out _) hgrow (by simp; omega) (fun k e => by have := (hownZ.lt k e).1; omega)
   have hw2 := hgrow.size
   have HG0e := hid ((hgrow.block w.heap.size (by simp; omega) (fun e => by have := (hownZ.lt _ e.symm).1; omega)).trans (keepheap2 hal2 HG0.out))
   have HG1e := hid ((hgrow.block (w.heap.size + 1) (by simp; omega) (fun e => by have := (hownZ.lt _ e.symm).1; omega)).trans (keepheap2 hal2 HG1.out))
   have hfar : ∀ b, b ≠ w.heap.size + 1 + 1 → (w2.setCell ⟨w.heap.size + 1 + 1, 1, none⟩ (.slice (some ⟨gg, 0, none⟩) (zs.length + 1) cq)).heap[b]? = w2.heap[b]? := fun b hb => by rw [Below.heap_setCell _ _ _ _ (by dsimp only; omega)]
   have HF1 := hid ((hsn.frame (w' := w2.setCell ⟨w.heap.size + 1 + 1, 1, none⟩ (.slice (some ⟨gg, 0, none⟩) (zs.length + 1) cq)) (fun b h1 h2 => hfar b (by omega)) (by simp)).mono (hi' := (w2.setCell ⟨w.heap.size + 1 + 1, 1, none⟩ (.slice (some ⟨gg, 0, none⟩) (zs.length + 1) cq)).heap.size) (Nat.le_refl _) (by simp) (Nat.le_refl _))
   rw [← HTK.out] at HF1
   have HF2 := hid ((hfar w.heap.size (by omega)).trans HG0e.out)
   have HF3 := hid ((hfar (w.heap.size + 1) (by omega)).trans HG1e.out)
   have HF4 : Hid ((w2.setCell ⟨w.heap.size + 1 + 1, 1, none⟩ (.slice (some ⟨gg, 0, none⟩) (zs.length + 1) cq)).heap[w.heap.size + 1 + 1]? = some (.cells #[.int .i64 now, .slice (some ⟨gg, 0, none⟩) (zs.length + 1) cq] 32 (0, 0))) := hid (set1r g2 _)
   have HF5 : Hid (w.heap.size + 3 ≤ (w2.setCell ⟨w.heap.size + 1 + 1, 1, none⟩ (.slice (some ⟨gg, 0, none⟩) (zs.length + 1) cq)).heap.size) := hid (by simp at hw2 ⊢; omega)
   have HF6 := hid (bset hb2 (q := w.heap.size + 1 + 1) (k := 1) (by omega) (.slice (some ⟨gg, 0, none⟩) (zs.length + 1) cq))
   clear hsn hb2 hown2 hgrow hal2 hownZ hfar g2 t0 t1 s0 s1 HGE HG0e HG1e
   go_roundw
   case rel => exact ⟨i + 1, _, _, by go_num, by omega, HF1, HF2, HF3, HF4, HF5, HF6⟩
   case measure => simp [intOf]; omega
  ·have c1 : (n : Int) ≤ (i : Int) := by omega
   have hin : i = rs.length := by have := HN.out; omega
   have hX : RowsX (w.heap.size + 3) wr.heap.size wr v rs xs := by have := HV.out; rw [hin, List.take_length] at this; exact this
   obtain ⟨a, c, rfl⟩ := kept_form hX
   rw [HN.out] at hX G2
   have HX := hid hX
   clear hin HV hX
   obtain ⟨v0, v1, _, _⟩ := cell2f G1.out
   obtain ⟨t0, t1, _, _⟩ := cell2f G2.out
   obtain ⟨_, _, s0, s1⟩ := cell2f G1.out
   go_wp2_with fail
   have gF := set2r G1.out (.int .i64 now) (.slice a n c)
   have bF := bset (bset HBW.out (q := w.heap.size + 1) (k := 0) (by omega) (.int .i64 now)) (q := w.heap.size + 1) (k := 1) (by omega) (.slice a n c)
   have xF := (HX.out.frame (w' := (wr.setCell ⟨w.heap.size + 1, 0, none⟩ (.int .i64 now)).setCell ⟨w.heap.size + 1, 1, none⟩ (.slice a n c)) (fun b h1 h2 => by rw [Below.heap_setCell _ _ _ _ (by dsimp only; omega), Below.heap_setCell _ _ _ _ (by dsimp only; omega)]) (by simp)).mono (base' := w.heap.size) (hi' := ((wr.setCell ⟨w.heap.size + 1, 0, none⟩ (.int .i64 now)).setCell ⟨w.heap.size + 1, 1, none⟩ (.slice a n c)).heap.size) (by omega) (by simp) (Nat.le_refl _)
   generalize (wr.setCell ⟨w.heap.size + 1, 0, none⟩ (.int .i64 now)).setCell ⟨w.heap.size + 1, 1, none⟩ (.slice a n c) = wf at *
   obtain ⟨z0, z1, _, _⟩ := cell2f gF
   exact bodyPost_ret (v := .agg #[.int .i64 now, .slice a n c]) (by simp [results, Tryz.results108, go_sem, z0, z1]) rfl ⟨a, c, xs, rfl, xF, bF⟩
theorem spec_ApplyG {N N' : Nat → Prop} (now : Int) (ra : Option Addr) (rc : Nat) (rs : List Rw) (a : Option Addr) (cap : Nat) (cs : List Ch) (w : World) (hm : rs.length ≤ 1099511627776) (h : RwsG w ra rs) (hr : Rws N w ra rs) (hcm : cs.length ≤ 1048576) (hC : Chs N' 1099511627776 w a cs) :
  Calls Tryz.prog 70 #[.agg #[.int .i64 now, .slice ra rs.length rc], .slice a cs.length cap] w fun e w' => APR w now rs cs e w' := by
 obtain ⟨i0, hi0, hz0, hz1, hz2⟩ := info_parts Tryz.infoRow
 have HOK := hid (fun (W : World) (hb : Below w.heap.size w W) => spec_RowsOk now ra rc rs W hm (hr.below hb))
 have HCO := hid (fun (W : World) (hb : Below w.heap.size w W) => spec_copyRowsG now ra rc rs W hm (h.below hb))
 unfold VR at HCO
 have HCG := hid (fun (W : World) (hb : Below w.heap.size w W) => spec_cgs a cap cs W (by omega) (hC.below hb))
 have HC := hid hC
 have HNO : Hid (apb now rs cs = false → ∀ (W : World) (v : Value) (xs : List El), RowsX w.heap.size W.heap.size W v rs xs → Below w.heap.size w W → APR w now rs cs (.returned (.tuple #[.agg #[.int .i64 now, v], .bool false])) W) := hid (fun e W v xs h1 h2 => by
  obtain ⟨q1, q2⟩ := apb_no e
  exact ⟨v, xs, by rw [q1, e], by rw [q2]; exact h1, h2⟩)
 have HYE : Hid (apb now rs cs = true → ∀ (W : World) (v : Value) (xs : List El), RowsX w.heap.size W.heap.size W v (apl (now + 1) rs cs) xs → Below w.heap.size w W → APR w now rs cs (.returned (.tuple #[.agg #[.int .i64 (now + 1), v], .bool true])) W) := hid (fun e W v xs h1 h2 => by
  obtain ⟨q1, q2⟩ := apb_yes e
  exact ⟨v, xs, by rw [q1, e], by rw [q2]; exact h1, h2⟩)
 have HAB : Hid (apb now rs cs = ((decide (now ≤ 1000000000) && decide (rs.length + bgn cs ≤ 300)) && (rowsb now rs && cgs cs))) := hid rfl
 have HRW : Hid (rowsb now rs = true → cgs cs = true → rowsb (now + 1) (apl (now + 1) rs cs) = decide (rs.length + bgn cs ≤ 300)) := hid (fun h1 h2 => apl_ok h1 h2)
 have HRP : Hid (rowsb now rs = true → 0 ≤ now ∧ rs.length ≤ 300) := hid (fun h1 => ⟨(rowsb_parts h1).1, (rowsb_parts h1).2.1⟩)
 have HCB : Hid (cgs cs = true → ∀ i (h : i < cs.length), cgb cs[i] = true) := hid (fun h1 i h => (cgs_parts h1).1 _ (List.getElem_mem h))
 have HLA : Hid (∀ i, (apl (now + 1) rs (cs.take i)).length ≤ rs.length + 1048576) := hid (fun i => by
  rw [apl_len]
  have := bgn_take cs i
  have := bgn_le cs
  omega)
 have HSTP : Hid (∀ i (hi : i < cs.length), apl (now + 1) rs (cs.take (i + 1)) = (apl (now + 1) rs (cs.take i)).map (endR (now + 1) cs[i].1) ++ (if cs[i].2.1 = true then [] else [newR (now + 1) cs[i]])) := hid (fun i hi => apl_next _ _ _ hi)
 have HTL : Hid (apl (now + 1) rs (cs.take cs.length) = apl (now + 1) rs cs) := hid (by rw [List.take_length])
 have HT0 : Hid (apl (now + 1) rs (cs.take 0) = rs) := hid rfl
 clear h hr hC
 generalize apb now rs cs = ab at *
 generalize rowsb now rs = ob at *
 generalize cgs cs = gb at *
 generalize APR w now rs cs = post at *
 obtain ⟨n, hn⟩ : ∃ n, n = rs.length := ⟨_, rfl⟩
 have HN := hid hn.symm
 rw [← hn] at hm HOK HCO HRP HLA HAB HRW ⊢
 obtain ⟨m, hmm⟩ : ∃ m, m = cs.length := ⟨_, rfl⟩
 have HM := hid hmm.symm
 rw [← hmm] at hcm HCG HTL ⊢
 clear hn hmm
 have hBx : Below w.heap.size w ((w.alloc (.cells #[.int .i64 now, .slice ra n rc] 32)).alloc (.cells #[.int .i64 0, .slice none 0 0] 32)) := balloc (balloc (Below.refl _ _) _) _
 have g0 := old_alloc (o' := .cells #[.int .i64 0, .slice none 0 0] 32) (new_alloc w w.heap.size (.cells #[.int .i64 now, .slice ra n rc] 32) rfl)
 have g1 := new_alloc (w.alloc (.cells #[.int .i64 now, .slice ra n rc] 32)) (w.heap.size + 1) (.cells #[.int .i64 0, .slice none 0 0] 32) (by simp)
 have hs2 : w.heap.size + 2 ≤ ((w.alloc (.cells #[.int .i64 now, .slice ra n rc] 32)).alloc (.cells #[.int .i64 0, .slice none 0 0] 32)).heap.size := by simp
 go_enter Tryz.func70, Tryz.ntmps70
 go_upto_region 1 with fail
 generalize (w.alloc (.cells #[.int .i64 now, .slice ra n rc] 32)).alloc (.cells #[.int .i64 0, .slice none 0 0] 32) = w0 at *
 obtain ⟨d0, d1, _, _⟩ := cell2f g0
 go_wp2_with fail
 refine (HCO.out _ hBx).mono ?_
 rintro e y ⟨va, vc, xs, rfl, hX, hy⟩
 have hyb : Below y.heap.size y (y.alloc (.cells #[.int .i64 now, .slice va n vc] 32)) := balloc (Below.refl _ _) _
 have gp := new_alloc y y.heap.size (.cells #[.int .i64 now, .slice va n vc] 32) rfl
 have HG0 := hid g0
 have HG1 := hid g1
 replace g0 := keepheap2 hyb (keepheap2 hy g0)
 replace g1 := keepheap2 hyb (keepheap2 hy g1)
 have HB := hid (btrans (btrans hBx hy) hyb)
 have HBW := hid (btrans hy hyb)
 have HBX := hid hBx
 have HOf := hid (Off.new hX (p := y.heap.size) (.inr (Nat.le_refl _)))
 have HX := hid ((hX.below hyb).mono (hi' := (y.alloc (.cells #[.int .i64 now, .slice va n vc] 32)).heap.size) (Nat.le_refl _) hyb.size (Nat.le_refl _))
 have hyW := hy.size
 have hs3 : w.heap.size + 2 ≤ y.heap.size := Nat.le_trans hs2 hy.size
 have hs4 : w0.heap.size ≤ (y.alloc (.cells #[.int .i64 now, .slice va n vc] 32)).heap.size := Nat.le_trans hy.size hyb.size
 have hs5 : y.heap.size < (y.alloc (.cells #[.int .i64 now, .slice va n vc] 32)).heap.size := by simp
 clear hX hy hyb hBx d0 d1
 go_upto_region 2 with fail
 generalize y.alloc (.cells #[.int .i64 now, .slice va n vc] 32) = W at *
 generalize y.heap.size = p at *
 obtain ⟨d0, d1, _, _⟩ := cell2f g0
 go_wp2_with fail
 refine (HOK.out _ HB.out).mono ?_
 rintro e W1 ⟨rfl, hz⟩
 replace g0 := keepheap2 hz g0
 replace gp := keepheap2 hz gp
 replace g1 := keepheap2 hz g1
 replace HB := hid (btrans HB.out hz)
 replace HBW := hid (btrans HBW.out hz)
 replace HX := hid ((HX.out.below hz).mono (hi' := W1.heap.size) (Nat.le_refl _) hz.size (Nat.le_refl _))
 replace hs4 := Nat.le_trans hs4 hz.size
 replace hs5 := Nat.lt_of_lt_of_le hs5 hz.size
 clear hz d0 d1 HOK
 cases ob
 ·replace HNO := hid (HNO.out (by rw [HAB.out]; simp))
  clear HCG HYE HAB HRW HRP HCB HLA HSTP HTL HT0 HCO
  generalize W1 = W at *
  obtain ⟨p0, p1, _, _⟩ := cell2f gp
  obtain ⟨_, _, s0, s1⟩ := cell2f g1
  obtain ⟨v0, v1, _, _⟩ := cell2f g1
  have HBF := HB
  have HXF := HX
  go_wp2_with fail
  have gF := set2r g1 (.int .i64 (now)) (.slice va n vc)
  have bF := bset (bset HBF.out (q := w.heap.size + 1) (k := 0) (by omega) (.int .i64 (now))) (q := w.heap.size + 1) (k := 1) (by omega) (.slice va n vc)
  have xF := (HXF.out.frame (w' := (W.setCell ⟨w.heap.size + 1, 0, none⟩ (.int .i64 (now))).setCell ⟨w.heap.size + 1, 1, none⟩ (.slice va n vc)) (fun b h1 h2 => by rw [Below.heap_setCell _ _ _ _ (by dsimp only; omega), Below.heap_setCell _ _ _ _ (by dsimp only; omega)]) (by simp)).mono (base' := w.heap.size) (hi' := ((W.setCell ⟨w.heap.size + 1, 0, none⟩ (.int .i64 (now))).setCell ⟨w.heap.size + 1, 1, none⟩ (.slice va n vc)).heap.size) (by omega) (by simp) (Nat.le_refl _)
  generalize (W.setCell ⟨w.heap.size + 1, 0, none⟩ (.int .i64 (now))).setCell ⟨w.heap.size + 1, 1, none⟩ (.slice va n vc) = wf at *
  obtain ⟨z0, z1, _, _⟩ := cell2f gF
  exact bodyPost_ret (v := .tuple #[.agg #[.int .i64 (now), (.slice va n vc)], .bool false]) (by simp [results, Tryz.results70, go_sem, z0, z1]) rfl (HNO.out wf (.slice va n vc) _ xF bF)
 go_wp2_with fail
 refine (HCG.out _ HB.out).mono ?_
 rintro e W2 ⟨rfl, hz⟩
 replace g0 := keepheap2 hz g0
 replace gp := keepheap2 hz gp
 replace g1 := keepheap2 hz g1
 replace HB := hid (btrans HB.out hz)
 replace HBW := hid (btrans HBW.out hz)
 replace HX := hid ((HX.out.below hz).mono (hi' := W2.heap.size) (Nat.le_refl _) hz.size (Nat.le_refl _))
 replace hs4 := Nat.le_trans hs4 hz.size
 replace hs5 := Nat.lt_of_lt_of_le hs5 hz.size
 clear hz HCG
 cases gb
 ·replace HNO := hid (HNO.out (by rw [HAB.out]; simp))
  clear HYE HAB HRW HRP HCB HLA HSTP HTL HT0 HCO
  generalize W2 = W at *
  obtain ⟨p0, p1, _, _⟩ := cell2f gp
  obtain ⟨_, _, s0, s1⟩ := cell2f g1
  obtain ⟨v0, v1, _, _⟩ := cell2f g1
  have HBF := HB
  have HXF := HX
  go_wp2_with fail
  have gF := set2r g1 (.int .i64 (now)) (.slice va n vc)
  have bF := bset (bset HBF.out (q := w.heap.size + 1) (k := 0) (by omega) (.int .i64 (now))) (q := w.heap.size + 1) (k := 1) (by omega) (.slice va n vc)
  have xF := (HXF.out.frame (w' := (W.setCell ⟨w.heap.size + 1, 0, none⟩ (.int .i64 (now))).setCell ⟨w.heap.size + 1, 1, none⟩ (.slice va n vc)) (fun b h1 h2 => by rw [Below.heap_setCell _ _ _ _ (by dsimp only; omega), Below.heap_setCell _ _ _ _ (by dsimp only; omega)]) (by simp)).mono (base' := w.heap.size) (hi' := ((W.setCell ⟨w.heap.size + 1, 0, none⟩ (.int .i64 (now))).setCell ⟨w.heap.size + 1, 1, none⟩ (.slice va n vc)).heap.size) (by omega) (by simp) (Nat.le_refl _)
  generalize (W.setCell ⟨w.heap.size + 1, 0, none⟩ (.int .i64 (now))).setCell ⟨w.heap.size + 1, 1, none⟩ (.slice va n vc) = wf at *
  obtain ⟨z0, z1, _, _⟩ := cell2f gF
  exact bodyPost_ret (v := .tuple #[.agg #[.int .i64 (now), (.slice va n vc)], .bool false]) (by simp [results, Tryz.results70, go_sem, z0, z1]) rfl (HNO.out wf (.slice va n vc) _ xF bF)
 by_cases hnow : 1000000000 < now
 ·replace HNO := hid (HNO.out (by rw [HAB.out, show decide (now ≤ 1000000000) = false by simp; omega]; simp))
  clear HYE HAB HRW HRP HCB HLA HSTP HTL HT0 HCO
  obtain ⟨d0, d1, _, _⟩ := cell2f g0
  generalize W2 = W at *
  obtain ⟨p0, p1, _, _⟩ := cell2f gp
  obtain ⟨_, _, s0, s1⟩ := cell2f g1
  obtain ⟨v0, v1, _, _⟩ := cell2f g1
  have HBF := HB
  have HXF := HX
  go_wp2_with fail
  have gF := set2r g1 (.int .i64 (now)) (.slice va n vc)
  have bF := bset (bset HBF.out (q := w.heap.size + 1) (k := 0) (by omega) (.int .i64 (now))) (q := w.heap.size + 1) (k := 1) (by omega) (.slice va n vc)
  have xF := (HXF.out.frame (w' := (W.setCell ⟨w.heap.size + 1, 0, none⟩ (.int .i64 (now))).setCell ⟨w.heap.size + 1, 1, none⟩ (.slice va n vc)) (fun b h1 h2 => by rw [Below.heap_setCell _ _ _ _ (by dsimp only; omega), Below.heap_setCell _ _ _ _ (by dsimp only; omega)]) (by simp)).mono (base' := w.heap.size) (hi' := ((W.setCell ⟨w.heap.size + 1, 0, none⟩ (.int .i64 (now))).setCell ⟨w.heap.size + 1, 1, none⟩ (.slice va n vc)).heap.size) (by omega) (by simp) (Nat.le_refl _)
  generalize (W.setCell ⟨w.heap.size + 1, 0, none⟩ (.int .i64 (now))).setCell ⟨w.heap.size + 1, 1, none⟩ (.slice va n vc) = wf at *
  obtain ⟨z0, z1, _, _⟩ := cell2f gF
  exact bodyPost_ret (v := .tuple #[.agg #[.int .i64 (now), (.slice va n vc)], .bool false]) (by simp [results, Tryz.results70, go_sem, z0, z1]) rfl (HNO.out wf (.slice va n vc) _ xF bF)
 obtain ⟨hn0, hn3⟩ := HRP.out (by first | rfl | trivial)
 have HAB2 : Hid (ab = decide (n + bgn cs ≤ 300)) := hid (by rw [HAB.out, show decide (now ≤ 1000000000) = true by simp; omega]; simp)
 have HRW2 := hid (HRW.out (by first | rfl | trivial) (by first | rfl | trivial))
 have HCB2 := hid (HCB.out (by first | rfl | trivial))
 clear HAB HRW HRP HCB
 have hw1 : IntKind.i64.wrap (now + 1) = now + 1 := by rw [IntKind.wrap_i64]; omega
 obtain ⟨d0, d1, _, _⟩ := cell2f g0
 obtain ⟨e0, e1, f0, f1⟩ := cell2f gp
 have hpW : p < W2.heap.size := lt_of_block gp
 have gp1 := set0r gp (.int .i64 (now + 1))
 have hfar0 : ∀ b, b ≠ p → (W2.setCell ⟨p, 0, none⟩ (.int .i64 (now + 1))).heap[b]? = W2.heap[b]? := fun b hb => by rw [Below.heap_setCell _ _ _ _ (by dsimp only; omega)]
 have HX1 := hid ((HX.out.but HOf.out (w' := W2.setCell ⟨p, 0, none⟩ (.int .i64 (now + 1))) (fun b _ h2 => hfar0 b h2) (by simp)).mono (hi' := (W2.setCell ⟨p, 0, none⟩ (.int .i64 (now + 1))).heap.size) (Nat.le_refl _) (by simp) (Nat.le_refl _))
 have HB1 := hid (bset HBW.out (q := p) (k := 0) (by omega) (.int .i64 (now + 1)))
 have hs6 : w0.heap.size ≤ (W2.setCell ⟨p, 0, none⟩ (.int .i64 (now + 1))).heap.size := by simpa using hs4
 go_upto_region 5 with fail
 clear e0 e1 f0 f1 d0 d1 gp g0 g1 HX hfar0 HBW HB hs4 hs5
 have HGP1 := hid gp1
 clear gp1
 generalize W2.setCell ⟨p, 0, none⟩ (.int .i64 (now + 1)) = W3 at *
 obtain ⟨t, ht⟩ : ∃ t, t = now + 1 := ⟨_, rfl⟩
 have HTE := hid ht
 rw [← ht] at HYE HLA HSTP HTL HT0 HGP1 HRW2
 clear ht hw1
 rw [← HT0.out] at HX1
 obtain ⟨base, hbase⟩ : ∃ base, base = w0.heap.size := ⟨_, rfl⟩
 rw [← hbase] at HX1 hs6
 have hbS : w0.heap.size ≤ base := Nat.le_of_eq hbase.symm
 have hbS2 : base ≤ w0.heap.size := Nat.le_of_eq hbase
 have hpS : w0.heap.size ≤ p := hyW
 clear hbase
 generalize (Value.slice va n vc) = v1 at *
 go_wp2_with fail
 go_loopw [7] (fun ti wr => ∃ i : Nat, ∃ v : Value, ∃ xs : List El, ti = .int .i64 i ∧ i ≤ m ∧ Hid (RowsX base wr.heap.size wr v (apl t rs (cs.take i)) xs) ∧ Hid (Off p v xs) ∧ Hid (wr.heap[p]? = some (.cells #[.int .i64 t, v] 32 (0, 0))) ∧ Hid (base ≤ wr.heap.size) ∧ Hid (Below w0.heap.size w0 wr)) (fun ti _ => m - (intOf ti).toNat)
 case atStart => exact ⟨0, _, _, rfl, Nat.zero_le _, HX1, HOf, HGP1, hid hs6, HB1⟩
 case round =>
  clear HX1 HOf HGP1 HB1
  obtain ⟨i, v, xs, rfl, hi, HX0, HOf, HGP, HBZ, HBl0⟩ := hrel
  by_cases hlt : i < m
  ·have d1 : (i : Int) < (m : Int) := by omega
   have d0 : (0 : Int) ≤ (i : Int) := by omega
   have hir : i < cs.length := by rw [HM.out]; exact hlt
   obtain ⟨b, o, rfl, hbs, a', cap', k0, k1, k2, k3, k5, k6, k7, _⟩ := (HC.out.below HBX.out).at i hir
   have hcgb := HCB2.out i hir
   have HS1 := hid (HSTP.out i hir)
   have HLEN := hid (HLA.out i)
   obtain ⟨zn, hzn⟩ : ∃ zn, zn = apl t rs (cs.take (i + 1)) := ⟨_, rfl⟩
   have HZE := hid hzn
   rw [← hzn] at HS1
   clear hzn
   generalize apl t rs (cs.take i) = z0 at *
   obtain ⟨c, hcc⟩ : ∃ c, c = cs[i] := ⟨_, rfl⟩
   rw [← hcc] at k0 k1 k2 k3 k5 k6 k7 hcgb HS1
   clear hcc
   obtain ⟨id, gone, kd, ps⟩ := c
   simp only at k0 k1 k2 k3 k5 k6 k7 hcgb HS1
   have hshk : gone = false → shok kd ps = true := by
    unfold cgb at hcgb
    rw [Bool.and_eq_true] at hcgb
    intro hg
    have := hcgb.2
    simp only [hg] at this
    simpa using this
   have HPT : Hid (gone = false → ∃ b' o', a' = some ⟨b', o', none⟩ ∧ b' < w0.heap.size ∧ Pts w0 a' ps) := hid (fun hg => by
    have hpos : 0 < ps.length := by rcases shok_kindT (hshk hg) with h | h | h | h <;> omega
    rcases k7 with h | ⟨b', o', h1, h2, h3⟩
    ·rw [h] at hpos; simp at hpos
    ·exact ⟨b', o', h1, h2, .inr ⟨b', o', h1, h2, h3⟩⟩)
   clear hcgb hshk k7
   have K0 := hid k0
   have K1 := hid k1
   have K2 := hid k2
   have K3 := hid k3
   clear k0 k1 k2 k3
   obtain ⟨sa, sc, rfl⟩ := kept_form HX0.out
   obtain ⟨L, hL⟩ : ∃ L, L = z0.length := ⟨_, rfl⟩
   have HL := hid hL.symm
   rw [← hL] at HX0 HOf HGP HLEN
   clear hL
   have hLn : L ≤ 1099511627776 := by have := HLEN.out; omega
   rw [← md_zero t id z0] at HX0
   go_wp2_with fail
   go_loopw [8] (fun tk wq => ∃ k : Nat, ∃ ys : List El, tk = .int .i64 k ∧ k ≤ L ∧ Hid (RowsX base wq.heap.size wq (.slice sa L sc) (md t id z0 k) ys) ∧ Hid (Off p (.slice sa L sc) ys) ∧ Hid (wq.heap[p]? = some (.cells #[.int .i64 t, .slice sa L sc] 32 (0, 0))) ∧ Hid (base ≤ wq.heap.size) ∧ Hid (Below w0.heap.size w0 wq)) (fun tk _ => L - (intOf tk).toNat)
   case atStart => exact ⟨0, _, rfl, Nat.zero_le _, HX0, HOf, HGP, HBZ, HBl0⟩
   case round =>
    clear HX0 HOf HGP HBZ HBl0
    obtain ⟨k, ys, rfl, hk, HX, HOf, HGP, HBZ, HBl⟩ := hrel
    obtain ⟨r0, r1, rf0, rf1⟩ := cell2f HGP.out
    by_cases hkl : k < L
    ·have e1 : (k : Int) < (L : Int) := by omega
     have e0 : (0 : Int) ≤ (k : Int) := by omega
     have hkz : k < z0.length := by rw [HL.out]; exact hkl
     have hkm : k < (md t id z0 k).length := by rw [md_len]; exact hkz
     rcases HX.out.rows with ⟨h, _⟩ | ⟨g, vc', hv, hg1, hg2, hg3, hg4, hth, cf, cpf, hrows, _⟩
     ·rw [h] at hkm; simp at hkm
     injection hv with h1 h2 h3
     subst h1 h3
     clear h2
     obtain ⟨⟨c0, c1, c2, c3, c4, _⟩, _⟩ := hrows k hkm
     rw [md_at t id z0 hkz] at c0 c1 c2 c3 c4
     obtain ⟨hu0, hfz⟩ := hth (k * 5 + 2) (by omega)
     rw [Nat.zero_add] at hu0 hfz
     have hgp : g ≠ p := fun e => HOf.out.1 (by rw [← e]; rfl)
     have hky : k < ys.length := by rw [HX.out.1]; exact hkm
     have HMN : Hid ((decide (z0[k].1 = id) && decide (z0[k].2.2.1 = 0)) = false → md t id z0 (k + 1) = md t id z0 k) := hid (fun q => md_same t id z0 hkz (by
      unfold endR
      rw [if_neg (fun q2 => by rw [q2.1, q2.2] at q; simp at q)]))
     have HMY : Hid ((decide (z0[k].1 = id) && decide (z0[k].2.2.1 = 0)) = true → md t id z0 (k + 1) = (md t id z0 k).set k (rwT t (md t id z0 k)[k])) := hid (fun q => by
      rw [Bool.and_eq_true, decide_eq_true_eq, decide_eq_true_eq] at q
      rw [md_next t id z0 hkz, md_at t id z0 hkz, endR_yes q.1 q.2]; rfl)
     have x0 := keepcell HBl.out K0.out
     clear hth hrows hu0 hg3 hg4
     generalize z0[k].1 = rid at *
     generalize z0[k].2.2.1 = rte at *
     go_upto_region 11 with fail
     go_cut [62] from 42 to 62 (fun tv wx => tv = .bool (decide (rid = id) && decide (rte = 0)) ∧ Hid (Below wr.heap.size wr wx))
     case first =>
      by_cases q1 : rid = id
      ·have q2 : (rid == id) = true := by simpa using q1
       have q3 : decide (rid = id) = true := by simpa using q1
       by_cases q4 : rte = 0
       ·have q5 : (rte == 0) = true := by simpa using q4
        go_quiet (fail)
        go_wp2_with fail
        go_meet
        exact ⟨by simp [q1, q4], hid (bdrewN2 (Below.refl _ _))⟩
       ·have q5 : (rte == 0) = false := by simpa using q4
        go_quiet (fail)
        go_wp2_with fail
        go_meet
        exact ⟨by simp [q1, q4], hid (bdrewN2 (Below.refl _ _))⟩
      ·have q2 : (rid == id) = false := by simpa using q1
       go_quiet (fail)
       go_wp2_with fail
       go_meet
       exact ⟨by simp [q1], hid (bdrewN2 (Below.refl _ _))⟩
     case rest =>
      obtain ⟨rfl, HWX⟩ := hcut
      obtain ⟨wx, hwx, _⟩ : ∃ wx, wx = _ ∧ Below wr.heap.size wr wx := ⟨_, rfl, HWX.out⟩
      subst hwx
      replace HX := hid ((HX.out.below HWX.out).mono (hi' := wx.heap.size) (Nat.le_refl _) HWX.out.size (Nat.le_refl _))
      replace HGP := hid (keepheap2 HWX.out HGP.out)
      replace HBZ := hid (Nat.le_trans HBZ.out HWX.out.size)
      replace HBl := hid (btrans HBl.out HWX.out)
      replace c2 := keepcell HWX.out c2
      have hfz2 : wx.frozen? ⟨g, k * 5 + 2, none⟩ = false := by rw [HWX.out.frozen (by omega)]; exact hfz
      clear r0 r1 rf0 rf1 c0 c1 c3 c4 x0 hfz HWX
      obtain ⟨r0, r1, rf0, rf1⟩ := cell2f HGP.out
      generalize (decide (rid = id) && decide (rte = 0)) = hit at *
      cases hit
      ·have HMD := hid (HMN.out (by first | rfl | trivial))
       rw [← HMD.out] at HX
       go_wp2_with fail
       go_roundw
       case rel => exact ⟨k + 1, _, by go_num, by omega, HX, HOf, HGP, HBZ, HBl⟩
       case measure => simp [intOf]; omega
      ·have HMD := hid (HMY.out (by first | rfl | trivial))
       have hfar : ∀ c, c ≠ g → (wx.setCell ⟨g, k * 5 + 2, none⟩ (.int .i64 t)).heap[c]? = wx.heap[c]? := fun c hc => by rw [Below.heap_setCell _ _ _ _ (by dsimp only; omega)]
       have HF1 := hid ((HX.out.setTo hkm t).mono (hi' := (wx.setCell ⟨g, k * 5 + 2, none⟩ (.int .i64 t)).heap.size) (Nat.le_refl _) (by simp) (Nat.le_refl _))
       rw [← HMD.out] at HF1
       have HF2 := hid (HOf.out.setTo hky t)
       have HF3 := hid ((hfar p (fun e => hgp e.symm)).trans HGP.out)
       have HF4 : Hid (base ≤ (wx.setCell ⟨g, k * 5 + 2, none⟩ (.int .i64 t)).heap.size) := hid (by simpa using HBZ.out)
       have HF5 := hid (bset HBl.out (q := g) (k := k * 5 + 2) (by omega) (.int .i64 t))
       clear hfar
       go_wp2_with fail
       go_roundw
       case rel => exact ⟨k + 1, _, by go_num, by omega, HF1, HF2, HF3, HF4, HF5⟩
       case measure => simp [intOf]; omega
    ·have hke : k = z0.length := by rw [HL.out]; omega
     rw [hke, md_all] at HX
     have e1 : (L : Int) ≤ (k : Int) := by omega
     clear hke hkl hk
     go_upto_region 13 with fail
     clear e1
     have x1 := keepcell HBl.out K1.out
     have x0 := keepcell HBl.out K0.out
     have x2 := keepcell HBl.out K2.out
     have x3 := keepcell HBl.out K3.out
     have hzl : (z0.map (endR t id)).length ≤ 1099511627776 := by rw [List.length_map, HL.out]; exact hLn
     have HZG : Hid (gone = true → zn = z0.map (endR t id)) := hid (fun h => by rw [HS1.out, h]; simp)
     have HZN : Hid (gone = false → zn = z0.map (endR t id) ++ [(id, t, 0, kd, ps)]) := hid (fun h => by rw [HS1.out, h]; rfl)
     generalize z0.map (endR t id) = zs at *
     generalize wr = VV at *
     generalize (Value.slice sa L sc) = v at *
     generalize ys = xs at *
     cases gone
     rotate_left
     ·have HZ1 := hid (HZG.out (by first | rfl | trivial))
      rw [← HZ1.out, HZE.out] at HX
      go_wp2_with fail
      go_roundw
      case rel => exact ⟨i + 1, _, _, by go_num, by omega, HX, HOf, HGP, HBZ, HBl⟩
      case measure => simp [intOf]; omega
     have HZS := hid (HZN.out (by first | rfl | trivial))
     obtain ⟨b', o', rfl, hb's, hpts⟩ := HPT.out (by first | rfl | trivial)
     have HCP := hid (fun (W : World) (hb : Below VV.drew.heap.size VV.drew W) => spec_copyG kd b' o' cap' ps W k6 (hpts.below (btrans (bdrew HBl.out) hb)) (Nat.lt_of_lt_of_le hb's (btrans (bdrew HBl.out) hb).size))
     unfold CP at HCP
     have hvp : some p ≠ v.ownBlock := fun e => HOf.out.1 e.symm
     have hvX : some b ≠ v.ownBlock := fun e => by have := (HX.out.2.1.lt b e.symm).1; omega
     have hpV : p < VV.heap.size := lt_of_block HGP.out
     have hbz := HBZ.out
     obtain ⟨H, hH⟩ : ∃ H, H = VV.heap.size := ⟨_, rfl⟩
     rw [← hH] at HX
     have hHX : H ≤ VV.drew.heap.size := Nat.le_of_eq hH
     clear hH
     have gp := HGP.out
     replace HBl : Hid (Below w0.heap.size w0 VV.drew) := hid (bdrew HBl.out)
     replace HX : Hid (RowsX base H VV.drew v zs xs) := HX
     replace gp : VV.drew.heap[p]? = _ := gp
     replace x0 : VV.drew.cell? ⟨b, o + i * 4, none⟩ = _ := x0
     replace x2 : VV.drew.cell? ⟨b, o + i * 4 + 2, none⟩ = _ := x2
     replace x3 : VV.drew.cell? ⟨b, o + i * 4 + 3, none⟩ = _ := x3
     replace r0 : VV.drew.cell? ⟨p, 0, none⟩ = _ := r0
     replace hbz : base ≤ VV.drew.heap.size := hbz
     replace hpV : p < VV.drew.heap.size := hpV
     clear HBZ HGP
     go_upto_region 14 with fail
     refine wp_region_held_drew (S := (fun w' => w'.cell? ⟨b, o + i * 4, none⟩ = some (.int .i64 id) ∧ w'.cell? ⟨b, o + i * 4 + 2, none⟩ = some (.int .i64 kd) ∧ w'.cell? ⟨b, o + i * 4 + 3, none⟩ = some (.slice (some ⟨b', o', none⟩) ps.length cap') ∧ w'.cell? ⟨p, 0, none⟩ = some (.int .i64 t))) (by kernel_rfl) ?_ (fun hHeld => ?_)
     ·(repeat' apply And.intro) <;> (repeat (first | with_reducible assumption | with_reducible refine keepset9 ?_ (by simp; try omega) | with_reducible refine keepdrew ?_ | with_reducible refine keepalloc ?_ _ | with_reducible refine keepcell hy ?_ | (refine hgrow.cell ?_ hvp) | (refine hgrow.cell ?_ hvX)))
     generalize VV.drew = V at *
     refine tkR ?_ 0 rfl (fun _ _ _ h => h) hHeld ?_ ?_
     rotate_left
     ·intro w hSw; (try dsimp only at hSw); go_simp; try (with_reducible rfl)
     try simp only [sq]
     refine tkR ?_ 2 rfl (fun _ _ _ h => h) hHeld ?_ ?_
     rotate_left
     ·intro w hSw; (try dsimp only at hSw); go_simp; try (with_reducible rfl)
     try simp only [sq]
     refine tkR ?_ 3 rfl (fun _ _ _ h => h) hHeld ?_ ?_
     rotate_left
     ·intro w hSw; (try dsimp only at hSw); go_simp; try (with_reducible rfl)
     try simp only [sq]
     refine tkR ?_ 4 rfl (fun _ _ _ h => h) hHeld ?_ ?_
     rotate_left
     ·intro w hSw; (try dsimp only at hSw); go_simp; try (with_reducible rfl)
     try simp only [sq]
     refine tkR ?_ 5 rfl (fun _ _ _ h => h) hHeld ?_ ?_
     rotate_left
     ·intro w hSw; (try dsimp only at hSw); go_simp; try (with_reducible rfl)
     try simp only [sq]
     refine tkR ?_ 6 rfl (fun _ _ _ h => h) hHeld ?_ ?_
     rotate_left
     ·intro w hSw; (try dsimp only at hSw); go_simp; try (with_reducible rfl)
     try simp only [sq]
     refine tkR ?_ 7 rfl (fun _ _ _ h => h) hHeld ?_ ?_
     rotate_left
     ·intro w hSw; (try dsimp only at hSw); go_simp; try (with_reducible rfl)
     try simp only [sq]
     refine tkR ?_ 8 rfl (fun _ _ _ h => h) hHeld ?_ ?_
     rotate_left
     ·intro w hSw; (try dsimp only at hSw); go_simp; try (with_reducible rfl)
     try simp only [sq]
     refine tkR ?_ 9 rfl (fun _ _ _ h => h) hHeld ?_ ?_
     rotate_left
     ·intro w hSw; (try dsimp only at hSw); go_simp; try (with_reducible rfl)
     try simp only [sq]
     refine tkR ?_ 10 rfl (fun _ _ _ h => h) hHeld ?_ ?_
     rotate_left
     ·intro w hSw; (try dsimp only at hSw); go_simp; try (with_reducible rfl)
     try simp only [sq]
     refine tkR ?_ 11 rfl (fun _ _ _ h => h) hHeld ?_ ?_
     rotate_left
     ·intro w hSw; (try dsimp only at hSw); go_simp; try (with_reducible rfl)
     try simp only [sq]
     refine tkR ?_ 12 rfl (fun _ _ _ h => h) hHeld ?_ ?_
     rotate_left
     ·intro w hSw; (try dsimp only at hSw); go_simp; try (with_reducible rfl)
     try simp only [sq]
     refine tkR ?_ 13 rfl (fun _ _ _ h => h) hHeld ?_ ?_
     rotate_left
     ·intro w hSw; (try dsimp only at hSw); go_simp; try (with_reducible rfl)
     try simp only [sq]
     refine wpAnyH_ready (rs := [1, 14]) (by kernel_rfl) (by simp) ?_
     refine (AllReadyH.cons rfl (fun K hK => ?_) (AllReadyH.cons rfl (fun K hK => ?_) AllReadyH.nil))
     ·skip
      try simp only [sq]
      obtain ⟨q0, q1, _, _⟩ := cell2f gp
      go_simp
      refine hK.out _ _ ?_ (fun hHeld => ?_)
      ·(repeat' apply And.intro) <;> (repeat (first | with_reducible assumption | with_reducible refine keepset9 ?_ (by simp; try omega) | with_reducible refine keepdrew ?_ | with_reducible refine keepalloc ?_ _ | with_reducible refine keepcell hy ?_ | (refine hgrow.cell ?_ hvp) | (refine hgrow.cell ?_ hvX)))
      clear hK K
      try simp only [sq]
      clear q0 q1
      refine rd1 14 rfl (fun K hK => ?_)
      try simp only [sq]
      go_simp
      go_at_call 77
      refine (HCP.out _ (Below.refl _ _)).mono ?_
      rintro e y ⟨g, cp, rfl, hcp, hgs, ho, hy⟩
      have gpy := keepheap2 hy gp
      go_wp2_with fail
      refine hK.out _ _ ?_ (fun hHeld => ?_)
      ·(repeat' apply And.intro) <;> (repeat (first | with_reducible assumption | with_reducible refine keepset9 ?_ (by simp; try omega) | with_reducible refine keepdrew ?_ | with_reducible refine keepalloc ?_ _ | with_reducible refine keepcell hy ?_ | (refine hgrow.cell ?_ hvp) | (refine hgrow.cell ?_ hvX)))
      clear hK K
      try simp only [sq]
      refine tkR ?_ 15 rfl (fun _ _ _ h => h) hHeld ?_ ?_
      rotate_left
      ·intro w hSw; (try dsimp only at hSw); go_simp; try (with_reducible rfl)
      try simp only [sq]
      refine rd1 16 rfl (fun K hK => ?_)
      try simp only [sq]
      go_simp
      refine hK.out _ _ ?_ (fun hHeld => ?_)
      ·(repeat' apply And.intro) <;> (repeat (first | with_reducible assumption | with_reducible refine keepset9 ?_ (by simp; try omega) | with_reducible refine keepdrew ?_ | with_reducible refine keepalloc ?_ _ | with_reducible refine keepcell hy ?_ | (refine hgrow.cell ?_ hvp) | (refine hgrow.cell ?_ hvX)))
      clear hK K
      try simp only [sq]
      have gpa : (y.alloc (.cells #[.int .i64 id, .int .i64 t, .int .i64 0, .int .i64 kd, .slice (some ⟨g, 0, none⟩) ps.length cp] 65)).heap[p]? = _ := old_alloc gpy
      refine rd1 17 rfl (fun K hK => ?_)
      have HXy := hid (HX.out.below hy)
      have hownY := HXy.out.2.1
      have hys := hy.size
      refine step_append_lies _ (by rfl) _ _ _ (by rfl) base 65 i0 _ 5 56 Tryz.underlying30 hi0 hz0 hz1 hz2 rfl (by omega) v zs.length (flat5 xs) (by rfl) (hownY.alloc _) ⟨y.heap.size, 0, none⟩ 1 1 (ev (elR (id, t, 0, kd, ps) g cp)) (by rfl) (by rfl) (World.news_of_block (cs := #[.int .i64 id, .int .i64 t, .int .i64 0, .int .i64 kd, .slice (some ⟨g, 0, none⟩) ps.length cp]) (t := 65) (fr := (0, 0)) (heap_alloc_new y _)) (by simp [ev, elR, Value.oneCell']) (by omega) (by unfold maxLen; omega) (by omega) (by simp; omega) (y.heap.size + 1) (by simp) ?_
      intro gg cq w2 hown2 hgrow hat hlt2
      refine hK.out _ _ ?_ (fun hHeld => ?_)
      ·(repeat' apply And.intro) <;> (repeat (first | with_reducible assumption | with_reducible refine keepset9 ?_ (by simp; try omega) | with_reducible refine keepdrew ?_ | with_reducible refine keepalloc ?_ _ | with_reducible refine keepcell hy ?_ | (refine hgrow.cell ?_ hvp) | (refine hgrow.cell ?_ hvX)))
      clear hK K
      try simp only [sq]
      have g2 := (hgrow.block p (by simp; omega) hvp).trans gpa
      obtain ⟨t0, t1, s0, s1⟩ := cell2f g2
      refine tkR ?_ 18 rfl (fun _ _ _ h => h) hHeld ?_ ?_
      rotate_left
      ·intro w hSw; (try dsimp only at hSw); go_simp; try (with_reducible rfl)
      try simp only [sq]
      refine rd1 19 rfl (fun K hK => ?_)
      try simp only [sq]
      go_simp
      refine hK.out _ _ ?_ (fun hHeld => ?_)
      ·(repeat' apply And.intro) <;> (repeat (first | with_reducible assumption | with_reducible refine keepset9 ?_ (by simp; try omega) | with_reducible refine keepdrew ?_ | with_reducible refine keepalloc ?_ _ | with_reducible refine keepcell hy ?_ | (refine hgrow.cell ?_ hvp) | (refine hgrow.cell ?_ hvX)))
      clear hK K
      try simp only [sq]
      refine wpAnyH_done (by kernel_rfl) ?_ _
      have hal : Below y.heap.size y (y.alloc (.cells #[.int .i64 id, .int .i64 t, .int .i64 0, .int .i64 kd, .slice (some ⟨g, 0, none⟩) ps.length cp] 65)) := balloc (Below.refl _ _) _
      have hsn := RowsX.snoc (r := (id, t, 0, kd, ps)) (c := g) (cp := cp) (HXy.out.below hal) (by omega) (by omega) (by simp; have := ho.1; omega) hcp k6 (ho.below hal) hown2 hgrow (by simpa using hat) hlt2
      have hgp : gg ≠ p := by
       rcases hat with q | q
       ·exact fun e => HOf.out.1 (by rw [q, e])
       ·omega
      have hOf2 := HOf.out.snoc (r := (id, t, 0, kd, ps)) (c := g) (cp := cp) (g := gg) (n := zs.length + 1) (cap := cq) (by omega) hgp
      have hw2 := hgrow.size
      have hfar : ∀ b, b ≠ p → (w2.setCell ⟨p, 1, none⟩ (.slice (some ⟨gg, 0, none⟩) (zs.length + 1) cq)).heap[b]? = w2.heap[b]? := fun b hb => by rw [Below.heap_setCell _ _ _ _ (by dsimp only; omega)]
      have HF1 := hid ((hsn.but hOf2 (w' := w2.setCell ⟨p, 1, none⟩ (.slice (some ⟨gg, 0, none⟩) (zs.length + 1) cq)) (fun b _ h2 => hfar b h2) (by simp)).mono (hi' := (w2.setCell ⟨p, 1, none⟩ (.slice (some ⟨gg, 0, none⟩) (zs.length + 1) cq)).heap.size) (Nat.le_refl _) (by simp) (Nat.le_refl _))
      have HF2 := hid hOf2
      have HF3 : Hid ((w2.setCell ⟨p, 1, none⟩ (.slice (some ⟨gg, 0, none⟩) (zs.length + 1) cq)).heap[p]? = some (.cells #[.int .i64 t, (.slice (some ⟨gg, 0, none⟩) (zs.length + 1) cq)] 32 (0, 0))) := hid (set1r g2 _)
      have hb2 : Below w0.heap.size w0 w2 := Below.grown (balloc (btrans HBl.out hy) _) hgrow (by simp; omega) (fun b hb => by have := (hownY.lt b hb).1; omega)
      have HF5 := hid (bset hb2 (q := p) (k := 1) (by omega) (.slice (some ⟨gg, 0, none⟩) (zs.length + 1) cq))
      have hs8 : base ≤ (w2.setCell ⟨p, 1, none⟩ (.slice (some ⟨gg, 0, none⟩) (zs.length + 1) cq)).heap.size := by simp at hw2 ⊢; omega
      rw [← HZS.out, HZE.out] at HF1
      clear hsn hown2 hgrow hal hownY hfar g2 t0 t1 s0 s1 hOf2 ho hy gp gpa gpy hHeld HXy
      go_wp2_with fail
      go_roundw
      case rel => exact ⟨i + 1, _, _, by go_num, by omega, HF1, HF2, HF3, hid hs8, HF5⟩
      case measure => simp [intOf]; omega
     ·skip
      try simp only [sq]
      go_simp
      go_at_call 77
      refine (HCP.out _ (Below.refl _ _)).mono ?_
      rintro e y ⟨g, cp, rfl, hcp, hgs, ho, hy⟩
      have gpy := keepheap2 hy gp
      go_wp2_with fail
      refine hK.out _ _ ?_ (fun hHeld => ?_)
      ·(repeat' apply And.intro) <;> (repeat (first | with_reducible assumption | with_reducible refine keepset9 ?_ (by simp; try omega) | with_reducible refine keepdrew ?_ | with_reducible refine keepalloc ?_ _ | with_reducible refine keepcell hy ?_ | (refine hgrow.cell ?_ hvp) | (refine hgrow.cell ?_ hvX)))
      clear hK K
      try simp only [sq]
      refine tkR ?_ 15 rfl (fun _ _ _ h => h) hHeld ?_ ?_
      rotate_left
      ·intro w hSw; (try dsimp only at hSw); go_simp; try (with_reducible rfl)
      try simp only [sq]
      refine wpAnyH_ready (rs := [1, 16]) (by kernel_rfl) (by simp) ?_
      refine (AllReadyH.cons rfl (fun K hK => ?_) (AllReadyH.cons rfl (fun K hK => ?_) AllReadyH.nil))
      ·skip
       try simp only [sq]
       obtain ⟨q0, q1, _, _⟩ := cell2f gpy
       go_simp
       refine hK.out _ _ ?_ (fun hHeld => ?_)
       ·(repeat' apply And.intro) <;> (repeat (first | with_reducible assumption | with_reducible refine keepset9 ?_ (by simp; try omega) | with_reducible refine keepdrew ?_ | with_reducible refine keepalloc ?_ _ | with_reducible refine keepcell hy ?_ | (refine hgrow.cell ?_ hvp) | (refine hgrow.cell ?_ hvX)))
       clear hK K
       try simp only [sq]
       clear q0 q1
       refine rd1 16 rfl (fun K hK => ?_)
       try simp only [sq]
       go_simp
       refine hK.out _ _ ?_ (fun hHeld => ?_)
       ·(repeat' apply And.intro) <;> (repeat (first | with_reducible assumption | with_reducible refine keepset9 ?_ (by simp; try omega) | with_reducible refine keepdrew ?_ | with_reducible refine keepalloc ?_ _ | with_reducible refine keepcell hy ?_ | (refine hgrow.cell ?_ hvp) | (refine hgrow.cell ?_ hvX)))
       clear hK K
       try simp only [sq]
       have gpa : (y.alloc (.cells #[.int .i64 id, .int .i64 t, .int .i64 0, .int .i64 kd, .slice (some ⟨g, 0, none⟩) ps.length cp] 65)).heap[p]? = _ := old_alloc gpy
       refine rd1 17 rfl (fun K hK => ?_)
       have HXy := hid (HX.out.below hy)
       have hownY := HXy.out.2.1
       have hys := hy.size
       refine step_append_lies _ (by rfl) _ _ _ (by rfl) base 65 i0 _ 5 56 Tryz.underlying30 hi0 hz0 hz1 hz2 rfl (by omega) v zs.length (flat5 xs) (by rfl) (hownY.alloc _) ⟨y.heap.size, 0, none⟩ 1 1 (ev (elR (id, t, 0, kd, ps) g cp)) (by rfl) (by rfl) (World.news_of_block (cs := #[.int .i64 id, .int .i64 t, .int .i64 0, .int .i64 kd, .slice (some ⟨g, 0, none⟩) ps.length cp]) (t := 65) (fr := (0, 0)) (heap_alloc_new y _)) (by simp [ev, elR, Value.oneCell']) (by omega) (by unfold maxLen; omega) (by omega) (by simp; omega) (y.heap.size + 1) (by simp) ?_
       intro gg cq w2 hown2 hgrow hat hlt2
       refine hK.out _ _ ?_ (fun hHeld => ?_)
       ·(repeat' apply And.intro) <;> (repeat (first | with_reducible assumption | with_reducible refine keepset9 ?_ (by simp; try omega) | with_reducible refine keepdrew ?_ | with_reducible refine keepalloc ?_ _ | with_reducible refine keepcell hy ?_ | (refine hgrow.cell ?_ hvp) | (refine hgrow.cell ?_ hvX)))
       clear hK K
       try simp only [sq]
       have g2 := (hgrow.block p (by simp; omega) hvp).trans gpa
       obtain ⟨t0, t1, s0, s1⟩ := cell2f g2
       refine tkR ?_ 18 rfl (fun _ _ _ h => h) hHeld ?_ ?_
       rotate_left
       ·intro w hSw; (try dsimp only at hSw); go_simp; try (with_reducible rfl)
       try simp only [sq]
       refine rd1 19 rfl (fun K hK => ?_)
       try simp only [sq]
       go_simp
       refine hK.out _ _ ?_ (fun hHeld => ?_)
       ·(repeat' apply And.intro) <;> (repeat (first | with_reducible assumption | with_reducible refine keepset9 ?_ (by simp; try omega) | with_reducible refine keepdrew ?_ | with_reducible refine keepalloc ?_ _ | with_reducible refine keepcell hy ?_ | (refine hgrow.cell ?_ hvp) | (refine hgrow.cell ?_ hvX)))
       clear hK K
       try simp only [sq]
       refine wpAnyH_done (by kernel_rfl) ?_ _
       have hal : Below y.heap.size y (y.alloc (.cells #[.int .i64 id, .int .i64 t, .int .i64 0, .int .i64 kd, .slice (some ⟨g, 0, none⟩) ps.length cp] 65)) := balloc (Below.refl _ _) _
       have hsn := RowsX.snoc (r := (id, t, 0, kd, ps)) (c := g) (cp := cp) (HXy.out.below hal) (by omega) (by omega) (by simp; have := ho.1; omega) hcp k6 (ho.below hal) hown2 hgrow (by simpa using hat) hlt2
       have hgp : gg ≠ p := by
        rcases hat with q | q
        ·exact fun e => HOf.out.1 (by rw [q, e])
        ·omega
       have hOf2 := HOf.out.snoc (r := (id, t, 0, kd, ps)) (c := g) (cp := cp) (g := gg) (n := zs.length + 1) (cap := cq) (by omega) hgp
       have hw2 := hgrow.size
       have hfar : ∀ b, b ≠ p → (w2.setCell ⟨p, 1, none⟩ (.slice (some ⟨gg, 0, none⟩) (zs.length + 1) cq)).heap[b]? = w2.heap[b]? := fun b hb => by rw [Below.heap_setCell _ _ _ _ (by dsimp only; omega)]
       have HF1 := hid ((hsn.but hOf2 (w' := w2.setCell ⟨p, 1, none⟩ (.slice (some ⟨gg, 0, none⟩) (zs.length + 1) cq)) (fun b _ h2 => hfar b h2) (by simp)).mono (hi' := (w2.setCell ⟨p, 1, none⟩ (.slice (some ⟨gg, 0, none⟩) (zs.length + 1) cq)).heap.size) (Nat.le_refl _) (by simp) (Nat.le_refl _))
       have HF2 := hid hOf2
       have HF3 : Hid ((w2.setCell ⟨p, 1, none⟩ (.slice (some ⟨gg, 0, none⟩) (zs.length + 1) cq)).heap[p]? = some (.cells #[.int .i64 t, (.slice (some ⟨gg, 0, none⟩) (zs.length + 1) cq)] 32 (0, 0))) := hid (set1r g2 _)
       have hb2 : Below w0.heap.size w0 w2 := Below.grown (balloc (btrans HBl.out hy) _) hgrow (by simp; omega) (fun b hb => by have := (hownY.lt b hb).1; omega)
       have HF5 := hid (bset hb2 (q := p) (k := 1) (by omega) (.slice (some ⟨gg, 0, none⟩) (zs.length + 1) cq))
       have hs8 : base ≤ (w2.setCell ⟨p, 1, none⟩ (.slice (some ⟨gg, 0, none⟩) (zs.length + 1) cq)).heap.size := by simp at hw2 ⊢; omega
       rw [← HZS.out, HZE.out] at HF1
       clear hsn hown2 hgrow hal hownY hfar g2 t0 t1 s0 s1 hOf2 ho hy gp gpa gpy hHeld HXy
       go_wp2_with fail
       go_roundw
       case rel => exact ⟨i + 1, _, _, by go_num, by omega, HF1, HF2, HF3, hid hs8, HF5⟩
       case measure => simp [intOf]; omega
      ·skip
       try simp only [sq]
       go_simp
       refine hK.out _ _ ?_ (fun hHeld => ?_)
       ·(repeat' apply And.intro) <;> (repeat (first | with_reducible assumption | with_reducible refine keepset9 ?_ (by simp; try omega) | with_reducible refine keepdrew ?_ | with_reducible refine keepalloc ?_ _ | with_reducible refine keepcell hy ?_ | (refine hgrow.cell ?_ hvp) | (refine hgrow.cell ?_ hvX)))
       clear hK K
       try simp only [sq]
       have gpa : (y.alloc (.cells #[.int .i64 id, .int .i64 t, .int .i64 0, .int .i64 kd, .slice (some ⟨g, 0, none⟩) ps.length cp] 65)).heap[p]? = _ := old_alloc gpy
       refine rd1 1 rfl (fun K hK => ?_)
       try simp only [sq]
       obtain ⟨q0, q1, _, _⟩ := cell2f gpa
       go_simp
       refine hK.out _ _ ?_ (fun hHeld => ?_)
       ·(repeat' apply And.intro) <;> (repeat (first | with_reducible assumption | with_reducible refine keepset9 ?_ (by simp; try omega) | with_reducible refine keepdrew ?_ | with_reducible refine keepalloc ?_ _ | with_reducible refine keepcell hy ?_ | (refine hgrow.cell ?_ hvp) | (refine hgrow.cell ?_ hvX)))
       clear hK K
       try simp only [sq]
       clear q0 q1
       refine rd1 17 rfl (fun K hK => ?_)
       have HXy := hid (HX.out.below hy)
       have hownY := HXy.out.2.1
       have hys := hy.size
       refine step_append_lies _ (by rfl) _ _ _ (by rfl) base 65 i0 _ 5 56 Tryz.underlying30 hi0 hz0 hz1 hz2 rfl (by omega) v zs.length (flat5 xs) (by rfl) (hownY.alloc _) ⟨y.heap.size, 0, none⟩ 1 1 (ev (elR (id, t, 0, kd, ps) g cp)) (by rfl) (by rfl) (World.news_of_block (cs := #[.int .i64 id, .int .i64 t, .int .i64 0, .int .i64 kd, .slice (some ⟨g, 0, none⟩) ps.length cp]) (t := 65) (fr := (0, 0)) (heap_alloc_new y _)) (by simp [ev, elR, Value.oneCell']) (by omega) (by unfold maxLen; omega) (by omega) (by simp; omega) (y.heap.size + 1) (by simp) ?_
       intro gg cq w2 hown2 hgrow hat hlt2
       refine hK.out _ _ ?_ (fun hHeld => ?_)
       ·(repeat' apply And.intro) <;> (repeat (first | with_reducible assumption | with_reducible refine keepset9 ?_ (by simp; try omega) | with_reducible refine keepdrew ?_ | with_reducible refine keepalloc ?_ _ | with_reducible refine keepcell hy ?_ | (refine hgrow.cell ?_ hvp) | (refine hgrow.cell ?_ hvX)))
       clear hK K
       try simp only [sq]
       have g2 := (hgrow.block p (by simp; omega) hvp).trans gpa
       obtain ⟨t0, t1, s0, s1⟩ := cell2f g2
       refine tkR ?_ 18 rfl (fun _ _ _ h => h) hHeld ?_ ?_
       rotate_left
       ·intro w hSw; (try dsimp only at hSw); go_simp; try (with_reducible rfl)
       try simp only [sq]
       refine rd1 19 rfl (fun K hK => ?_)
       try simp only [sq]
       go_simp
       refine hK.out _ _ ?_ (fun hHeld => ?_)
       ·(repeat' apply And.intro) <;> (repeat (first | with_reducible assumption | with_reducible refine keepset9 ?_ (by simp; try omega) | with_reducible refine keepdrew ?_ | with_reducible refine keepalloc ?_ _ | with_reducible refine keepcell hy ?_ | (refine hgrow.cell ?_ hvp) | (refine hgrow.cell ?_ hvX)))
       clear hK K
       try simp only [sq]
       refine wpAnyH_done (by kernel_rfl) ?_ _
       have hal : Below y.heap.size y (y.alloc (.cells #[.int .i64 id, .int .i64 t, .int .i64 0, .int .i64 kd, .slice (some ⟨g, 0, none⟩) ps.length cp] 65)) := balloc (Below.refl _ _) _
       have hsn := RowsX.snoc (r := (id, t, 0, kd, ps)) (c := g) (cp := cp) (HXy.out.below hal) (by omega) (by omega) (by simp; have := ho.1; omega) hcp k6 (ho.below hal) hown2 hgrow (by simpa using hat) hlt2
       have hgp : gg ≠ p := by
        rcases hat with q | q
        ·exact fun e => HOf.out.1 (by rw [q, e])
        ·omega
       have hOf2 := HOf.out.snoc (r := (id, t, 0, kd, ps)) (c := g) (cp := cp) (g := gg) (n := zs.length + 1) (cap := cq) (by omega) hgp
       have hw2 := hgrow.size
       have hfar : ∀ b, b ≠ p → (w2.setCell ⟨p, 1, none⟩ (.slice (some ⟨gg, 0, none⟩) (zs.length + 1) cq)).heap[b]? = w2.heap[b]? := fun b hb => by rw [Below.heap_setCell _ _ _ _ (by dsimp only; omega)]
       have HF1 := hid ((hsn.but hOf2 (w' := w2.setCell ⟨p, 1, none⟩ (.slice (some ⟨gg, 0, none⟩) (zs.length + 1) cq)) (fun b _ h2 => hfar b h2) (by simp)).mono (hi' := (w2.setCell ⟨p, 1, none⟩ (.slice (some ⟨gg, 0, none⟩) (zs.length + 1) cq)).heap.size) (Nat.le_refl _) (by simp) (Nat.le_refl _))
       have HF2 := hid hOf2
       have HF3 : Hid ((w2.setCell ⟨p, 1, none⟩ (.slice (some ⟨gg, 0, none⟩) (zs.length + 1) cq)).heap[p]? = some (.cells #[.int .i64 t, (.slice (some ⟨gg, 0, none⟩) (zs.length + 1) cq)] 32 (0, 0))) := hid (set1r g2 _)
       have hb2 : Below w0.heap.size w0 w2 := Below.grown (balloc (btrans HBl.out hy) _) hgrow (by simp; omega) (fun b hb => by have := (hownY.lt b hb).1; omega)
       have HF5 := hid (bset hb2 (q := p) (k := 1) (by omega) (.slice (some ⟨gg, 0, none⟩) (zs.length + 1) cq))
       have hs8 : base ≤ (w2.setCell ⟨p, 1, none⟩ (.slice (some ⟨gg, 0, none⟩) (zs.length + 1) cq)).heap.size := by simp at hw2 ⊢; omega
       rw [← HZS.out, HZE.out] at HF1
       clear hsn hown2 hgrow hal hownY hfar g2 t0 t1 s0 s1 hOf2 ho hy gp gpa gpy hHeld HXy
       go_wp2_with fail
       go_roundw
       case rel => exact ⟨i + 1, _, _, by go_num, by omega, HF1, HF2, HF3, hid hs8, HF5⟩
       case measure => simp [intOf]; omega
  ·have hin : i = m := by omega
   rw [hin, HTL.out] at HX0
   clear hin
   have HLZ := HLA.out m
   rw [HTL.out] at HLZ
   obtain ⟨sa, sc, rfl⟩ := kept_form HX0.out
   have HOK2 := hid (spec_RowsOk t sa sc (apl t rs cs) wr (by omega) HX0.out.rws)
   rw [HRW2.out, ← HAB2.out] at HOK2
   generalize apl t rs cs = zz at *
   generalize hzl : zz.length = nz at *
   obtain ⟨r0, r1, _, _⟩ := cell2f HGP.out
   have HZL := hid hzl
   clear hzl HLZ
   go_wp2_with fail
   refine HOK2.out.mono ?_
   rintro e W ⟨rfl, hz⟩
   have gp := keepheap2 hz HGP.out
   have hBz := btrans HBl0.out hz
   have hWs := Nat.le_trans hs2 hBz.size
   have g0 := keepheap2 hBz HG0.out
   have g1 := keepheap2 hBz HG1.out
   have HX := hid ((HX0.out.below hz).mono (hi' := W.heap.size) (Nat.le_refl _) hz.size (Nat.le_refl _))
   have HB := hid (btrans HBX.out hBz)
   clear r0 r1 hz hBz HX0 HGP HBl0 HOK2 HBZ
   cases ab
   ·replace HNO := hid (HNO.out (by first | rfl | trivial))
    obtain ⟨d0, d1, _, _⟩ := cell2f g0
    go_wp2_with fail
    refine (HCO.out _ HB.out).mono ?_
    rintro e y2 ⟨va, vc, xs2, rfl, hX2, hy2⟩
    have HXF := hid hX2
    have HBF := hid (btrans HB.out hy2)
    replace g1 := keepheap2 hy2 g1
    clear hX2 hy2 HX HB gp g0 d0 d1
    obtain ⟨_, _, s0, s1⟩ := cell2f g1
    obtain ⟨v0, v1', _, _⟩ := cell2f g1
    go_wp2_with fail
    have gF := set2r g1 (.int .i64 (now)) (.slice va n vc)
    have bF := bset (bset HBF.out (q := w.heap.size + 1) (k := 0) (by omega) (.int .i64 (now))) (q := w.heap.size + 1) (k := 1) (by omega) (.slice va n vc)
    have xF := (HXF.out.frame (w' := (y2.setCell ⟨w.heap.size + 1, 0, none⟩ (.int .i64 (now))).setCell ⟨w.heap.size + 1, 1, none⟩ (.slice va n vc)) (fun b h1 h2 => by rw [Below.heap_setCell _ _ _ _ (by dsimp only; omega), Below.heap_setCell _ _ _ _ (by dsimp only; omega)]) (by simp)).mono (base' := w.heap.size) (hi' := ((y2.setCell ⟨w.heap.size + 1, 0, none⟩ (.int .i64 (now))).setCell ⟨w.heap.size + 1, 1, none⟩ (.slice va n vc)).heap.size) (by omega) (by simp) (Nat.le_refl _)
    generalize (y2.setCell ⟨w.heap.size + 1, 0, none⟩ (.int .i64 (now))).setCell ⟨w.heap.size + 1, 1, none⟩ (.slice va n vc) = wf at *
    obtain ⟨z0, z1, _, _⟩ := cell2f gF
    exact bodyPost_ret (v := .tuple #[.agg #[.int .i64 (now), (.slice va n vc)], .bool false]) (by simp [results, Tryz.results70, go_sem, z0, z1]) rfl (HNO.out wf (.slice va n vc) _ xF bF)
   ·replace HYE := hid (HYE.out (by first | rfl | trivial))
    have HBF := HB
    have HXF := HX
    obtain ⟨p0, p1, _, _⟩ := cell2f gp
    obtain ⟨_, _, s0, s1⟩ := cell2f g1
    obtain ⟨v0, v1', _, _⟩ := cell2f g1
    go_wp2_with fail
    have gF := set2r g1 (.int .i64 (t)) (.slice sa nz sc)
    have bF := bset (bset HBF.out (q := w.heap.size + 1) (k := 0) (by omega) (.int .i64 (t))) (q := w.heap.size + 1) (k := 1) (by omega) (.slice sa nz sc)
    have xF := (HXF.out.frame (w' := (W.setCell ⟨w.heap.size + 1, 0, none⟩ (.int .i64 (t))).setCell ⟨w.heap.size + 1, 1, none⟩ (.slice sa nz sc)) (fun b h1 h2 => by rw [Below.heap_setCell _ _ _ _ (by dsimp only; omega), Below.heap_setCell _ _ _ _ (by dsimp only; omega)]) (by simp)).mono (base' := w.heap.size) (hi' := ((W.setCell ⟨w.heap.size + 1, 0, none⟩ (.int .i64 (t))).setCell ⟨w.heap.size + 1, 1, none⟩ (.slice sa nz sc)).heap.size) (by omega) (by simp) (Nat.le_refl _)
    generalize (W.setCell ⟨w.heap.size + 1, 0, none⟩ (.int .i64 (t))).setCell ⟨w.heap.size + 1, 1, none⟩ (.slice sa nz sc) = wf at *
    obtain ⟨z0, z1, _, _⟩ := cell2f gF
    exact bodyPost_ret (v := .tuple #[.agg #[.int .i64 (t), (.slice sa nz sc)], .bool true]) (by simp [results, Tryz.results70, go_sem, z0, z1]) rfl (HYE.out wf (.slice sa nz sc) _ xF bF)
end Go.Proofs.YtenlhgnobfadgaaGreatDoor
