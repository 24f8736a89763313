/- Rows that are copied, on the specification's side. -/
import Derived.Test.YtjhnfbefgjoiiaaGreatVe
namespace Go.Proofs.YtjhnfbefgjoiiaaGreat
open Go.RowKit
set_option linter.unusedSimpArgs false
set_option linter.unusedVariables false
theorem set1r {w : World} {p : Nat} {o0 o1 : Value} {t : TypeId} (h : w.heap[p]? = some (.cells #[o0, o1] t (0, 0))) (b : Value) : (w.setCell ⟨p, 1, none⟩ b).heap[p]? = some (.cells #[o0, b] t (0, 0)) := by
  have hlt := lt_of_block h
  have h' : w.heap[p] = .cells #[o0, o1] t (0, 0) := by simpa [Array.getElem?_eq_getElem hlt] using h
  show (w.heap.modify p _)[p]? = _
  rw [Array.getElem?_eq_getElem (by simpa using hlt), Array.getElem_modify_self, h']
  rfl
theorem own_nilR {w : World} {B : Nat} : w.ownsRow B 57 5 (.slice none 0 0) 0 [] := ⟨by simp, .inl ⟨rfl, rfl⟩⟩
set_option maxRecDepth 100000 in
set_option maxHeartbeats 4000000 in
theorem spec_copyRows (now : Int) (B : Nat) (rs : List Rw) (w : World) (hm : rs.length ≤ 1099511627776) (h : RwsS w B rs) : Calls Tryz.prog 27 #[.agg #[.int .i64 now, .slice (some ⟨B, 0, none⟩) rs.length rs.length]] w fun e w' => VR w now rs e w' := by
  obtain ⟨i0, hi0, hz0, hz1, hz2⟩ := info_parts Tryz.infoRow
  have HR := hid h
  clear h
  unfold VR
  obtain ⟨n, hn⟩ : ∃ n, n = rs.length := ⟨_, rfl⟩
  have HN := hid hn.symm
  rw [← hn] at hm ⊢
  clear hn
  have hBx : Below w.heap.size w (((w.alloc (.cells #[.int .i64 now, .slice (some ⟨B, 0, none⟩) n n] 28)).alloc (.cells #[.int .i64 0, .slice none 0 0] 28)).alloc (.cells #[.int .i64 now, .slice none 0 0] 28)) := balloc (balloc (balloc (Below.refl _ _) _) _) _
  have g0 := old_alloc (o' := .cells #[.int .i64 now, .slice none 0 0] 28) (old_alloc (o' := .cells #[.int .i64 0, .slice none 0 0] 28) (new_alloc w w.heap.size (.cells #[.int .i64 now, .slice (some ⟨B, 0, none⟩) n n] 28) rfl))
  have g1 := old_alloc (o' := .cells #[.int .i64 now, .slice none 0 0] 28) (new_alloc (w.alloc (.cells #[.int .i64 now, .slice (some ⟨B, 0, none⟩) n n] 28)) (w.heap.size + 1) (.cells #[.int .i64 0, .slice none 0 0] 28) (by simp))
  have g2 := new_alloc ((w.alloc (.cells #[.int .i64 now, .slice (some ⟨B, 0, none⟩) n n] 28)).alloc (.cells #[.int .i64 0, .slice none 0 0] 28)) (w.heap.size + 1 + 1) (.cells #[.int .i64 now, .slice none 0 0] 28) (by simp)
  have hs3 : (((w.alloc (.cells #[.int .i64 now, .slice (some ⟨B, 0, none⟩) n n] 28)).alloc (.cells #[.int .i64 0, .slice none 0 0] 28)).alloc (.cells #[.int .i64 now, .slice none 0 0] 28)).heap.size = w.heap.size + 3 := by simp
  go_enter Tryz.func27, Tryz.ntmps27
  go_upto_region 2 with fail
  generalize (((w.alloc (.cells #[.int .i64 now, .slice (some ⟨B, 0, none⟩) n n] 28)).alloc (.cells #[.int .i64 0, .slice none 0 0] 28)).alloc (.cells #[.int .i64 now, .slice none 0 0] 28)) = W0 at *
  have HX0 := hid (RowsX.nil (base := w.heap.size + 3) (hi := W0.heap.size) (own_nilR (w := W0)) (fun g e => by cases e) (Nat.le_refl _))
  go_wp2_with fail
  go_loopw [4] (fun ti wr => ∃ i : Nat, ∃ v : Value, ∃ xs : List El, ti = .int .i64 i ∧ i ≤ n ∧ Hid (RowsX (w.heap.size + 3) wr.heap.size wr v (rs.take i) xs) ∧ Hid (wr.heap[w.heap.size]? = some (.cells #[.int .i64 now, .slice (some ⟨B, 0, none⟩) n n] 28 (0, 0))) ∧ Hid (wr.heap[w.heap.size + 1]? = some (.cells #[.int .i64 0, .slice none 0 0] 28 (0, 0))) ∧ Hid (wr.heap[w.heap.size + 1 + 1]? = some (.cells #[.int .i64 now, v] 28 (0, 0))) ∧ Hid (w.heap.size + 3 ≤ wr.heap.size) ∧ Hid (Below w.heap.size w wr)) (fun ti _ => n - (intOf ti).toNat)
  case atStart => exact ⟨0, _, [], rfl, Nat.zero_le _, HX0, hid g0, hid g1, hid g2, hid (by omega), hid hBx⟩
  case round =>
    clear HX0 g0 g1 g2 hBx hs3
    obtain ⟨i, v, xs, rfl, hi, HV, G0, G1, G2, HS, HBW⟩ := hrel
    obtain ⟨d0, d1, _, _⟩ := cell2f G0.out
    have hws := HS.out
    by_cases hlt : i < n
    · have c1 : (i : Int) < (n : Int) := by omega
      have hir : i < rs.length := by rw [HN.out]; exact hlt
      obtain ⟨ci, cpi, k9, k0, k1, k2, k3, k4, k6, k7⟩ := (HR.out.below HBW.out).2 i hir
      have htk : rs.take (i + 1) = rs.take i ++ [rs[i]] := by rw [List.take_add_one, List.getElem?_eq_getElem hir]; rfl
      have hil : (rs.take i).length ≤ i := by simp; omega
      have HSC := hid (fun (W : World) (hb : Below wr.heap.size wr W) => spec_copyG rs[i].2.2.2.1 ci 0 cpi rs[i].2.2.2.2 W k6 (k7.below hb) (Nat.lt_of_lt_of_le k9 hb.size))
      unfold CP at HSC
      obtain ⟨r, hr⟩ : ∃ r, r = rs[i] := ⟨_, rfl⟩
      rw [← hr] at k0 k1 k2 k3 k4 k6 htk HSC
      have HTK := hid htk
      clear hr htk k7 k9
      generalize rs.take i = zs at *
      obtain ⟨id, fr, te, kd, ps⟩ := r
      simp only at k0 k1 k2 k3 k4 k6 HSC
      go_upto_region 6 with fail
      have hbx : Below wr.heap.size wr (wr.alloc (.cells #[.int .i64 id, .int .i64 fr, .int .i64 te, .int .i64 kd, .slice (some ⟨ci, 0, none⟩) ps.length cpi] 57)) := balloc (Below.refl _ _) _
      have gx := new_alloc wr wr.heap.size (.cells #[.int .i64 id, .int .i64 fr, .int .i64 te, .int .i64 kd, .slice (some ⟨ci, 0, none⟩) ps.length cpi] 57) rfl
      have HV1 := hid (HV.out.below hbx)
      have HG0 := hid (keepheap2 hbx G0.out)
      have HG1 := hid (keepheap2 hbx G1.out)
      have HG2 := hid (keepheap2 hbx G2.out)
      have HB1 := hid (btrans HBW.out hbx)
      have HC1 := hid (HSC.out _ hbx)
      have hs1 : wr.heap.size < (wr.alloc (.cells #[.int .i64 id, .int .i64 fr, .int .i64 te, .int .i64 kd, .slice (some ⟨ci, 0, none⟩) ps.length cpi] 57)).heap.size := by simp
      clear k0 k1 k2 k3 k4 d0 d1 hbx HSC HV G0 G1 G2
      generalize wr.alloc (.cells #[.int .i64 id, .int .i64 fr, .int .i64 te, .int .i64 kd, .slice (some ⟨ci, 0, none⟩) ps.length cpi] 57) = W1 at *
      generalize wr.heap.size = X at *
      obtain ⟨⟨x0, x1, x2, x3, x4⟩, _⟩ := cell5g gx
      go_wp2_with fail
      refine HC1.out.mono ?_
      rintro e y ⟨g, cp, rfl, hcp, hgs, ho, hy⟩
      have gy := keepheap2 hy gx
      have hys := hy.size
      have hwy := (btrans HB1.out hy).size
      have HV2 := hid (HV1.out.below hy)
      have HG0' := hid (keepheap2 hy HG0.out)
      have HG1' := hid (keepheap2 hy HG1.out)
      have HG2' := hid (keepheap2 hy HG2.out)
      have HBy := hid (btrans HB1.out hy)
      have HO := hid ho
      clear hy ho gx HC1 HV1 HG0 HG1 HG2 HB1 x0 x1 x2 x3 x4
      obtain ⟨⟨x0, x1, x2, x3, x4⟩, y0, y1, y2, y3, y4⟩ := cell5g gy
      go_upto_region 7 with fail
      have gq := set34 gy (.int .i64 kd) (.slice (some ⟨g, 0, none⟩) ps.length cp)
      have hfar : ∀ b, b ≠ X → ((y.setCell ⟨X, 3, none⟩ (.int .i64 kd)).setCell ⟨X, 4, none⟩ (.slice (some ⟨g, 0, none⟩) ps.length cp)).heap[b]? = y.heap[b]? := fun b hb => by rw [Below.heap_setCell _ _ _ _ (by dsimp only; omega), Below.heap_setCell _ _ _ _ (by dsimp only; omega)]
      have HV3 := hid (HV2.out.frame (w' := (y.setCell ⟨X, 3, none⟩ (.int .i64 kd)).setCell ⟨X, 4, none⟩ (.slice (some ⟨g, 0, none⟩) ps.length cp)) (fun b h1 h2 => hfar b (by omega)) (by simp))
      have HG0 := hid ((hfar w.heap.size (by omega)).trans HG0'.out)
      have HG1 := hid ((hfar (w.heap.size + 1) (by omega)).trans HG1'.out)
      have g2 := (hfar (w.heap.size + 1 + 1) (by omega)).trans HG2'.out
      have HB3 := hid (bset (bset HBy.out (q := X) (k := 3) (by omega) (.int .i64 kd)) (q := X) (k := 4) (by omega) (.slice (some ⟨g, 0, none⟩) ps.length cp))
      have HO3 := hid (own_blk HO.out (hfar g (by omega)) (by simp; exact HO.out.1))
      have hs3 : ((y.setCell ⟨X, 3, none⟩ (.int .i64 kd)).setCell ⟨X, 4, none⟩ (.slice (some ⟨g, 0, none⟩) ps.length cp)).heap.size = y.heap.size := by simp
      have hs3a := Nat.le_of_eq hs3
      have hs3b := Nat.le_of_eq hs3.symm
      have hgy := HO.out.1
      clear hs3
      clear hfar HV2 HG0' HG1' HG2' HBy HO gy x0 x1 x2 x3 x4 y0 y1 y2 y3 y4
      generalize (y.setCell ⟨X, 3, none⟩ (.int .i64 kd)).setCell ⟨X, 4, none⟩ (.slice (some ⟨g, 0, none⟩) ps.length cp) = Y at *
      obtain ⟨⟨x0, x1, x2, x3, x4⟩, _⟩ := cell5g gq
      obtain ⟨v0, v1, _, _⟩ := cell2f g2
      have hownZ := HV3.out.2.1
      have hal2 : Below Y.heap.size Y (Y.alloc (.cells #[.int .i64 id, .int .i64 fr, .int .i64 te, .int .i64 kd, .slice (some ⟨g, 0, none⟩) ps.length cp] 57)) := balloc (Below.refl _ _) _
      have HGE := hid (keepheap2 hal2 g2)
      have hvb : v.ownBlock ≠ some (w.heap.size + 1 + 1) := fun e => by have := (hownZ.lt _ e).1; omega
      clear gq g2
      go_wp2_with (at_builtin; (refine wpList_append_lies _ rfl (.tmp 26) (.tmp 28) 26 rfl (w.heap.size + 3) 57 i0 _ 5 56 Tryz.underlying26 hi0 hz0 hz1 hz2 rfl (by decide) v zs.length (flat5 xs) rfl (hownZ.alloc _) ⟨Y.heap.size, 0, none⟩ 1 1 (ev (elR (id, fr, te, kd, ps) g cp)) rfl rfl (World.news_of_block (cs := #[.int .i64 id, .int .i64 fr, .int .i64 te, .int .i64 kd, .slice (some ⟨g, 0, none⟩) ps.length cp]) (t := 57) (fr := (0, 0)) (heap_alloc_new Y _)) (by simp [ev, elR, Value.oneCell']) (by omega) (by unfold maxLen; omega) (by omega) (by simp; omega) (Y.heap.size + 1) (by simp) ?_; intro gg cq w2 hown2 hgrow hat hlt2; have g2 := (hgrow.block (w.heap.size + 1 + 1) (lt_of_block HGE.out) (fun e => hvb e.symm)).trans HGE.out; obtain ⟨t0, t1, s0, s1⟩ := cell2f g2))
      have hsn := RowsX.snoc (r := (id, fr, te, kd, ps)) (c := g) (cp := cp) (HV3.out.below hal2) (by omega) (by omega) (by simp; omega) hcp k6 (HO3.out.below hal2) hown2 hgrow (by simpa using hat) hlt2
      have hb2 : Below w.heap.size w w2 := Below.grown (balloc HB3.out _) hgrow (by simp; omega) (fun k e => by have := (hownZ.lt k e).1; omega)
      have hw2 := hgrow.size
      have HG0e := hid ((hgrow.block w.heap.size (by simp; omega) (fun e => by have := (hownZ.lt _ e.symm).1; omega)).trans (keepheap2 hal2 HG0.out))
      have HG1e := hid ((hgrow.block (w.heap.size + 1) (by simp; omega) (fun e => by have := (hownZ.lt _ e.symm).1; omega)).trans (keepheap2 hal2 HG1.out))
      have hfar : ∀ b, b ≠ w.heap.size + 1 + 1 → (w2.setCell ⟨w.heap.size + 1 + 1, 1, none⟩ (.slice (some ⟨gg, 0, none⟩) (zs.length + 1) cq)).heap[b]? = w2.heap[b]? := fun b hb => by rw [Below.heap_setCell _ _ _ _ (by dsimp only; omega)]
      have HF1 := hid ((hsn.frame (w' := w2.setCell ⟨w.heap.size + 1 + 1, 1, none⟩ (.slice (some ⟨gg, 0, none⟩) (zs.length + 1) cq)) (fun b h1 h2 => hfar b (by omega)) (by simp)).mono (hi' := (w2.setCell ⟨w.heap.size + 1 + 1, 1, none⟩ (.slice (some ⟨gg, 0, none⟩) (zs.length + 1) cq)).heap.size) (Nat.le_refl _) (by simp) (Nat.le_refl _))
      rw [← HTK.out] at HF1
      have HF2 := hid ((hfar w.heap.size (by omega)).trans HG0e.out)
      have HF3 := hid ((hfar (w.heap.size + 1) (by omega)).trans HG1e.out)
      have HF4 : Hid ((w2.setCell ⟨w.heap.size + 1 + 1, 1, none⟩ (.slice (some ⟨gg, 0, none⟩) (zs.length + 1) cq)).heap[w.heap.size + 1 + 1]? = some (.cells #[.int .i64 now, .slice (some ⟨gg, 0, none⟩) (zs.length + 1) cq] 28 (0, 0))) := hid (set1r g2 _)
      have HF5 : Hid (w.heap.size + 3 ≤ (w2.setCell ⟨w.heap.size + 1 + 1, 1, none⟩ (.slice (some ⟨gg, 0, none⟩) (zs.length + 1) cq)).heap.size) := hid (by simp at hw2 ⊢; omega)
      have HF6 := hid (bset hb2 (q := w.heap.size + 1 + 1) (k := 1) (by omega) (.slice (some ⟨gg, 0, none⟩) (zs.length + 1) cq))
      clear hsn hb2 hown2 hgrow hal2 hownZ hfar g2 t0 t1 s0 s1 HGE HG0e HG1e
      go_roundw
      case rel => exact ⟨i + 1, _, _, by go_num, by omega, HF1, HF2, HF3, HF4, HF5, HF6⟩
      case measure => simp [intOf]; omega
    · have c1 : (n : Int) ≤ (i : Int) := by omega
      have hin : i = rs.length := by have := HN.out; omega
      have hX : RowsX (w.heap.size + 3) wr.heap.size wr v rs xs := by have := HV.out; rw [hin, List.take_length] at this; exact this
      obtain ⟨a, c, rfl⟩ := kept_form hX
      rw [HN.out] at hX G2
      have HX := hid hX
      clear hin HV hX
      obtain ⟨v0, v1, _, _⟩ := cell2f G1.out
      obtain ⟨t0, t1, _, _⟩ := cell2f G2.out
      obtain ⟨_, _, s0, s1⟩ := cell2f G1.out
      go_wp2_with fail
      have gF := set2r G1.out (.int .i64 now) (.slice a n c)
      have bF := bset (bset HBW.out (q := w.heap.size + 1) (k := 0) (by omega) (.int .i64 now)) (q := w.heap.size + 1) (k := 1) (by omega) (.slice a n c)
      have xF := (HX.out.frame (w' := (wr.setCell ⟨w.heap.size + 1, 0, none⟩ (.int .i64 now)).setCell ⟨w.heap.size + 1, 1, none⟩ (.slice a n c)) (fun b h1 h2 => by rw [Below.heap_setCell _ _ _ _ (by dsimp only; omega), Below.heap_setCell _ _ _ _ (by dsimp only; omega)]) (by simp)).mono (base' := w.heap.size) (hi' := ((wr.setCell ⟨w.heap.size + 1, 0, none⟩ (.int .i64 now)).setCell ⟨w.heap.size + 1, 1, none⟩ (.slice a n c)).heap.size) (by omega) (by simp) (Nat.le_refl _)
      generalize (wr.setCell ⟨w.heap.size + 1, 0, none⟩ (.int .i64 now)).setCell ⟨w.heap.size + 1, 1, none⟩ (.slice a n c) = wf at *
      obtain ⟨z0, z1, _, _⟩ := cell2f gF
      exact bodyPost_ret (v := .agg #[.int .i64 now, .slice a n c]) (by simp [results, Tryz.results27, go_sem, z0, z1]) rfl ⟨a, c, xs, rfl, xF, bF⟩
end Go.Proofs.YtjhnfbefgjoiiaaGreat
