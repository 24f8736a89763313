/- Texts of stores, joined: Vf, Xs, Xu, Xo, Ve2, Vg, Xp, Pd. -/
import Derived.Test.YtehifednpbdokaaGreatDoorR4
import Derived.Test.YtehifednpbdokaaGreatDoorR1
namespace Go.Proofs.YtehifednpbdokaaGreatDoor
open Go.RowKit
set_option linter.unusedSimpArgs false
set_option linter.unusedVariables false
theorem set1r {w : World} {p : Nat} {o0 o1 : Value} {t : TypeId} (h : w.heap[p]? = some (.cells #[o0, o1] t (0, 0))) (b : Value) : (w.setCell ⟨p, 1, none⟩ b).heap[p]? = some (.cells #[o0, b] t (0, 0)) := by
  have hlt := lt_of_block h
  have h' : w.heap[p] = .cells #[o0, o1] t (0, 0) := by simpa [Array.getElem?_eq_getElem hlt] using h
  show (w.heap.modify p _)[p]? = _
  rw [Array.getElem?_eq_getElem (by simpa using hlt), Array.getElem_modify_self, h']
  rfl
theorem own_nilR {w : World} {B : Nat} : w.ownsRow B 129 5 (.slice none 0 0) 0 [] := ⟨by simp, .inl ⟨rfl, rfl⟩⟩
set_option maxRecDepth 100000 in
set_option maxHeartbeats 4000000 in
theorem spec_copyRows (now : Int) (B : Nat) (rs : List Rw) (w : World) (hm : rs.length ≤ 1099511627776) (h : RwsS w B rs) : Calls Tryz.prog 92 #[.agg #[.int .i64 now, .slice (some ⟨B, 0, none⟩) rs.length rs.length]] w fun e w' => VR w now rs e w' := by
  obtain ⟨i0, hi0, hz0, hz1, hz2⟩ := info_parts Tryz.infoRow
  have HR := hid h
  clear h
  unfold VR
  obtain ⟨n, hn⟩ : ∃ n, n = rs.length := ⟨_, rfl⟩
  have HN := hid hn.symm
  rw [← hn] at hm ⊢
  clear hn
  have hBx : Below w.heap.size w (((w.alloc (.cells #[.int .i64 now, .slice (some ⟨B, 0, none⟩) n n] 36)).alloc (.cells #[.int .i64 0, .slice none 0 0] 36)).alloc (.cells #[.int .i64 now, .slice none 0 0] 36)) := balloc (balloc (balloc (Below.refl _ _) _) _) _
  have g0 := old_alloc (o' := .cells #[.int .i64 now, .slice none 0 0] 36) (old_alloc (o' := .cells #[.int .i64 0, .slice none 0 0] 36) (new_alloc w w.heap.size (.cells #[.int .i64 now, .slice (some ⟨B, 0, none⟩) n n] 36) rfl))
  have g1 := old_alloc (o' := .cells #[.int .i64 now, .slice none 0 0] 36) (new_alloc (w.alloc (.cells #[.int .i64 now, .slice (some ⟨B, 0, none⟩) n n] 36)) (w.heap.size + 1) (.cells #[.int .i64 0, .slice none 0 0] 36) (by simp))
  have g2 := new_alloc ((w.alloc (.cells #[.int .i64 now, .slice (some ⟨B, 0, none⟩) n n] 36)).alloc (.cells #[.int .i64 0, .slice none 0 0] 36)) (w.heap.size + 1 + 1) (.cells #[.int .i64 now, .slice none 0 0] 36) (by simp)
  have hs3 : (((w.alloc (.cells #[.int .i64 now, .slice (some ⟨B, 0, none⟩) n n] 36)).alloc (.cells #[.int .i64 0, .slice none 0 0] 36)).alloc (.cells #[.int .i64 now, .slice none 0 0] 36)).heap.size = w.heap.size + 3 := by simp
  go_enter Tryz.func92, Tryz.ntmps92
  go_upto_region 2 with fail
  generalize (((w.alloc (.cells #[.int .i64 now, .slice (some ⟨B, 0, none⟩) n n] 36)).alloc (.cells #[.int .i64 0, .slice none 0 0] 36)).alloc (.cells #[.int .i64 now, .slice none 0 0] 36)) = W0 at *
  have HX0 := hid (RowsX.nil (base := w.heap.size + 3) (hi := W0.heap.size) (own_nilR (w := W0)) (fun g e => by cases e) (Nat.le_refl _))
  go_wp2_with fail
  go_loopw [4] (fun ti wr => ∃ i : Nat, ∃ v : Value, ∃ xs : List El, ti = .int .i64 i ∧ i ≤ n ∧ Hid (RowsX (w.heap.size + 3) wr.heap.size wr v (rs.take i) xs) ∧ Hid (wr.heap[w.heap.size]? = some (.cells #[.int .i64 now, .slice (some ⟨B, 0, none⟩) n n] 36 (0, 0))) ∧ Hid (wr.heap[w.heap.size + 1]? = some (.cells #[.int .i64 0, .slice none 0 0] 36 (0, 0))) ∧ Hid (wr.heap[w.heap.size + 1 + 1]? = some (.cells #[.int .i64 now, v] 36 (0, 0))) ∧ Hid (w.heap.size + 3 ≤ wr.heap.size) ∧ Hid (Below w.heap.size w wr)) (fun ti _ => n - (intOf ti).toNat)
  case atStart => exact ⟨0, _, [], rfl, Nat.zero_le _, HX0, hid g0, hid g1, hid g2, hid (by omega), hid hBx⟩
  case round =>
    clear HX0 g0 g1 g2 hBx hs3
    obtain ⟨i, v, xs, rfl, hi, HV, G0, G1, G2, HS, HBW⟩ := hrel
    obtain ⟨d0, d1, _, _⟩ := cell2f G0.out
    have hws := HS.out
    by_cases hlt : i < n
    · have c1 : (i : Int) < (n : Int) := by omega
      have hir : i < rs.length := by rw [HN.out]; exact hlt
      obtain ⟨ci, cpi, k9, k0, k1, k2, k3, k4, k6, k7⟩ := (HR.out.below HBW.out).2 i hir
      have htk : rs.take (i + 1) = rs.take i ++ [rs[i]] := by rw [List.take_add_one, List.getElem?_eq_getElem hir]; rfl
      have hil : (rs.take i).length ≤ i := by simp; omega
      have HSC := hid (fun (W : World) (hb : Below wr.heap.size wr W) => spec_copyG rs[i].2.2.2.1 ci 0 cpi rs[i].2.2.2.2 W k6 (k7.below hb) (Nat.lt_of_lt_of_le k9 hb.size))
      unfold CP at HSC
      obtain ⟨r, hr⟩ : ∃ r, r = rs[i] := ⟨_, rfl⟩
      rw [← hr] at k0 k1 k2 k3 k4 k6 htk HSC
      have HTK := hid htk
      clear hr htk k7 k9
      generalize rs.take i = zs at *
      obtain ⟨id, fr, te, kd, ps⟩ := r
      simp only at k0 k1 k2 k3 k4 k6 HSC
      go_upto_region 6 with fail
      have hbx : Below wr.heap.size wr (wr.alloc (.cells #[.int .i64 id, .int .i64 fr, .int .i64 te, .int .i64 kd, .slice (some ⟨ci, 0, none⟩) ps.length cpi] 129)) := balloc (Below.refl _ _) _
      have gx := new_alloc wr wr.heap.size (.cells #[.int .i64 id, .int .i64 fr, .int .i64 te, .int .i64 kd, .slice (some ⟨ci, 0, none⟩) ps.length cpi] 129) rfl
      have HV1 := hid (HV.out.below hbx)
      have HG0 := hid (keepheap2 hbx G0.out)
      have HG1 := hid (keepheap2 hbx G1.out)
      have HG2 := hid (keepheap2 hbx G2.out)
      have HB1 := hid (btrans HBW.out hbx)
      have HC1 := hid (HSC.out _ hbx)
      have hs1 : wr.heap.size < (wr.alloc (.cells #[.int .i64 id, .int .i64 fr, .int .i64 te, .int .i64 kd, .slice (some ⟨ci, 0, none⟩) ps.length cpi] 129)).heap.size := by simp
      clear k0 k1 k2 k3 k4 d0 d1 hbx HSC HV G0 G1 G2
      generalize wr.alloc (.cells #[.int .i64 id, .int .i64 fr, .int .i64 te, .int .i64 kd, .slice (some ⟨ci, 0, none⟩) ps.length cpi] 129) = W1 at *
      generalize wr.heap.size = X at *
      obtain ⟨⟨x0, x1, x2, x3, x4⟩, _⟩ := cell5g gx
      go_wp2_with fail
      refine HC1.out.mono ?_
      rintro e y ⟨g, cp, rfl, hcp, hgs, ho, hy⟩
      have gy := keepheap2 hy gx
      have hys := hy.size
      have hwy := (btrans HB1.out hy).size
      have HV2 := hid (HV1.out.below hy)
      have HG0' := hid (keepheap2 hy HG0.out)
      have HG1' := hid (keepheap2 hy HG1.out)
      have HG2' := hid (keepheap2 hy HG2.out)
      have HBy := hid (btrans HB1.out hy)
      have HO := hid ho
      clear hy ho gx HC1 HV1 HG0 HG1 HG2 HB1 x0 x1 x2 x3 x4
      obtain ⟨⟨x0, x1, x2, x3, x4⟩, y0, y1, y2, y3, y4⟩ := cell5g gy
      go_upto_region 7 with fail
      have gq := set34 gy (.int .i64 kd) (.slice (some ⟨g, 0, none⟩) ps.length cp)
      have hfar : ∀ b, b ≠ X → ((y.setCell ⟨X, 3, none⟩ (.int .i64 kd)).setCell ⟨X, 4, none⟩ (.slice (some ⟨g, 0, none⟩) ps.length cp)).heap[b]? = y.heap[b]? := fun b hb => by rw [Below.heap_setCell _ _ _ _ (by dsimp only; omega), Below.heap_setCell _ _ _ _ (by dsimp only; omega)]
      have HV3 := hid (HV2.out.frame (w' := (y.setCell ⟨X, 3, none⟩ (.int .i64 kd)).setCell ⟨X, 4, none⟩ (.slice (some ⟨g, 0, none⟩) ps.length cp)) (fun b h1 h2 => hfar b (by omega)) (by simp))
      have HG0 := hid ((hfar w.heap.size (by omega)).trans HG0'.out)
      have HG1 := hid ((hfar (w.heap.size + 1) (by omega)).trans HG1'.out)
      have g2 := (hfar (w.heap.size + 1 + 1) (by omega)).trans HG2'.out
      have HB3 := hid (bset (bset HBy.out (q := X) (k := 3) (by omega) (.int .i64 kd)) (q := X) (k := 4) (by omega) (.slice (some ⟨g, 0, none⟩) ps.length cp))
      have HO3 := hid (own_blk HO.out (hfar g (by omega)) (by simp; exact HO.out.1))
      have hs3 : ((y.setCell ⟨X, 3, none⟩ (.int .i64 kd)).setCell ⟨X, 4, none⟩ (.slice (some ⟨g, 0, none⟩) ps.length cp)).heap.size = y.heap.size := by simp
      have hs3a := Nat.le_of_eq hs3
      have hs3b := Nat.le_of_eq hs3.symm
      have hgy := HO.out.1
      clear hs3
      clear hfar HV2 HG0' HG1' HG2' HBy HO gy x0 x1 x2 x3 x4 y0 y1 y2 y3 y4
      generalize (y.setCell ⟨X, 3, none⟩ (.int .i64 kd)).setCell ⟨X, 4, none⟩ (.slice (some ⟨g, 0, none⟩) ps.length cp) = Y at *
      obtain ⟨⟨x0, x1, x2, x3, x4⟩, _⟩ := cell5g gq
      obtain ⟨v0, v1, _, _⟩ := cell2f g2
      have hownZ := HV3.out.2.1
      have hal2 : Below Y.heap.size Y (Y.alloc (.cells #[.int .i64 id, .int .i64 fr, .int .i64 te, .int .i64 kd, .slice (some ⟨g, 0, none⟩) ps.length cp] 129)) := balloc (Below.refl _ _) _
      have HGE := hid (keepheap2 hal2 g2)
      have hvb : v.ownBlock ≠ some (w.heap.size + 1 + 1) := fun e => by have := (hownZ.lt _ e).1; omega
      clear gq g2
      go_wp2_with (at_builtin; (refine wpList_append_lies _ rfl (.tmp 26) (.tmp 28) 34 rfl (w.heap.size + 3) 129 i0 _ 5 56 Tryz.underlying34 hi0 hz0 hz1 hz2 rfl (by decide) v zs.length (flat5 xs) rfl (hownZ.alloc _) ⟨Y.heap.size, 0, none⟩ 1 1 (ev (elR (id, fr, te, kd, ps) g cp)) rfl rfl (World.news_of_block (cs := #[.int .i64 id, .int .i64 fr, .int .i64 te, .int .i64 kd, .slice (some ⟨g, 0, none⟩) ps.length cp]) (t := 129) (fr := (0, 0)) (heap_alloc_new Y _)) (by simp [ev, elR, Value.oneCell']) (by omega) (by unfold maxLen; omega) (by omega) (by simp; omega) (Y.heap.size + 1) (by simp) ?_; intro gg cq w2 hown2 hgrow hat hlt2; have g2 := (hgrow.block (w.heap.size + 1 + 1) (lt_of_block HGE.out) (fun e => hvb e.symm)).trans HGE.out; obtain ⟨t0, t1, s0, s1⟩ := cell2f g2))
      have hsn := RowsX.snoc (r := (id, fr, te, kd, ps)) (c := g) (cp := cp) (HV3.out.below hal2) (by omega) (by omega) (by simp; omega) hcp k6 (HO3.out.below hal2) hown2 hgrow (by simpa using hat) hlt2
      have hb2 : Below w.heap.size w w2 := Below.grown (balloc HB3.out _) hgrow (by simp; omega) (fun k e => by have := (hownZ.lt k e).1; omega)
      have hw2 := hgrow.size
      have HG0e := hid ((hgrow.block w.heap.size (by simp; omega) (fun e => by have := (hownZ.lt _ e.symm).1; omega)).trans (keepheap2 hal2 HG0.out))
      have HG1e := hid ((hgrow.block (w.heap.size + 1) (by simp; omega) (fun e => by have := (hownZ.lt _ e.symm).1; omega)).trans (keepheap2 hal2 HG1.out))
      have hfar : ∀ b, b ≠ w.heap.size + 1 + 1 → (w2.setCell ⟨w.heap.size + 1 + 1, 1, none⟩ (.slice (some ⟨gg, 0, none⟩) (zs.length + 1) cq)).heap[b]? = w2.heap[b]? := fun b hb => by rw [Below.heap_setCell _ _ _ _ (by dsimp only; omega)]
      have HF1 := hid ((hsn.frame (w' := w2.setCell ⟨w.heap.size + 1 + 1, 1, none⟩ (.slice (some ⟨gg, 0, none⟩) (zs.length + 1) cq)) (fun b h1 h2 => hfar b (by omega)) (by simp)).mono (hi' := (w2.setCell ⟨w.heap.size + 1 + 1, 1, none⟩ (.slice (some ⟨gg, 0, none⟩) (zs.length + 1) cq)).heap.size) (Nat.le_refl _) (by simp) (Nat.le_refl _))
      rw [← HTK.out] at HF1
      have HF2 := hid ((hfar w.heap.size (by omega)).trans HG0e.out)
      have HF3 := hid ((hfar (w.heap.size + 1) (by omega)).trans HG1e.out)
      have HF4 : Hid ((w2.setCell ⟨w.heap.size + 1 + 1, 1, none⟩ (.slice (some ⟨gg, 0, none⟩) (zs.length + 1) cq)).heap[w.heap.size + 1 + 1]? = some (.cells #[.int .i64 now, .slice (some ⟨gg, 0, none⟩) (zs.length + 1) cq] 36 (0, 0))) := hid (set1r g2 _)
      have HF5 : Hid (w.heap.size + 3 ≤ (w2.setCell ⟨w.heap.size + 1 + 1, 1, none⟩ (.slice (some ⟨gg, 0, none⟩) (zs.length + 1) cq)).heap.size) := hid (by simp at hw2 ⊢; omega)
      have HF6 := hid (bset hb2 (q := w.heap.size + 1 + 1) (k := 1) (by omega) (.slice (some ⟨gg, 0, none⟩) (zs.length + 1) cq))
      clear hsn hb2 hown2 hgrow hal2 hownZ hfar g2 t0 t1 s0 s1 HGE HG0e HG1e
      go_roundw
      case rel => exact ⟨i + 1, _, _, by go_num, by omega, HF1, HF2, HF3, HF4, HF5, HF6⟩
      case measure => simp [intOf]; omega
    · have c1 : (n : Int) ≤ (i : Int) := by omega
      have hin : i = rs.length := by have := HN.out; omega
      have hX : RowsX (w.heap.size + 3) wr.heap.size wr v rs xs := by have := HV.out; rw [hin, List.take_length] at this; exact this
      obtain ⟨a, c, rfl⟩ := kept_form hX
      rw [HN.out] at hX G2
      have HX := hid hX
      clear hin HV hX
      obtain ⟨v0, v1, _, _⟩ := cell2f G1.out
      obtain ⟨t0, t1, _, _⟩ := cell2f G2.out
      obtain ⟨_, _, s0, s1⟩ := cell2f G1.out
      go_wp2_with fail
      have gF := set2r G1.out (.int .i64 now) (.slice a n c)
      have bF := bset (bset HBW.out (q := w.heap.size + 1) (k := 0) (by omega) (.int .i64 now)) (q := w.heap.size + 1) (k := 1) (by omega) (.slice a n c)
      have xF := (HX.out.frame (w' := (wr.setCell ⟨w.heap.size + 1, 0, none⟩ (.int .i64 now)).setCell ⟨w.heap.size + 1, 1, none⟩ (.slice a n c)) (fun b h1 h2 => by rw [Below.heap_setCell _ _ _ _ (by dsimp only; omega), Below.heap_setCell _ _ _ _ (by dsimp only; omega)]) (by simp)).mono (base' := w.heap.size) (hi' := ((wr.setCell ⟨w.heap.size + 1, 0, none⟩ (.int .i64 now)).setCell ⟨w.heap.size + 1, 1, none⟩ (.slice a n c)).heap.size) (by omega) (by simp) (Nat.le_refl _)
      generalize (wr.setCell ⟨w.heap.size + 1, 0, none⟩ (.int .i64 now)).setCell ⟨w.heap.size + 1, 1, none⟩ (.slice a n c) = wf at *
      obtain ⟨z0, z1, _, _⟩ := cell2f gF
      exact bodyPost_ret (v := .agg #[.int .i64 now, .slice a n c]) (by simp [results, Tryz.results92, go_sem, z0, z1]) rfl ⟨a, c, xs, rfl, xF, bF⟩
end Go.Proofs.YtehifednpbdokaaGreatDoor
namespace Go.Proofs.YtehifednpbdokaaGreatDoor
open Go.RowKit
set_option linter.unusedSimpArgs false
set_option linter.unusedVariables false
theorem setk4_23 {w : World} {p : Nat} {o0 o1 o2 o3 : Value} {t : TypeId} (h : w.heap[p]? = some (.cells #[o0, o1, o2, o3] t (0, 0))) (c d : Value) : ((w.setCell ⟨p, 2, none⟩ c).setCell ⟨p, 3, none⟩ d).heap[p]? = some (.cells #[o0, o1, c, d] t (0, 0)) := set_at (set_at h)
theorem setk3_2 {w : World} {p : Nat} {o0 o1 o2 : Value} {t : TypeId} (h : w.heap[p]? = some (.cells #[o0, o1, o2] t (0, 0))) (c : Value) : (w.setCell ⟨p, 2, none⟩ c).heap[p]? = some (.cells #[o0, o1, c] t (0, 0)) := set_at h
set_option maxRecDepth 100000 in
set_option maxHeartbeats 2000000 in
theorem spec_copyChs (B cap : Nat) (xs : List Ch) (w : World) (hm : xs.length ≤ 1099511627776) (h : ChsS w B xs) : Calls Tryz.prog 93 #[.slice (some ⟨B, 0, none⟩) xs.length cap] w fun e w' => ∃ v ps, e = .returned v ∧ LX KC 87 w.heap.size w'.heap.size w' v xs ps ∧ (∃ g c, v = .slice (some ⟨g, 0, none⟩) xs.length c) ∧ Below w.heap.size w w' := by
  obtain ⟨i0, hi0, hz0, hz1, hz2⟩ := info_parts Tryz.infoCh
  have HR := hid h
  clear h
  obtain ⟨n, hn⟩ : ∃ n, n = xs.length := ⟨_, rfl⟩
  have HN := hid hn.symm
  rw [← hn] at hm ⊢
  clear hn
  have hB0 : Below w.heap.size w (w.alloc (.cells #[] 87)) := balloc (Below.refl _ _) _
  have HI : Hid (LX KC 87 w.heap.size (w.alloc (.cells #[] 87)).heap.size (w.alloc (.cells #[] 87)) (.slice (some ⟨w.heap.size, 0, none⟩) 0 0) [] []) := hid (by
    have := World.ownsRow_made (base := w.heap.size) (e := 87) (size := 4) w #[] 0 (Nat.le_refl _) (by unfold maxLen; omega) rfl
    exact LX.nil this (fun g e => by simp [Value.ownBlock] at e; subst e; simp) (Nat.le_refl _))
  go_enter Tryz.func93, Tryz.ntmps93
  go_upto_region 2 with fail
  generalize w.alloc (.cells #[] 87) = W0 at *
  go_wp2_with fail
  go_loopw [3, 4] (fun tv ti wr => ∃ i : Nat, ∃ g5 c5 : Nat, ∃ ps' : List (Ch × Value), ti = .int .i64 i ∧ i ≤ n ∧ tv = .slice (some ⟨g5, 0, none⟩) i c5 ∧ Hid (LX KC 87 w.heap.size wr.heap.size wr (.slice (some ⟨g5, 0, none⟩) i c5) (xs.take i) ps') ∧ Hid (Below w.heap.size w wr)) (fun _ ti _ => n - (intOf ti).toNat)
  case atStart => exact ⟨0, w.heap.size, 0, [], rfl, Nat.zero_le _, rfl, HI, hid hB0⟩
  case round =>
    clear HI hB0
    obtain ⟨i, g5, c5, ps', rfl, hi, rfl, HV, HBW⟩ := hrel
    have hwX := HBW.out.size
    by_cases hlt : i < n
    · have d1 : (i : Int) < (n : Int) := by omega
      have hir : i < xs.length := by rw [HN.out]; exact hlt
      obtain ⟨ci, cpi, k9, ⟨k0, k1, k2, k3⟩, k6, k7⟩ := (HR.out.below HBW.out).2 i hir
      have HX : Hid (xs.take (i + 1) = xs.take i ++ [xs[i]]) := hid (by rw [List.take_add_one, List.getElem?_eq_getElem hir]; rfl)
      have hil : (xs.take i).length = i := by rw [List.length_take]; omega
      have HIL := hid hil
      obtain ⟨r, hr⟩ : ∃ r, r = xs[i] := ⟨_, rfl⟩
      rw [← hr] at k0 k1 k2 k3 k6 k7 HX
      clear hr hil
      obtain ⟨id, gn, kd, ps⟩ := r
      simp only at k0 k1 k2 k3 k6 k7
      have hbx : Below wr.heap.size wr (wr.alloc (.cells #[.int .i64 id, .bool gn, .int .i64 kd, .slice (some ⟨ci, 0, none⟩) ps.length cpi] 87)) := balloc (Below.refl _ _) _
      have HC1 := hid (spec_copyG kd ci 0 cpi ps _ k6 (k7.below hbx) (Nat.lt_of_lt_of_le k9 hbx.size))
      unfold CP at HC1
      clear k7
      go_upto_region 6 with fail
      have gx := new_alloc wr wr.heap.size (.cells #[.int .i64 id, .bool gn, .int .i64 kd, .slice (some ⟨ci, 0, none⟩) ps.length cpi] 87) rfl
      have HI1 := hid (HV.out.below hbx)
      have HB1 := hid (btrans HBW.out hbx)
      have hs1 : wr.heap.size < (wr.alloc (.cells #[.int .i64 id, .bool gn, .int .i64 kd, .slice (some ⟨ci, 0, none⟩) ps.length cpi] 87)).heap.size := by simp
      clear k0 k1 k2 k3 hbx HV
      generalize wr.alloc (.cells #[.int .i64 id, .bool gn, .int .i64 kd, .slice (some ⟨ci, 0, none⟩) ps.length cpi] 87) = W1 at *
      generalize wr.heap.size = Xh at *
      obtain ⟨⟨x0, x1, x2, x3⟩, _⟩ := cellk4 gx
      go_wp2_with fail
      refine HC1.out.mono ?_
      rintro e y ⟨g, cp, rfl, hcp, hgs, ho, hy⟩
      have gy := keepheap2 hy gx
      have hys := hy.size
      have HBy := hid (btrans HB1.out hy)
      have HIy := hid (HI1.out.below hy)
      have hwy := HBy.out.size
      have HO := hid ho
      clear hy ho gx HC1 HI1 HB1 x0 x1 x2 x3
      obtain ⟨⟨x0, x1, x2, x3⟩, y0, y1, y2, y3⟩ := cellk4 gy
      go_upto_region 7 with fail
      have gq := setk4_23 gy (.int .i64 kd) (.slice (some ⟨g, 0, none⟩) ps.length cp)
      have hfar : ∀ b, b ≠ Xh → ((y.setCell ⟨Xh, 2, none⟩ (.int .i64 kd)).setCell ⟨Xh, 3, none⟩ (.slice (some ⟨g, 0, none⟩) ps.length cp)).heap[b]? = y.heap[b]? := fun b hb => by rw [Below.heap_setCell _ _ _ _ (by dsimp only; omega), Below.heap_setCell _ _ _ _ (by dsimp only; omega)]
      have HI3 := hid (HIy.out.frame (w' := (y.setCell ⟨Xh, 2, none⟩ (.int .i64 kd)).setCell ⟨Xh, 3, none⟩ (.slice (some ⟨g, 0, none⟩) ps.length cp)) (fun b h1 h2 => hfar b (by omega)) (by simp))
      have HB3 := hid (bset (bset HBy.out (q := Xh) (k := 2) (by omega) (.int .i64 kd)) (q := Xh) (k := 3) (by omega) (.slice (some ⟨g, 0, none⟩) ps.length cp))
      have HO3 := hid (own_blk HO.out (hfar g (by omega)) (by simp; exact HO.out.1))
      have hs3 : ((y.setCell ⟨Xh, 2, none⟩ (.int .i64 kd)).setCell ⟨Xh, 3, none⟩ (.slice (some ⟨g, 0, none⟩) ps.length cp)).heap.size = y.heap.size := by simp
      have hs3a := Nat.le_of_eq hs3
      have hs3b := Nat.le_of_eq hs3.symm
      have hgy := HO.out.1
      clear hs3 hfar HIy HBy HO gy x0 x1 x2 x3 y0 y1 y2 y3
      generalize (y.setCell ⟨Xh, 2, none⟩ (.int .i64 kd)).setCell ⟨Xh, 3, none⟩ (.slice (some ⟨g, 0, none⟩) ps.length cp) = Y at *
      obtain ⟨⟨x0, x1, x2, x3⟩, _⟩ := cellk4 gq
      have hownZ : Y.ownsRow w.heap.size 87 4 (.slice (some ⟨g5, 0, none⟩) i c5) i (flatK KC ps') := by have := HI3.out.2.1; rw [HIL.out] at this; exact this
      clear gq
      go_wp2_with (at_builtin; (refine wpList_append_lies _ rfl (.tmp 21) (.tmp 23) 66 rfl w.heap.size 87 i0 _ 4 48 Tryz.underlying66 hi0 hz0 hz1 hz2 rfl (by decide) (.slice (some ⟨g5, 0, none⟩) i c5) i (flatK KC ps') rfl (hownZ.alloc _) ⟨Y.heap.size, 0, none⟩ 1 1 [.int .i64 id, .bool gn, .int .i64 kd, .slice (some ⟨g, 0, none⟩) ps.length cp] rfl rfl (World.news_of_block (cs := #[.int .i64 id, .bool gn, .int .i64 kd, .slice (some ⟨g, 0, none⟩) ps.length cp]) (t := 87) (fr := (0, 0)) (heap_alloc_new Y _)) (by simp [Value.oneCell']) (by omega) (by unfold maxLen; omega) (by omega) (by simp; omega) (Y.heap.size + 1) (by simp) ?_; intro gg cq w2 hown2 hgrow hat hlt2))
      have hal2 : Below Y.heap.size Y (Y.alloc (.cells #[.int .i64 id, .bool gn, .int .i64 kd, .slice (some ⟨g, 0, none⟩) ps.length cp] 87)) := balloc (Below.refl _ _) _
      have hsub : KC.sub g (g + 1) (Y.alloc (.cells #[.int .i64 id, .bool gn, .int .i64 kd, .slice (some ⟨g, 0, none⟩) ps.length cp] 87)) (.slice (some ⟨g, 0, none⟩) ps.length cp) (id, gn, kd, ps) := ⟨by have := (HO3.out.below hal2).1; omega, g, cp, rfl, hcp, k6, Nat.le_refl _, by omega, HO3.out.below hal2⟩
      have hsn := LX.snoc (x := (id, gn, kd, ps)) (sv := .slice (some ⟨g, 0, none⟩) ps.length cp) (l := g) (u := g + 1) (g := gg) (cap := cq) (HI3.out.below hal2) (by omega) (by omega) hsub (by rw [HIL.out]; exact hown2) hgrow (by simpa using hat) hlt2
      rw [HIL.out] at hsn
      have hb2 : Below w.heap.size w w2 := Below.grown (balloc HB3.out _) hgrow (by simp; omega) (fun k e => (hownZ.lt k e).1)
      have HSN2 : Hid (LX KC 87 w.heap.size w2.heap.size w2 (.slice (some ⟨gg, 0, none⟩) (i + 1) cq) (xs.take (i + 1)) (ps' ++ [((id, gn, kd, ps), .slice (some ⟨g, 0, none⟩) ps.length cp)])) := hid (by rw [HX.out]; exact hsn)
      have HB2 := hid hb2
      clear hsn hb2 hown2 hgrow hal2 hownZ hsub x0 x1 x2 x3
      go_roundw
      case rel => exact ⟨i + 1, gg, cq, _, by go_num, by omega, rfl, HSN2, HB2⟩
      case measure => simp [intOf]; omega
    · have d1 : (n : Int) ≤ (i : Int) := by omega
      have hin : i = n := by omega
      subst hin
      have HF : Hid (LX KC 87 w.heap.size wr.heap.size wr (.slice (some ⟨g5, 0, none⟩) i c5) xs ps') := hid (by have := HV.out; rw [← HN.out, List.take_length] at this; rw [← HN.out]; exact this)
      clear HV
      go_wp2_with fail
      go_ret
      exact ⟨_, ps', rfl, HF.out, ⟨g5, c5, rfl⟩, HBW.out⟩
end Go.Proofs.YtehifednpbdokaaGreatDoor
namespace Go.Proofs.YtehifednpbdokaaGreatDoor
open Go.RowKit
set_option linter.unusedSimpArgs false
set_option linter.unusedVariables false
theorem own_nilT {w : World} {B : Nat} : w.ownsRow B 84 3 (.slice none 0 0) 0 [] := ⟨by simp, .inl ⟨rfl, rfl⟩⟩
theorem LX.form {α : Type} {K : Kd α} {t : TypeId} {base hi : Nat} {w : World} {v : Value} {xs : List α} {ps : List (α × Value)} (h : LX K t base hi w v xs ps) : ∃ a cap, v = .slice a xs.length cap := by
  obtain ⟨a, cap, e, _⟩ := h.lc.form
  exact ⟨a, cap, e⟩
set_option maxRecDepth 100000 in
set_option maxHeartbeats 4000000 in
theorem spec_copyStore (now : Int) (B D tc : Nat) (rs : List Rw) (ts : List Tx) (w : World) (hm : rs.length ≤ 1099511627776) (htm : ts.length ≤ 1099511627776) (hr : RwsS w B rs) (ht : TxsS w D ts) : Calls Tryz.prog 52 #[.agg #[.int .i64 now, .slice (some ⟨B, 0, none⟩) rs.length rs.length, .slice (some ⟨D, 0, none⟩) ts.length tc]] w fun e w' => ∃ a c ta tcc b1 u1 b2 u2, e = .returned (.agg #[.int .i64 now, .slice a rs.length c, .slice ta ts.length tcc]) ∧ StX b1 u1 b2 u2 w' a ta c tcc rs ts ∧ w.heap.size ≤ b1 ∧ w.heap.size ≤ b2 ∧ Below w.heap.size w w' := by
  obtain ⟨i0, hi0, hz0, hz1, hz2⟩ := info_parts Tryz.infoTx
  have HR := hid (fun (W : World) (hb : Below w.heap.size w W) => spec_copyRows now B rs W hm (hr.below hb))
  have HTS := hid ht
  clear hr ht
  unfold StX
  unfold VR at HR
  generalize hnr : rs.length = nr at *
  have HNR := hid hnr
  obtain ⟨nt, hnt⟩ : ∃ nt, nt = ts.length := ⟨_, rfl⟩
  have HNT := hid hnt.symm
  rw [← hnt] at htm ⊢
  clear hnr hnt
  have hB : Below w.heap.size w ((w.alloc (.cells #[.int .i64 now, .slice (some ⟨B, 0, none⟩) nr nr, .slice (some ⟨D, 0, none⟩) nt tc] 39)).alloc (.cells #[.int .i64 0, .slice none 0 0, .slice none 0 0] 39)) := balloc (balloc (Below.refl _ _) _) _
  have g0 := old_alloc (o' := .cells #[.int .i64 0, .slice none 0 0, .slice none 0 0] 39) (new_alloc w w.heap.size (.cells #[.int .i64 now, .slice (some ⟨B, 0, none⟩) nr nr, .slice (some ⟨D, 0, none⟩) nt tc] 39) rfl)
  have g1 := new_alloc (w.alloc (.cells #[.int .i64 now, .slice (some ⟨B, 0, none⟩) nr nr, .slice (some ⟨D, 0, none⟩) nt tc] 39)) (w.heap.size + 1) (.cells #[.int .i64 0, .slice none 0 0, .slice none 0 0] 39) (by simp)
  have hWs : w.heap.size + 1 < ((w.alloc (.cells #[.int .i64 now, .slice (some ⟨B, 0, none⟩) nr nr, .slice (some ⟨D, 0, none⟩) nt tc] 39)).alloc (.cells #[.int .i64 0, .slice none 0 0, .slice none 0 0] 39)).heap.size := by simp
  go_enter Tryz.func52, Tryz.ntmps52
  go_upto_region 1 with fail
  generalize (w.alloc (.cells #[.int .i64 now, .slice (some ⟨B, 0, none⟩) nr nr, .slice (some ⟨D, 0, none⟩) nt tc] 39)).alloc (.cells #[.int .i64 0, .slice none 0 0, .slice none 0 0] 39) = W at *
  obtain ⟨⟨d0, d1, d2⟩, _⟩ := cellk3 g0
  go_wp2_with fail
  refine (HR.out _ hB).mono ?_
  rintro e y ⟨a, c, pr, rfl, hX, hy⟩
  replace g0 := keepheap2 hy g0
  replace g1 := keepheap2 hy g1
  replace hB := btrans hB hy
  have hyz := hy.size
  have HX := hid hX.lc
  clear hy hX HR d0 d1 d2
  go_upto_region 2 with fail
  have hal : Below y.heap.size y (y.alloc (.cells #[.int .i64 now, .slice a nr c, .slice none 0 0] 39)) := balloc (Below.refl _ _) _
  have g2 := new_alloc y y.heap.size (.cells #[.int .i64 now, .slice a nr c, .slice none 0 0] 39) rfl
  replace g0 := keepheap2 hal g0
  replace g1 := keepheap2 hal g1
  have HX1 := hid (HX.out.below hal)
  have HB1 := hid (btrans hB hal)
  have hyq : y.heap.size < (y.alloc (.cells #[.int .i64 now, .slice a nr c, .slice none 0 0] 39)).heap.size := by simp
  clear hal hB HX
  generalize y.alloc (.cells #[.int .i64 now, .slice a nr c, .slice none 0 0] 39) = Y0 at *
  generalize W.heap.size = Wz at *
  generalize y.heap.size = Q at *
  have HX0 := hid (LX.nil (K := KT) (t := 84) (base := Q + 1) (hi := Y0.heap.size) (own_nilT (w := Y0)) (fun g e => by cases e) (Nat.le_refl _))
  have hBz := HB1.out.size
  go_wp2_with fail
  go_loopw [4] (fun ti wr => ∃ i : Nat, ∃ v : Value, ∃ ps' : List (Tx × Value), ti = .int .i64 i ∧ i ≤ nt ∧ Hid (LX KT 84 (Q + 1) wr.heap.size wr v (ts.take i) ps') ∧ Hid (wr.heap[w.heap.size]? = some (.cells #[.int .i64 now, .slice (some ⟨B, 0, none⟩) nr nr, .slice (some ⟨D, 0, none⟩) nt tc] 39 (0, 0))) ∧ Hid (wr.heap[w.heap.size + 1]? = some (.cells #[.int .i64 0, .slice none 0 0, .slice none 0 0] 39 (0, 0))) ∧ Hid (wr.heap[Q]? = some (.cells #[.int .i64 now, .slice a nr c, v] 39 (0, 0))) ∧ Hid (LC KR Wz Q wr (.slice a nr c) rs) ∧ Hid (Q < wr.heap.size) ∧ Hid (Below w.heap.size w wr)) (fun ti _ => nt - (intOf ti).toNat)
  case atStart => exact ⟨0, _, [], rfl, Nat.zero_le _, HX0, hid g0, hid g1, hid g2, HX1, hid (by omega), HB1⟩
  case round =>
    clear HX0 g0 g1 g2 HX1 HB1 hBz
    obtain ⟨i, v, ps', rfl, hi, HV, G0, G1, G2, HXR, HS, HBW⟩ := hrel
    obtain ⟨⟨d0, d1, d2⟩, _⟩ := cellk3 G0.out
    have hws := HS.out
    by_cases hlt : i < nt
    · have c1 : (i : Int) < (nt : Int) := by omega
      have hir : i < ts.length := by rw [HNT.out]; exact hlt
      obtain ⟨ci, cpi, k9, ⟨k0, k1, k2⟩, k6, k7⟩ := (HTS.out.below HBW.out).2 i hir
      have HTK : Hid (ts.take (i + 1) = ts.take i ++ [ts[i]]) := hid (by rw [List.take_add_one, List.getElem?_eq_getElem hir]; rfl)
      have HIL : Hid ((ts.take i).length = i) := hid (by rw [List.length_take]; omega)
      obtain ⟨r, hr⟩ : ∃ r, r = ts[i] := ⟨_, rfl⟩
      rw [← hr] at k0 k1 k2 k6 k7 HTK
      clear hr
      obtain ⟨st, op, cs⟩ := r
      simp only at k0 k1 k2 k6 k7
      have hbx : Below wr.heap.size wr (wr.alloc (.cells #[.int .i64 st, .bool op, .slice (some ⟨ci, 0, none⟩) cs.length cpi] 84)) := balloc (Below.refl _ _) _
      have HC1 := hid (spec_copyChs ci cpi cs _ k6 (k7.below hbx))
      clear k7
      go_upto_region 6 with fail
      have gx := new_alloc wr wr.heap.size (.cells #[.int .i64 st, .bool op, .slice (some ⟨ci, 0, none⟩) cs.length cpi] 84) rfl
      have HV1 := hid (HV.out.below hbx)
      have HG0 := hid (keepheap2 hbx G0.out)
      have HG1 := hid (keepheap2 hbx G1.out)
      have HG2 := hid (keepheap2 hbx G2.out)
      have HXR1 := hid (HXR.out.below hbx)
      have HB1 := hid (btrans HBW.out hbx)
      have hs1 : wr.heap.size < (wr.alloc (.cells #[.int .i64 st, .bool op, .slice (some ⟨ci, 0, none⟩) cs.length cpi] 84)).heap.size := by simp
      clear k0 k1 k2 d0 d1 d2 hbx HV G0 G1 G2 HXR
      generalize wr.alloc (.cells #[.int .i64 st, .bool op, .slice (some ⟨ci, 0, none⟩) cs.length cpi] 84) = W1 at *
      generalize wr.heap.size = X at *
      obtain ⟨⟨x0, x1, x2⟩, _⟩ := cellk3 gx
      go_wp2_with fail
      refine HC1.out.mono ?_
      rintro e y ⟨sv, px, rfl, hXc, ⟨g, cp, rfl⟩, hy⟩
      have gy := keepheap2 hy gx
      have hys := hy.size
      have HV2 := hid (HV1.out.below hy)
      have HG0' := hid (keepheap2 hy HG0.out)
      have HG1' := hid (keepheap2 hy HG1.out)
      have HG2' := hid (keepheap2 hy HG2.out)
      have HXR2 := hid (HXR1.out.below hy)
      have HBy := hid (btrans HB1.out hy)
      have hwy := HBy.out.size
      have HO := hid hXc.lc
      clear hy hXc gx HC1 HV1 HG0 HG1 HG2 HXR1 HB1 x0 x1 x2
      obtain ⟨⟨x0, x1, x2⟩, y0, y1, y2⟩ := cellk3 gy
      go_upto_region 7 with fail
      have gq := setk3_2 gy (.slice (some ⟨g, 0, none⟩) cs.length cp)
      have hfar : ∀ b, b ≠ X → (y.setCell ⟨X, 2, none⟩ (.slice (some ⟨g, 0, none⟩) cs.length cp)).heap[b]? = y.heap[b]? := fun b hb => by rw [Below.heap_setCell _ _ _ _ (by dsimp only; omega)]
      have HV3 := hid (HV2.out.frame (w' := y.setCell ⟨X, 2, none⟩ (.slice (some ⟨g, 0, none⟩) cs.length cp)) (fun b h1 h2 => hfar b (by omega)) (by simp))
      have HG0 := hid ((hfar w.heap.size (by omega)).trans HG0'.out)
      have HG1 := hid ((hfar (w.heap.size + 1) (by omega)).trans HG1'.out)
      have g2 := (hfar Q (by omega)).trans HG2'.out
      have HXR3 := hid (HXR2.out.frame (w' := y.setCell ⟨X, 2, none⟩ (.slice (some ⟨g, 0, none⟩) cs.length cp)) (fun b h1 h2 => hfar b (by omega)) (by simp))
      have HB3 := hid (bset HBy.out (q := X) (k := 2) (by omega) (.slice (some ⟨g, 0, none⟩) cs.length cp))
      have HO3 := hid (HO.out.frame (w' := y.setCell ⟨X, 2, none⟩ (.slice (some ⟨g, 0, none⟩) cs.length cp)) (fun b h1 h2 => hfar b (by omega)) (by simp))
      have hs3 : (y.setCell ⟨X, 2, none⟩ (.slice (some ⟨g, 0, none⟩) cs.length cp)).heap.size = y.heap.size := by simp
      have hs3a := Nat.le_of_eq hs3
      have hs3b := Nat.le_of_eq hs3.symm
      clear hs3 hfar HV2 HG0' HG1' HG2' HXR2 HBy HO gy x0 x1 x2 y0 y1 y2
      generalize y.setCell ⟨X, 2, none⟩ (.slice (some ⟨g, 0, none⟩) cs.length cp) = Y at *
      generalize W1.heap.size = W1z at *
      generalize y.heap.size = yz at *
      obtain ⟨⟨x0, x1, x2⟩, _⟩ := cellk3 gq
      obtain ⟨⟨v0, v1, v2⟩, _⟩ := cellk3 g2
      have hownZ : Y.ownsRow (Q + 1) 84 3 v i (flatK KT ps') := by have := HV3.out.2.1; rw [HIL.out] at this; exact this
      have hal2 : Below Y.heap.size Y (Y.alloc (.cells #[.int .i64 st, .bool op, .slice (some ⟨g, 0, none⟩) cs.length cp] 84)) := balloc (Below.refl _ _) _
      have HGE := hid (keepheap2 hal2 g2)
      have hvb : v.ownBlock ≠ some Q := fun e => by have := (hownZ.lt _ e).1; omega
      clear gq g2
      go_wp2_with (at_builtin; (refine wpList_append_lies _ rfl (.tmp 27) (.tmp 29) 37 rfl (Q + 1) 84 i0 _ 3 40 Tryz.underlying37 hi0 hz0 hz1 hz2 rfl (by decide) v i (flatK KT ps') rfl (hownZ.alloc _) ⟨Y.heap.size, 0, none⟩ 1 1 [.int .i64 st, .bool op, .slice (some ⟨g, 0, none⟩) cs.length cp] rfl rfl (World.news_of_block (cs := #[.int .i64 st, .bool op, .slice (some ⟨g, 0, none⟩) cs.length cp]) (t := 84) (fr := (0, 0)) (heap_alloc_new Y _)) (by simp [Value.oneCell']) (by omega) (by unfold maxLen; omega) (by omega) (by simp; omega) (Y.heap.size + 1) (by simp) ?_; intro gg cq w2 hown2 hgrow hat hlt2; have g2 := (hgrow.block Q (lt_of_block HGE.out) (fun e => hvb e.symm)).trans HGE.out; obtain ⟨⟨t0, t1, t2⟩, s0, s1, s2⟩ := cellk3 g2))
      have hsn := LX.snoc (K := KT) (x := (st, op, cs)) (sv := .slice (some ⟨g, 0, none⟩) cs.length cp) (l := W1z) (u := yz) (g := gg) (cap := cq) (HV3.out.below hal2) (by omega) (by omega) (HO3.out.below hal2) (by rw [HIL.out]; exact hown2) hgrow (by simpa using hat) hlt2
      rw [HIL.out] at hsn
      have hb2 : Below w.heap.size w w2 := Below.grown (balloc HB3.out _) hgrow (by simp; omega) (fun k e => by have := (hownZ.lt k e).1; omega)
      have hw2 := hgrow.size
      have hbk : ∀ b, b ≤ Q → w2.heap[b]? = Y.heap[b]? := fun b hb => (hgrow.block b (by simp; omega) (fun e => by have := (hownZ.lt _ e.symm).1; omega)).trans (hal2.block b (by omega))
      have hfar : ∀ b, b ≠ Q → (w2.setCell ⟨Q, 2, none⟩ (.slice (some ⟨gg, 0, none⟩) (i + 1) cq)).heap[b]? = w2.heap[b]? := fun b hb => by rw [Below.heap_setCell _ _ _ _ (by dsimp only; omega)]
      have HF1 := hid ((hsn.frame (w' := w2.setCell ⟨Q, 2, none⟩ (.slice (some ⟨gg, 0, none⟩) (i + 1) cq)) (fun b h1 h2 => hfar b (by omega)) (by simp)).mono (hi' := (w2.setCell ⟨Q, 2, none⟩ (.slice (some ⟨gg, 0, none⟩) (i + 1) cq)).heap.size) (Nat.le_refl _) (by simp) (Nat.le_refl _))
      rw [← HTK.out] at HF1
      have HF2 := hid (((hfar w.heap.size (by omega)).trans (hbk _ (by omega))).trans HG0.out)
      have HF3 := hid (((hfar (w.heap.size + 1) (by omega)).trans (hbk _ (by omega))).trans HG1.out)
      have HF4 : Hid ((w2.setCell ⟨Q, 2, none⟩ (.slice (some ⟨gg, 0, none⟩) (i + 1) cq)).heap[Q]? = some (.cells #[.int .i64 now, .slice a nr c, .slice (some ⟨gg, 0, none⟩) (i + 1) cq] 39 (0, 0))) := hid (setk3_2 g2 _)
      have HF7 := hid (HXR3.out.frame (w' := w2.setCell ⟨Q, 2, none⟩ (.slice (some ⟨gg, 0, none⟩) (i + 1) cq)) (fun b h1 h2 => (hfar b (by omega)).trans (hbk b (by omega))) (by simp at hw2 ⊢; omega))
      have HF5 : Hid (Q < (w2.setCell ⟨Q, 2, none⟩ (.slice (some ⟨gg, 0, none⟩) (i + 1) cq)).heap.size) := hid (by simp at hw2 ⊢; omega)
      have HF6 := hid (bset hb2 (q := Q) (k := 2) (by omega) (.slice (some ⟨gg, 0, none⟩) (i + 1) cq))
      clear hsn hb2 hown2 hgrow hal2 hownZ hfar hbk g2 t0 t1 t2 s0 s1 s2 HGE
      go_roundw
      case rel => exact ⟨i + 1, _, _, by go_num, by omega, HF1, HF2, HF3, HF4, HF7, HF5, HF6⟩
      case measure => simp [intOf]; omega
    · have c1 : (nt : Int) ≤ (i : Int) := by omega
      have hin : i = ts.length := by have := HNT.out; omega
      have hX : LX KT 84 (Q + 1) wr.heap.size wr v ts ps' := by have := HV.out; rw [hin, List.take_length] at this; exact this
      obtain ⟨ta, tcc, rfl⟩ := hX.form
      rw [HNT.out] at hX G2
      have HX := hid hX
      clear hin HV hX
      obtain ⟨⟨v0, v1, v2⟩, s0, s1, s2⟩ := cellk3 G1.out
      obtain ⟨⟨t0, t1, t2⟩, _⟩ := cellk3 G2.out
      go_wp2_with fail
      have gF := setk3 G1.out (.int .i64 now) (.slice a nr c) (.slice ta nt tcc)
      have bF := bset (bset (bset HBW.out (q := w.heap.size + 1) (k := 0) (by omega) (.int .i64 now)) (q := w.heap.size + 1) (k := 1) (by omega) (.slice a nr c)) (q := w.heap.size + 1) (k := 2) (by omega) (.slice ta nt tcc)
      have hfar : ∀ b, b ≠ w.heap.size + 1 → (((wr.setCell ⟨w.heap.size + 1, 0, none⟩ (.int .i64 now)).setCell ⟨w.heap.size + 1, 1, none⟩ (.slice a nr c)).setCell ⟨w.heap.size + 1, 2, none⟩ (.slice ta nt tcc)).heap[b]? = wr.heap[b]? := fun b hb => by rw [Below.heap_setCell _ _ _ _ (by dsimp only; omega), Below.heap_setCell _ _ _ _ (by dsimp only; omega), Below.heap_setCell _ _ _ _ (by dsimp only; omega)]
      have x1 := HXR.out.frame (w' := ((wr.setCell ⟨w.heap.size + 1, 0, none⟩ (.int .i64 now)).setCell ⟨w.heap.size + 1, 1, none⟩ (.slice a nr c)).setCell ⟨w.heap.size + 1, 2, none⟩ (.slice ta nt tcc)) (fun b h1 h2 => hfar b (by omega)) (by simp)
      have x2 := (HX.out.frame (w' := ((wr.setCell ⟨w.heap.size + 1, 0, none⟩ (.int .i64 now)).setCell ⟨w.heap.size + 1, 1, none⟩ (.slice a nr c)).setCell ⟨w.heap.size + 1, 2, none⟩ (.slice ta nt tcc)) (fun b h1 h2 => hfar b (by omega)) (by simp)).lc
      generalize ((wr.setCell ⟨w.heap.size + 1, 0, none⟩ (.int .i64 now)).setCell ⟨w.heap.size + 1, 1, none⟩ (.slice a nr c)).setCell ⟨w.heap.size + 1, 2, none⟩ (.slice ta nt tcc) = wf at *
      obtain ⟨⟨z0, z1, z2⟩, _⟩ := cellk3 gF
      exact bodyPost_ret (v := .agg #[.int .i64 now, .slice a nr c, .slice ta nt tcc]) (by simp [results, Tryz.results52, go_sem, z0, z1, z2]) rfl ⟨a, c, ta, tcc, Wz, Q, Q + 1, wr.heap.size, rfl, ⟨x1, x2⟩, by omega, by omega, bF⟩
end Go.Proofs.YtehifednpbdokaaGreatDoor
namespace Go.Proofs.YtehifednpbdokaaGreatDoor
open Go.RowKit
set_option linter.unusedSimpArgs false
set_option linter.unusedVariables false
def sts (ts : List Tx) : List Int := (ts.filter (fun t => t.2.1)).map (fun t => t.1)
theorem sts_next {ts : List Tx} {i : Nat} (h : i < ts.length) : sts (ts.take (i + 1)) = if ts[i].2.1 = true then sts (ts.take i) ++ [ts[i].1] else sts (ts.take i) := by
  unfold sts
  rw [List.take_add_one, List.getElem?_eq_getElem h]
  simp only [Option.toList, List.filter_append, List.map_append]
  cases hb : ts[i].2.1
  · simp [hb]
  · simp [hb]
theorem sts_len (ts : List Tx) : (sts ts).length ≤ ts.length := by
  unfold sts
  rw [List.length_map]
  exact List.length_filter_le _ _
def oldI (now : Int) (ts : List Tx) : Int := match sts ts with
  | [] => now
  | x :: r => r.foldl min x
def oldS (now : Int) (ts : List Tx) : Int := ts.foldl (fun m t => if t.2.1 = true ∧ t.1 < m then t.1 else m) now
theorem oldS_sts (ts : List Tx) : ∀ now, oldS now ts = (sts ts).foldl min now := by
  induction ts with
  | nil => intro now; rfl
  | cons t r ih =>
    intro now
    show oldS (if t.2.1 = true ∧ t.1 < now then t.1 else now) r = _
    rw [ih]
    cases hb : t.2.1
    · have : sts (t :: r) = sts r := by unfold sts; simp [hb]
      rw [this]; simp
    · have : sts (t :: r) = t.1 :: sts r := by unfold sts; simp [hb]
      rw [this, List.foldl_cons]
      congr 1
      by_cases h : t.1 < now
      · rw [if_pos ⟨rfl, h⟩]; omega
      · rw [if_neg (fun q => h q.2)]; omega
theorem old_same {now : Int} {ts : List Tx} (h : ∀ t ∈ ts, t.1 ≤ now) : oldI now ts = oldS now ts := by
  rw [oldS_sts]
  unfold oldI
  cases hs : sts ts with
  | nil => rfl
  | cons x r =>
    have hx : x ≤ now := by
      have : x ∈ sts ts := by rw [hs]; exact List.mem_cons_self
      unfold sts at this
      rw [List.mem_map] at this
      obtain ⟨t, ht, rfl⟩ := this
      exact h t (List.mem_filter.1 ht).1
    show r.foldl min x = (x :: r).foldl min now
    rw [List.foldl_cons, show min now x = x by omega]
theorem Tryz.infoIX : (Tryz.prog.info? 3).map (fun i => (i.zero, i.size, i.bytes)) = some (some (.int .i64 0), 1, 8) := by kernel_rfl
theorem make_intX (n : Nat) (hn : n ≤ 1099511627776) (w : World) : (Instr.makeSlice 46 (.int .i64 0) (.int .i64 n)).run Tryz.prog w = .ok (.slice (some ⟨w.heap.size, 0, none⟩) 0 n) (w.alloc (.cells (madeCells #[.int .i64 0] n) 3)) := by
  obtain ⟨i0, hi, hz0, hz1, hz2⟩ := info_parts Tryz.infoIX
  have := run_make (P := Tryz.prog) w 46 3 i0 _ Tryz.underlying46 hi hz0 .i64 .i64 0 n (by omega) (by omega) (by rw [hz2]; omega) (by omega)
  rw [hz1, Nat.mul_one] at this
  exact this
end Go.Proofs.YtehifednpbdokaaGreatDoor
namespace Go.Proofs.YtehifednpbdokaaGreatDoor
open Go.RowKit
set_option linter.unusedSimpArgs false
set_option linter.unusedVariables false
set_option maxRecDepth 100000 in
set_option maxHeartbeats 2000000 in
theorem kept_copied2 (B cp0 : Nat) (rs : List Rw) (w : World) (hm : rs.length ≤ 1099511627776) (h : RwsS w B rs) : Calls Tryz.prog 164 #[.slice (some ⟨B, 0, none⟩) rs.length cp0, .func (.func 165) #[] #[]] w fun e w' => ∃ v xs, e = .returned v ∧ RowsX w.heap.size w'.heap.size w' v (rs.filter allb) xs ∧ Below w.heap.size w w' := by
  obtain ⟨i0, hi0, hz0, hz1, hz2⟩ := info_parts Tryz.infoRow
  have HR := hid h
  clear h
  have hmk := make_rows0 rs.length hm
  obtain ⟨n, hn⟩ : ∃ n, n = rs.length := ⟨_, rfl⟩
  have HN := hid hn.symm
  rw [← hn] at hm hmk ⊢
  clear hn
  have hB0 : Below w.heap.size w (w.alloc (.cells (madeCells #[.int .i64 0, .int .i64 0, .int .i64 0, .int .i64 0, .slice none 0 0] (n * 5)) 129)) := balloc (Below.refl _ _) _
  have HI : Hid (RowsX w.heap.size (w.alloc (.cells (madeCells #[.int .i64 0, .int .i64 0, .int .i64 0, .int .i64 0, .slice none 0 0] (n * 5)) 129)).heap.size (w.alloc (.cells (madeCells #[.int .i64 0, .int .i64 0, .int .i64 0, .int .i64 0, .slice none 0 0] (n * 5)) 129)) (.slice (some ⟨w.heap.size, 0, none⟩) 0 n) [] []) := hid (by
    have := World.ownsRow_made (base := w.heap.size) (e := 129) (size := 5) w (madeCells #[.int .i64 0, .int .i64 0, .int .i64 0, .int .i64 0, .slice none 0 0] (n * 5)) n (Nat.le_refl _) (by unfold maxLen; omega) (size_madeCells _ _)
    exact RowsX.nil this (fun g e => by simp [Value.ownBlock] at e; subst e; simp) (Nat.le_refl _))
  go_enter Tryz.func164, Tryz.ntmps164
  go_upto_region 2 with fail
  generalize w.alloc (.cells (madeCells #[.int .i64 0, .int .i64 0, .int .i64 0, .int .i64 0, .slice none 0 0] (n * 5)) 129) = W0 at *
  clear hmk
  go_wp2_with fail
  go_loopw [5, 15] (fun tv ti wr => ∃ i : Nat, ∃ xs : List El, ti = .int .i64 i ∧ i ≤ n ∧ Hid (RowsX w.heap.size wr.heap.size wr tv ((rs.take i).filter allb) xs) ∧ Hid (Below w.heap.size w wr)) (fun _ ti _ => n - (intOf ti).toNat)
  case atStart => exact ⟨0, [], rfl, Nat.zero_le _, HI, hid hB0⟩
  case round =>
    clear HI hB0
    obtain ⟨i, xs, rfl, hi, HV, HBW⟩ := hrel
    obtain ⟨a5, c5, rfl⟩ := kept_form HV.out
    have hwX := HBW.out.size
    by_cases hlt : i < n
    · have d1 : (i : Int) < (n : Int) := by omega
      have hir : i < rs.length := by rw [HN.out]; exact hlt
      obtain ⟨ci, cpi, k9, k0, k1, k2, k3, k4, k6, k7⟩ := (HR.out.below HBW.out).2 i hir
      have hbx : Below wr.heap.size wr (wr.alloc (.cells #[.int .i64 rs[i].1, .int .i64 rs[i].2.1, .int .i64 rs[i].2.2.1, .int .i64 rs[i].2.2.2.1, .slice (some ⟨ci, 0, none⟩) rs[i].2.2.2.2.length cpi] 129)) := balloc (Below.refl _ _) _
      have HT := hid (fun (W : World) (hb : Below wr.heap.size wr W) => copied_1 rs[i] ci 0 cpi W k6 (Nat.lt_of_lt_of_le k9 hb.size) (k7.below hb))
      have HX := hid (flt_next (p := allb) hir)
      have hil : ((rs.take i).filter allb).length ≤ i := by have := List.length_filter_le allb (rs.take i); simp at this; omega
      have HK6 := hid k6
      have HSN : Hid (∀ (r : Rw), rs[i] = r → (r.1, r.2.1, r.2.2.1, r.2.2.2.1, r.2.2.2.2) = rs[i]) := hid (fun r e => by rw [e])
      clear k6 k7 k9
      unfold RT rwv at HT
      obtain ⟨r, hr⟩ : ∃ r, r = rs[i] := ⟨_, rfl⟩
      rw [← hr] at k0 k1 k2 k3 k4 HT HX HK6 hbx
      generalize hpr : allb r = q2 at HX HT
      clear hpr hr HSN
      generalize (rs.take i).filter allb = zs at *
      obtain ⟨id, fr, te, kd, ps⟩ := r
      simp only at k0 k1 k2 k3 k4 HT hbx HK6
      have hps : ps.length ≤ 1099511627776 := HK6.out
      go_upto_region 5 with fail
      have gx := new_alloc wr wr.heap.size (.cells #[.int .i64 id, .int .i64 fr, .int .i64 te, .int .i64 kd, .slice (some ⟨ci, 0, none⟩) ps.length cpi] 129) rfl
      have HI1 := hid (HV.out.below hbx)
      have HB1 := hid (btrans HBW.out hbx)
      have HT1 := hid (HT.out _ hbx)
      have hs1 := hbx.size
      clear k0 k1 k2 k3 k4 HT hbx HV
      generalize wr.alloc (.cells #[.int .i64 id, .int .i64 fr, .int .i64 te, .int .i64 kd, .slice (some ⟨ci, 0, none⟩) ps.length cpi] 129) = W1 at *
      generalize wr.heap.size = X at *
      obtain ⟨⟨x0, x1, x2, x3, x4⟩, _⟩ := cell5g gx
      clear gx
      go_wp2_with fail
      refine HT1.out.mono ?_
      rintro e z ⟨g, cp, rfl, hcp, hgs, ho, hz⟩
      have HBz := hid (btrans HB1.out hz)
      have HIz := hid (HI1.out.below hz)
      have HO := hid ho
      have hzs := hz.size
      have hwz := HBz.out.size
      clear hz x0 x1 x2 x3 x4 HT1 HI1 HB1 ho
      cases q2
      · go_wp2_with fail
        have hal : Below z.heap.size z (z.alloc (.cells #[.int .i64 id, .int .i64 fr, .int .i64 te, .int .i64 kd, .slice (some ⟨g, 0, none⟩) ps.length cp] 129)) := balloc (Below.refl _ _) _
        have HV2 : Hid (RowsX w.heap.size (z.alloc (.cells #[.int .i64 id, .int .i64 fr, .int .i64 te, .int .i64 kd, .slice (some ⟨g, 0, none⟩) ps.length cp] 129)).heap.size (z.alloc (.cells #[.int .i64 id, .int .i64 fr, .int .i64 te, .int .i64 kd, .slice (some ⟨g, 0, none⟩) ps.length cp] 129)) (.slice a5 zs.length c5) ((rs.take (i + 1)).filter allb) xs) := hid (by
          rw [HX.out]
          simpa using (HIz.out.below hal).mono (Nat.le_refl _) (Nat.le_trans (by omega) hal.size) (Nat.le_refl _))
        have HBa := hid (btrans HBz.out hal)
        clear hal
        go_roundw
        case rel => exact ⟨i + 1, xs, by go_num, by omega, HV2, HBa⟩
        case measure => simp [intOf]; omega
      · have HX2 : Hid ((rs.take (i + 1)).filter allb = zs ++ [(id, fr, te, kd, ps)]) := hid (by rw [HX.out]; simp)
        clear HX
        go_upto_region 7 with fail
        have hal : Below z.heap.size z (z.alloc (.cells #[.int .i64 id, .int .i64 fr, .int .i64 te, .int .i64 kd, .slice (some ⟨g, 0, none⟩) ps.length cp] 129)) := balloc (Below.refl _ _) _
        have gy := new_alloc z z.heap.size (.cells #[.int .i64 id, .int .i64 fr, .int .i64 te, .int .i64 kd, .slice (some ⟨g, 0, none⟩) ps.length cp] 129) rfl
        have HIa := hid (HIz.out.below hal)
        have HBa := hid (btrans HBz.out hal)
        have HOa := hid (HO.out.below hal)
        have has : z.heap.size < (z.alloc (.cells #[.int .i64 id, .int .i64 fr, .int .i64 te, .int .i64 kd, .slice (some ⟨g, 0, none⟩) ps.length cp] 129)).heap.size := by simp
        clear hal HO HIz HBz
        generalize z.alloc (.cells #[.int .i64 id, .int .i64 fr, .int .i64 te, .int .i64 kd, .slice (some ⟨g, 0, none⟩) ps.length cp] 129) = Z at *
        obtain ⟨⟨x0, x1, x2, x3, x4⟩, _⟩ := cell5g gy
        clear gy
        have hownZ := HIa.out.2.1
        have hgZ := HOa.out.1
        go_wp2_with (at_builtin; (refine wpList_append_lies _ rfl (.tmp 26) (.tmp 28) 34 rfl w.heap.size 129 i0 _ 5 56 Tryz.underlying34 hi0 hz0 hz1 hz2 rfl (by decide) (.slice a5 zs.length c5) zs.length (flat5 xs) rfl (hownZ.alloc _) ⟨Z.heap.size, 0, none⟩ 1 1 (ev (elR (id, fr, te, kd, ps) g cp)) rfl rfl (World.news_of_block (cs := #[.int .i64 id, .int .i64 fr, .int .i64 te, .int .i64 kd, .slice (some ⟨g, 0, none⟩) ps.length cp]) (t := 129) (fr := (0, 0)) (heap_alloc_new Z _)) (by simp [ev, elR, Value.oneCell']) (by omega) (by unfold maxLen; omega) (by omega) (by simp; omega) (Z.heap.size + 1) (by simp) ?_; intro gg cq w2 hown2 hgrow hat hlt2))
        have hal2 : Below Z.heap.size Z (Z.alloc (.cells #[.int .i64 id, .int .i64 fr, .int .i64 te, .int .i64 kd, .slice (some ⟨g, 0, none⟩) ps.length cp] 129)) := balloc (Below.refl _ _) _
        have hsn := RowsX.snoc (r := (id, fr, te, kd, ps)) (c := g) (cp := cp) (HIa.out.below hal2) (by omega) (by omega) (by simp; omega) hcp hps (HOa.out.below hal2) hown2 hgrow (by simpa using hat) hlt2
        have hb2 : Below w.heap.size w w2 := Below.grown (balloc HBa.out _) hgrow (by simp; omega) (fun k e => (hownZ.lt k e).1)
        have HSN2 : Hid (RowsX w.heap.size w2.heap.size w2 (.slice (some ⟨gg, 0, none⟩) (zs.length + 1) cq) ((rs.take (i + 1)).filter allb) (xs ++ [elR (id, fr, te, kd, ps) g cp])) := hid (by rw [HX2.out]; exact hsn)
        have HB2 := hid hb2
        clear hsn hb2 hown2 hgrow hal2 hownZ
        go_roundw
        case rel => exact ⟨i + 1, _, by go_num, by omega, HSN2, HB2⟩
        case measure => simp [intOf]; omega
    · have d1 : (n : Int) ≤ (i : Int) := by omega
      have hin : i = rs.length := by have := HN.out; omega
      have HF : Hid (RowsX w.heap.size wr.heap.size wr (.slice a5 ((rs.take i).filter allb).length c5) (rs.filter allb) xs) := hid (by have := HV.out; rw [hin, List.take_length] at this ⊢; exact this)
      clear hin HV
      go_wp2_with fail
      go_ret
      exact ⟨_, xs, rfl, HF.out, HBW.out⟩
set_option maxRecDepth 100000 in
set_option maxHeartbeats 1000000 in
theorem rows_copied2 (now : Int) (B cp0 : Nat) (rs : List Rw) (w : World) (hm : rs.length ≤ 1099511627776) (h : RwsS w B rs) : Calls Tryz.prog 132 #[.agg #[.int .i64 now, .slice (some ⟨B, 0, none⟩) rs.length cp0]] w fun e w' => VR w now rs e w' := by
  have HK := hid (fun (W : World) (hb : Below w.heap.size w W) => kept_copied2 B cp0 rs W hm (h.below hb))
  have hfl : rs.filter allb = rs := List.filter_eq_self.2 (fun _ _ => rfl)
  rw [hfl] at HK
  clear h hfl
  obtain ⟨n, hn⟩ : ∃ n, n = rs.length := ⟨_, rfl⟩
  have HN := hid hn.symm
  unfold VR
  rw [← hn] at hm HK ⊢
  clear hn
  have hB : Below w.heap.size w ((w.alloc (.cells #[.int .i64 now, .slice (some ⟨B, 0, none⟩) n cp0] 36)).alloc (.cells #[.int .i64 0, .slice none 0 0] 36)) := balloc (balloc (Below.refl _ _) _) _
  have g0 := old_alloc (o' := .cells #[.int .i64 0, .slice none 0 0] 36) (new_alloc w w.heap.size (.cells #[.int .i64 now, .slice (some ⟨B, 0, none⟩) n cp0] 36) rfl)
  have g1 := new_alloc (w.alloc (.cells #[.int .i64 now, .slice (some ⟨B, 0, none⟩) n cp0] 36)) (w.heap.size + 1) (.cells #[.int .i64 0, .slice none 0 0] 36) (by simp)
  go_enter Tryz.func132, Tryz.ntmps132
  go_upto_region 1 with fail
  generalize (w.alloc (.cells #[.int .i64 now, .slice (some ⟨B, 0, none⟩) n cp0] 36)).alloc (.cells #[.int .i64 0, .slice none 0 0] 36) = W at *
  obtain ⟨d0, d1, _, _⟩ := cell2f g0
  have hWs := lt_of_block g1
  go_wp2_with fail
  refine (HK.out _ hB).mono ?_
  rintro e y ⟨v, xs, rfl, hX, hy⟩
  obtain ⟨a, c, rfl⟩ := kept_form hX
  rw [HN.out] at hX
  rw [HN.out]
  replace g0 := keepheap2 hy g0
  replace g1 := keepheap2 hy g1
  have HB := hid (btrans hB hy)
  have HX := hid hX
  clear hB hy hX HK d0 d1
  obtain ⟨d0, d1, f0, f1⟩ := cell2f g0
  obtain ⟨v0, v1, u0, u1⟩ := cell2f g1
  go_wp2_with fail
  have gF := set2r (set_far (q := w.heap.size) (k := 1) (u := .slice a n c) g1 (by omega)) (.int .i64 now) (.slice a n c)
  have bF := bset (bset (bset HB.out (q := w.heap.size) (k := 1) (Nat.le_refl _) (.slice a n c)) (q := w.heap.size + 1) (k := 0) (by omega) (.int .i64 now)) (q := w.heap.size + 1) (k := 1) (by omega) (.slice a n c)
  have xF := (HX.out.frame (w' := ((y.setCell ⟨w.heap.size, 1, none⟩ (.slice a n c)).setCell ⟨w.heap.size + 1, 0, none⟩ (.int .i64 now)).setCell ⟨w.heap.size + 1, 1, none⟩ (.slice a n c)) (fun b h1 h2 => by rw [Below.heap_setCell _ _ _ _ (by dsimp only; omega), Below.heap_setCell _ _ _ _ (by dsimp only; omega), Below.heap_setCell _ _ _ _ (by dsimp only; omega)]) (by simp)).mono (base' := w.heap.size) (hi' := (((y.setCell ⟨w.heap.size, 1, none⟩ (.slice a n c)).setCell ⟨w.heap.size + 1, 0, none⟩ (.int .i64 now)).setCell ⟨w.heap.size + 1, 1, none⟩ (.slice a n c)).heap.size) (by omega) (by simp) (Nat.le_refl _)
  generalize ((y.setCell ⟨w.heap.size, 1, none⟩ (.slice a n c)).setCell ⟨w.heap.size + 1, 0, none⟩ (.int .i64 now)).setCell ⟨w.heap.size + 1, 1, none⟩ (.slice a n c) = wf at *
  obtain ⟨z0, z1, _, _⟩ := cell2f gF
  exact bodyPost_ret (v := .agg #[.int .i64 now, .slice a n c]) (by simp [results, Tryz.results132, go_sem, z0, z1]) rfl ⟨a, c, xs, rfl, xF, bF⟩
end Go.Proofs.YtehifednpbdokaaGreatDoor
namespace Go.Proofs.YtehifednpbdokaaGreatDoor
open Go.RowKit
set_option linter.unusedSimpArgs false
set_option linter.unusedVariables false
/-- Rows in a new list, their points where they lay in W0. -/
def RowsY (base lo : Nat) (W0 w : World) (v : Value) (rs : List Rw) (xs : List El) : Prop :=
  xs.length = rs.length ∧ w.ownsRow base 129 5 v rs.length (flat5 xs) ∧ ∀ j (h : j < rs.length), ∃ c cp, xs[j]? = some (elR rs[j] c cp) ∧ rs[j].2.2.2.2.length ≤ cp ∧ rs[j].2.2.2.2.length ≤ 1099511627776 ∧ lo ≤ c ∧ Pts W0 (some ⟨c, 0, none⟩) rs[j].2.2.2.2
theorem RowsY.frame {base lo : Nat} {W0 w w' : World} {v : Value} {rs : List Rw} {xs : List El} (h : RowsY base lo W0 w v rs xs) (hb : ∀ g, v.ownBlock = some g → w'.heap[g]? = w.heap[g]?) : RowsY base lo W0 w' v rs xs := ⟨h.1, own_frame h.2.1 hb, h.2.2⟩
theorem rowsY_snoc {base lo : Nat} {W0 w w' : World} {v v' : Value} {rs : List Rw} {xs : List El} {r : Rw} {c cp : Nat} (h : RowsY base lo W0 w v rs xs) (h1 : r.2.2.2.2.length ≤ cp) (h2 : r.2.2.2.2.length ≤ 1099511627776) (h4 : lo ≤ c) (h3 : Pts W0 (some ⟨c, 0, none⟩) r.2.2.2.2) (ho : w'.ownsRow base 129 5 v' (rs.length + 1) (flat5 xs ++ ev (elR r c cp))) : RowsY base lo W0 w' v' (rs ++ [r]) (xs ++ [elR r c cp]) := by
  obtain ⟨a1, a2, a3⟩ := h
  have hlr : (rs ++ [r]).length = rs.length + 1 := by simp
  refine ⟨by simp [a1], by rw [flat5_snoc, hlr]; exact ho, fun j hj => ?_⟩
  by_cases e : j = rs.length
  · subst e
    have er : (rs ++ [r])[rs.length]'(by simp) = r := by simp
    rw [er]
    exact ⟨c, cp, by rw [← a1]; simp, h1, h2, h4, h3⟩
  · have hjl : j < rs.length := by simp at hj; omega
    have er : (rs ++ [r])[j]'(by simpa using hj) = rs[j] := by rw [List.getElem_append_left hjl]
    rw [er]
    obtain ⟨c', cp', b1, b2, b3, b5, b4⟩ := a3 j hjl
    exact ⟨c', cp', by rw [List.getElem?_append_left (by omega)]; exact b1, b2, b3, b5, b4⟩
theorem RowsY.form {base lo : Nat} {W0 w : World} {v : Value} {rs : List Rw} {xs : List El} (h : RowsY base lo W0 w v rs xs) : ∃ a cap, v = .slice a rs.length cap := by
  rcases h.2.1.2 with ⟨q, hn⟩ | ⟨g, cap, cur, e, _⟩
  · exact ⟨none, 0, by rw [q, hn]⟩
  · exact ⟨_, cap, e⟩
theorem pts_blk {W w : World} {c : Nat} {ps : List (Int × Int)} (h : Pts W (some ⟨c, 0, none⟩) ps) (e : c < W.heap.size → w.heap[c]? = W.heap[c]?) (hs : W.heap.size ≤ w.heap.size) : Pts w (some ⟨c, 0, none⟩) ps := by
  rcases h with h | ⟨b, off, ea, hb, hp⟩
  · exact .inl h
  · cases ea
    refine .inr ⟨c, 0, rfl, by omega, fun k hk => ?_⟩
    simp only [World.cell?, e hb]
    exact hp k hk
theorem RowsY.rws {base lo : Nat} {W0 w : World} {a : Option Addr} {n cap : Nat} {rs : List Rw} {xs : List El} (h : RowsY base lo W0 w (.slice a n cap) rs xs) (H : ∀ b, lo ≤ b → b < W0.heap.size → w.heap[b]? = W0.heap[b]?) (hs : W0.heap.size ≤ w.heap.size) : Rws (fun _ => True) w a rs := by
  obtain ⟨h1, h2, h3⟩ := h
  have h2' := h2
  rcases h2.2 with ⟨q, hn⟩ | ⟨g, cp, cur, e, hb, hg, hc, _⟩
  · exact .inl (List.length_eq_zero_iff.1 hn)
  · cases e
    refine .inr ⟨g, 0, rfl, (Array.getElem?_eq_some_iff.1 hg).1, fun j hj => ?_⟩
    obtain ⟨c, cpj, a1, a2, a3, a5, a4⟩ := h3 j hj
    have hjx : j < xs.length := by omega
    have ex : xs[j] = elR rs[j] c cpj := by
      rw [List.getElem?_eq_getElem hjx] at a1
      exact Option.some.inj a1
    obtain ⟨f0, f1, f2, f3, f4⟩ := flat5_at xs j hjx
    rw [ex] at f0 f1 f2 f3 f4
    rw [Nat.zero_add]
    refine ⟨some ⟨c, 0, none⟩, cpj, ?_, ?_, ?_, ?_, ?_, a2, a3, pts_blk a4 (fun hc => H c a5 hc) hs, fun _ _ _ => trivial⟩
    · rw [World.ownsRow.cellAt h2' _ (by omega)]; exact f0
    · rw [World.ownsRow.cellAt h2' _ (by omega)]; exact f1
    · rw [World.ownsRow.cellAt h2' _ (by omega)]; exact f2
    · rw [World.ownsRow.cellAt h2' _ (by omega)]; exact f3
    · rw [World.ownsRow.cellAt h2' _ (by omega)]; exact f4
theorem vkeep_def (t : Int) (r : Rw) : vkeep t r = (decide (r.2.2.1 = 0) || decide (t < r.2.2.1)) := by
  unfold vkeep
  by_cases h1 : r.2.2.1 = 0
  · simp [h1]
  · by_cases h2 : t < r.2.2.1
    · have : ¬ r.2.2.1 ≤ t := by omega
      simp [h1, h2, this]
    · have : r.2.2.1 ≤ t := by omega
      simp [h1, h2, this]
/-- Rows that the specification answers. -/
def VS (w : World) (now : Int) (rs : List Rw) (e : Ending) (w' : World) : Prop :=
  ∃ a cap, e = .returned (.agg #[.int .i64 now, .slice a rs.length cap]) ∧ Rws (fun _ => True) w' a rs ∧ Below w.heap.size w w'
end Go.Proofs.YtehifednpbdokaaGreatDoor
namespace Go.Proofs.YtehifednpbdokaaGreatDoor
open Go.RowKit
set_option linter.unusedSimpArgs false
set_option linter.unusedVariables false
/-- A store that a call answers, in memory of its own. -/
def SR (w : World) (now : Int) (rs : List Rw) (ts : List Tx) (e : Ending) (w' : World) : Prop :=
  ∃ a c ta tcc b1 u1 b2 u2, e = .returned (.agg #[.int .i64 now, .slice a rs.length c, .slice ta ts.length tcc]) ∧ StX b1 u1 b2 u2 w' a ta c tcc rs ts ∧ w.heap.size ≤ b1 ∧ w.heap.size ≤ b2 ∧ (u1 ≤ b2 ∨ u2 ≤ b1) ∧ Below w.heap.size w w'
theorem sr_mk {w w' : World} {now : Int} {rs : List Rw} {ts : List Tx} {a ta : Option Addr} {c tcc nr nt b1 u1 b2 u2 : Nat} (h1 : rs.length = nr) (h2 : ts.length = nt) (x1 : LC KR b1 u1 w' (.slice a nr c) rs) (x2 : LC KT b2 u2 w' (.slice ta nt tcc) ts) (e1 : w.heap.size ≤ b1) (e2 : w.heap.size ≤ b2) (e3 : u1 ≤ b2 ∨ u2 ≤ b1) (hb : Below w.heap.size w w') : SR w now rs ts (.returned (.agg #[.int .i64 now, .slice a nr c, .slice ta nt tcc])) w' := by
  subst h1 h2
  exact ⟨a, c, ta, tcc, b1, u1, b2, u2, rfl, ⟨x1, x2⟩, e1, e2, e3, hb⟩
/-- A store that the specification answers. -/
def SS (w : World) (now : Int) (rs : List Rw) (ts : List Tx) (e : Ending) (w' : World) : Prop :=
  ∃ a c ta tcc, e = .returned (.agg #[.int .i64 now, .slice a rs.length c, .slice ta ts.length tcc]) ∧ Rws (fun _ => True) w' a rs ∧ Txs (fun _ => True) 1099511627776 w' ta ts ∧ Below w.heap.size w w'
theorem Txs.any {N : Nat → Prop} {M : Nat} {w : World} {a : Option Addr} {ts : List Tx} (h : Txs N M w a ts) : Txs (fun _ => True) M w a ts := by
  rcases h with h | ⟨b, o, e, hb, h⟩
  · exact .inl h
  · refine .inr ⟨b, o, e, hb, fun j hj => ?_⟩
    obtain ⟨a', cap', q0, q1, q2, q3, q4, q5, q6⟩ := h j hj
    refine ⟨a', cap', q0, q1, q2, q3, q4, ?_, fun _ _ _ => trivial⟩
    rcases q5 with q5 | ⟨b2, o2, e2, hb2, q5⟩
    · exact .inl q5
    · refine .inr ⟨b2, o2, e2, hb2, fun i hi => ?_⟩
      obtain ⟨a4, cap4, p0, p1, p2, p3, p4, p5, p6, p7⟩ := q5 i hi
      exact ⟨a4, cap4, p0, p1, p2, p3, p4, p5, p6, fun _ _ _ => trivial⟩
/-- Rows do not lie in a block that holds a store. -/
theorem Rws.off {N : Nat → Prop} {w w' : World} {a : Option Addr} {rs : List Rw} {Q : Nat} {x y z : Value} {t : TypeId} (h : Rws N w a rs) (hq : w.heap[Q]? = some (.cells #[x, y, z] t (0, 0))) (hy : ∀ i, y ≠ .int .i64 i) (hf : ∀ b, b ≠ Q → w'.heap[b]? = w.heap[b]?) (hs : w.heap.size ≤ w'.heap.size) : Rws N w' a rs := by
  have c1 : w.cell? ⟨Q, 1, none⟩ = some y := by simp [World.cell?, hq]
  have c3 : ∀ k, w.cell? ⟨Q, k + 3, none⟩ = none := fun k => by simp [World.cell?, hq]
  rcases h with h | ⟨b, o, e, hb, h⟩
  · exact .inl h
  · cases rs with
    | nil => exact .inl rfl
    | cons r0 rr =>
    have hbQ : b ≠ Q := by
      intro e
      subst e
      obtain ⟨_, _, _, _, _, _, h4, _⟩ := h 0 (by simp)
      have := c3 (o + 0 * 5 + 1)
      rw [show o + 0 * 5 + 1 + 3 = o + 0 * 5 + 4 by omega] at this
      rw [this] at h4
      cases h4
    refine .inr ⟨b, o, e, by omega, fun j hj => ?_⟩
    obtain ⟨a', cap', k0, k1, k2, k3, k4, k5, k6, k7, k8⟩ := h j hj
    have hc : ∀ k, w'.cell? ⟨b, k, none⟩ = w.cell? ⟨b, k, none⟩ := fun k => World.cell?_of_block (w := w) (hf b hbQ)
    refine ⟨a', cap', by rw [hc]; exact k0, by rw [hc]; exact k1, by rw [hc]; exact k2, by rw [hc]; exact k3, by rw [hc]; exact k4, k5, k6, ?_, k8⟩
    rcases k7 with k7 | ⟨c, off, e2, hc2, k7⟩
    · exact .inl k7
    · cases hps : ((r0 :: rr)[j]).2.2.2.2 with
      | nil => exact .inl rfl
      | cons p0 pr =>
      rw [hps] at k7
      have hcQ : c ≠ Q := by
        intro e3
        subst e3
        obtain ⟨m0, m1⟩ := k7 0 (by simp)
        have hlt : off + 0 * 2 + 1 < 3 := by
          rcases Nat.lt_or_ge (off + 0 * 2 + 1) 3 with q | q
          · exact q
          · have := c3 (off + 0 * 2 + 1 - 3)
            rw [show off + 0 * 2 + 1 - 3 + 3 = off + 0 * 2 + 1 by omega] at this
            rw [this] at m1
            cases m1
        rcases (show off = 0 ∨ off = 1 by omega) with q | q
        · subst q
          have m1' : w.cell? ⟨c, 1, none⟩ = _ := m1
          rw [c1] at m1'
          exact hy _ (Option.some.inj m1')
        · subst q
          have m0' : w.cell? ⟨c, 1, none⟩ = _ := m0
          rw [c1] at m0'
          exact hy _ (Option.some.inj m0')
      refine .inr ⟨c, off, e2, by omega, fun k hk => ?_⟩
      obtain ⟨m0, m1⟩ := k7 k hk
      have hcc : ∀ k, w'.cell? ⟨c, k, none⟩ = w.cell? ⟨c, k, none⟩ := fun k => World.cell?_of_block (w := w) (hf c hcQ)
      exact ⟨by rw [hcc]; exact m0, by rw [hcc]; exact m1⟩
def txL (ts : List Tx) : Prop := ∀ j (h : j < ts.length), ts[j].2.2.length ≤ 1099511627776
theorem ss_mk {w w' : World} {now : Int} {rs : List Rw} {ts : List Tx} {a ta : Option Addr} {c tcc nr nt : Nat} (h1 : rs.length = nr) (h2 : ts.length = nt) (x1 : Rws (fun _ => True) w' a rs) (x2 : Txs (fun _ => True) 1099511627776 w' ta ts) (hb : Below w.heap.size w w') : SS w now rs ts (.returned (.agg #[.int .i64 now, .slice a nr c, .slice ta nt tcc])) w' := by
  subst h1 h2
  exact ⟨a, c, ta, tcc, rfl, x1, x2, hb⟩
def clI (now : Int) (rs : List Rw) (ts : List Tx) : List Rw := if storeb now rs ts = true then vacb now rs (oldI now ts) else rs
def clS (now : Int) (rs : List Rw) (ts : List Tx) : List Rw := if storeb now rs ts = true then vacb now rs (oldS now ts) else rs
theorem cl_same (now : Int) (rs : List Rw) (ts : List Tx) : clI now rs ts = clS now rs ts := by
  unfold clI clS
  by_cases h : storeb now rs ts = true
  · rw [if_pos h, if_pos h]
    rw [old_same]
    intro t ht
    unfold storeb at h
    simp only [Bool.and_eq_true, List.all_eq_true] at h
    have := h.2.2 t ht
    unfold txb at this
    simp only [Bool.and_eq_true, decide_eq_true_eq] at this
    exact this.1.1.2
  · rw [if_neg h, if_neg h]
end Go.Proofs.YtehifednpbdokaaGreatDoor
namespace Go.Proofs.YtehifednpbdokaaGreatDoor
open Go.RowKit
set_option linter.unusedSimpArgs false
set_option linter.unusedVariables false
def rbT (now : Int) (rs : List Rw) (ts : List Tx) (n : Int) : List Tx := if opn now rs ts n = true then ts.set n.toNat ((txn ts n).1, false, []) else ts
def rbN (now : Int) (rs : List Rw) (ts : List Tx) (n : Int) : Int := if opn now rs ts n = true then 0 else 1
/-- A store and a number that a call answers, in memory of its own. -/
def SN (w : World) (now : Int) (rs : List Rw) (ts : List Tx) (n : Int) (e : Ending) (w' : World) : Prop :=
  ∃ a c ta tcc b1 u1 b2 u2, e = .returned (.tuple #[.agg #[.int .i64 now, .slice a rs.length c, .slice ta ts.length tcc], .int .i64 n]) ∧ StX b1 u1 b2 u2 w' a ta c tcc rs ts ∧ w.heap.size ≤ b1 ∧ w.heap.size ≤ b2 ∧ (u1 ≤ b2 ∨ u2 ≤ b1) ∧ Below w.heap.size w w'
theorem sn_mk {w w' : World} {now n n' : Int} {rs : List Rw} {ts ts' : List Tx} {a ta : Option Addr} {c tcc nr nt b1 u1 b2 u2 : Nat} (e1 : ts = ts') (e2 : n = n') (h1 : rs.length = nr) (h2 : ts'.length = nt) (x1 : LC KR b1 u1 w' (.slice a nr c) rs) (x2 : LC KT b2 u2 w' (.slice ta nt tcc) ts') (q1 : w.heap.size ≤ b1) (q2 : w.heap.size ≤ b2) (q3 : u1 ≤ b2 ∨ u2 ≤ b1) (hb : Below w.heap.size w w') : SN w now rs ts n (.returned (.tuple #[.agg #[.int .i64 now, .slice a nr c, .slice ta nt tcc], .int .i64 n'])) w' := by
  subst e1 e2 h1 h2
  exact ⟨a, c, ta, tcc, b1, u1, b2, u2, rfl, ⟨x1, x2⟩, q1, q2, q3, hb⟩
theorem opn_at {now : Int} {rs : List Rw} {ts : List Tx} {n : Int} (h : opn now rs ts n = true) : ∃ m : Nat, n = (m : Int) ∧ ∃ hm : m < ts.length, storeb now rs ts = true ∧ ts[m].2.1 = true := by
  rw [gob_opn] at h
  simp only [Bool.and_eq_true] at h
  obtain ⟨h1, h2⟩ := h
  unfold gob at h2
  simp only [Bool.and_eq_true, decide_eq_true_eq] at h2
  obtain ⟨q1, q2, q3⟩ := h2
  obtain ⟨m, rfl⟩ : ∃ m : Nat, n = (m : Int) := ⟨n.toNat, by omega⟩
  have hm : m < ts.length := by omega
  rw [txn_at hm] at q3
  exact ⟨m, rfl, hm, h1, q3⟩
theorem rb_yes {now : Int} {rs : List Rw} {ts : List Tx} {m : Nat} (hm : m < ts.length) (h : opn now rs ts (m : Int) = true) : rbT now rs ts (m : Int) = ts.set m (ts[m].1, false, []) ∧ rbN now rs ts (m : Int) = 0 := by
  unfold rbT rbN
  rw [h, txn_at hm]
  exact ⟨by simp, rfl⟩
theorem rb_no {now : Int} {rs : List Rw} {ts : List Tx} {n : Int} (h : opn now rs ts n = false) : rbT now rs ts n = ts ∧ rbN now rs ts n = 1 := by
  unfold rbT rbN
  rw [h]
  exact ⟨rfl, rfl⟩
set_option maxRecDepth 100000 in
set_option maxHeartbeats 8000000 in
theorem after_rb (now n : Int) (B D : Nat) (rs : List Rw) (ts : List Tx) (w : World) (na : Addr) (hm : rs.length ≤ 1099511627776) (htm : ts.length ≤ 1099511627776) (hr : RwsS w B rs) (ht : TxsS w D ts) (hg : w.cell? ⟨0, 0, none⟩ = some (.iface 273 (.pointer (some na)))) (he : w.cell? ⟨3, 0, none⟩ = some (.iface 210 (.agg #[.pointer (some ⟨4, 71, none⟩)]))) : Calls Tryz.prog 58 #[.agg #[.int .i64 now, .slice (some ⟨B, 0, none⟩) rs.length rs.length, .slice (some ⟨D, 0, none⟩) ts.length ts.length], .int .i64 n, .func (.func 65) #[] #[]] w fun e w' => SN w now rs (rbT now rs ts n) (rbN now rs ts n) e w' := by
  have HCP := hid (fun (W : World) (hb : Below w.heap.size w W) => store_copied now B D rs.length ts.length rs ts W hm htm (hr.below hb).z (ht.below hb))
  have HTL : Hid (∀ j (h : j < ts.length), ts[j].2.2.length ≤ 1099511627776) := hid (fun j (hj : j < ts.length) => (ht.2 j hj).choose_spec.choose_spec.2.2.1)
  have HRN : Hid (opn now rs ts n = false → ∀ (W : World) (g c tg tcc b1 u1 b2 u2 : Nat), W.cell? ⟨0, 0, none⟩ = some (.iface 273 (.pointer (some na))) → LC KR b1 u1 W (.slice (some ⟨g, 0, none⟩) rs.length c) rs → LC KT b2 u2 W (.slice (some ⟨tg, 0, none⟩) ts.length tcc) ts → Calls Tryz.prog 37 #[.agg #[.int .i64 now, .slice (some ⟨g, 0, none⟩) rs.length c, .slice (some ⟨tg, 0, none⟩) ts.length tcc], .int .i64 n] W fun e w' => e = .returned (.tuple #[zrun, .iface 114 (.agg #[.int .i64 1, .iface 273 (.pointer (some na))])]) ∧ Below W.heap.size W w') := hid (fun h W g c tg tcc b1 u1 b2 u2 hg x1 x2 => run_no now _ _ c tcc rs ts n W hm htm x1.rws (x2.txs HTL.out) _ _ hg h)
  have HRY : Hid (∀ (m : Nat) (hmt : m < ts.length), storeb now rs ts = true → ts[m].2.1 = true → ∀ (W : World) (g c tg tcc b1 u1 b2 u2 : Nat), LC KR b1 u1 W (.slice (some ⟨g, 0, none⟩) rs.length c) rs → LC KT b2 u2 W (.slice (some ⟨tg, 0, none⟩) ts.length tcc) ts → Calls Tryz.prog 37 #[.agg #[.int .i64 now, .slice (some ⟨g, 0, none⟩) rs.length c, .slice (some ⟨tg, 0, none⟩) ts.length tcc], .int .i64 m] W fun e w' => (∃ ca cn cc st, e = .returned (.tuple #[.agg #[.slice ca cn cc, .int .i64 st, .bool true, .int .i64 now, .slice (some ⟨g, 0, none⟩) rs.length c], .nilIface])) ∧ Below W.heap.size W w') := hid (fun m hmt h1 h2 W g c tg tcc b1 u1 b2 u2 x1 x2 => (run_yes now _ _ c tcc rs ts m W hm htm x1.rws (x2.txs HTL.out) hmt h1 h2).mono (fun e w' ⟨ca, ccap, e1, _, _, hb⟩ => ⟨⟨_, _, _, _, e1⟩, hb⟩))
  have HDO : Hid (∀ (m : Nat) (hmt : m < ts.length), ∀ (W : World) (g c tg tcc b2 u2 P : Nat), u2 ≤ P → W.heap[P]? = some (.cells #[.int .i64 now, .slice (some ⟨g, 0, none⟩) rs.length c, .slice (some ⟨tg, 0, none⟩) ts.length tcc] 39 (0, 0)) → LC KT b2 u2 W (.slice (some ⟨tg, 0, none⟩) ts.length tcc) ts → Calls Tryz.prog 101 #[.pointer (some ⟨P, 0, none⟩), .int .i64 m, .func (.func 65) #[] #[]] W fun e w' => e = .returned (.int .i64 0) ∧ w'.heap[P]? = some (.cells #[.int .i64 now, .slice (some ⟨g, 0, none⟩) rs.length c, .slice (some ⟨tg, 0, none⟩) ts.length tcc] 39 (0, 0)) ∧ LC KT b2 u2 w' (.slice (some ⟨tg, 0, none⟩) ts.length tcc) (ts.set m (ts[m].1, false, [])) ∧ W.heap.size ≤ w'.heap.size ∧ (∀ b, b < W.heap.size → b ≠ P → b ≠ tg → w'.heap[b]? = W.heap[b]?) ∧ (w'.os = W.os ∧ w'.tape = W.tape ∧ w'.output = W.output)) := hid (fun m hmt W g c tg tcc b2 u2 P h1 h2 h3 => do_rb now _ rs.length c tg tcc b2 u2 P m ts W htm hmt h1 h2 h3)
  have HNO := hid (@rb_no now rs ts n)
  have HYE : Hid (opn now rs ts n = true → ∃ (m : Nat) (ts2 : List Tx), n = (m : Int) ∧ ts2.length = ts.length ∧ rbT now rs ts n = ts2 ∧ rbN now rs ts n = 0 ∧ (∀ (W : World) (g c tg tcc b1 u1 b2 u2 : Nat), LC KR b1 u1 W (.slice (some ⟨g, 0, none⟩) rs.length c) rs → LC KT b2 u2 W (.slice (some ⟨tg, 0, none⟩) ts.length tcc) ts → Calls Tryz.prog 37 #[.agg #[.int .i64 now, .slice (some ⟨g, 0, none⟩) rs.length c, .slice (some ⟨tg, 0, none⟩) ts.length tcc], .int .i64 m] W fun e w' => (∃ ca cn cc st, e = .returned (.tuple #[.agg #[.slice ca cn cc, .int .i64 st, .bool true, .int .i64 now, .slice (some ⟨g, 0, none⟩) rs.length c], .nilIface])) ∧ Below W.heap.size W w') ∧ (∀ (W : World) (g c tg tcc b2 u2 P : Nat), u2 ≤ P → W.heap[P]? = some (.cells #[.int .i64 now, .slice (some ⟨g, 0, none⟩) rs.length c, .slice (some ⟨tg, 0, none⟩) ts.length tcc] 39 (0, 0)) → LC KT b2 u2 W (.slice (some ⟨tg, 0, none⟩) ts.length tcc) ts → Calls Tryz.prog 101 #[.pointer (some ⟨P, 0, none⟩), .int .i64 m, .func (.func 65) #[] #[]] W fun e w' => e = .returned (.int .i64 0) ∧ w'.heap[P]? = some (.cells #[.int .i64 now, .slice (some ⟨g, 0, none⟩) rs.length c, .slice (some ⟨tg, 0, none⟩) ts.length tcc] 39 (0, 0)) ∧ LC KT b2 u2 w' (.slice (some ⟨tg, 0, none⟩) ts.length tcc) ts2 ∧ W.heap.size ≤ w'.heap.size ∧ (∀ b, b < W.heap.size → b ≠ P → b ≠ tg → w'.heap[b]? = W.heap[b]?) ∧ (w'.os = W.os ∧ w'.tape = W.tape ∧ w'.output = W.output))) := hid (fun h => by
    obtain ⟨m, rfl, hmt, h1, h2⟩ := opn_at h
    obtain ⟨e1, e2⟩ := rb_yes hmt h
    exact ⟨m, _, rfl, List.length_set, e1, e2, HRY.out m hmt h1 h2, HDO.out m hmt⟩)
  clear hr ht HRY HDO
  generalize rbT now rs ts n = bt at *
  generalize rbN now rs ts n = bn at *
  generalize opn now rs ts n = op at *
  obtain ⟨nr, hnr⟩ : ∃ x, x = rs.length := ⟨_, rfl⟩
  obtain ⟨nt, hnt⟩ : ∃ x, x = ts.length := ⟨_, rfl⟩
  have HNR := hid hnr.symm
  have HNT := hid hnt.symm
  unfold StX at HCP
  rw [← hnr, ← hnt] at HCP HRN HYE ⊢
  clear hnr hnt HTL
  have hB : Below w.heap.size w ((w.alloc (.cells #[.int .i64 now, .slice (some ⟨B, 0, none⟩) nr nr, .slice (some ⟨D, 0, none⟩) nt nt] 39)).alloc (.cells #[.int .i64 0, .slice none 0 0, .slice none 0 0] 39)) := balloc (balloc (Below.refl _ _) _) _
  have gP := old_alloc (o' := .cells #[.int .i64 0, .slice none 0 0, .slice none 0 0] 39) (new_alloc w w.heap.size (.cells #[.int .i64 now, .slice (some ⟨B, 0, none⟩) nr nr, .slice (some ⟨D, 0, none⟩) nt nt] 39) rfl)
  have gZ := new_alloc (w.alloc (.cells #[.int .i64 now, .slice (some ⟨B, 0, none⟩) nr nr, .slice (some ⟨D, 0, none⟩) nt nt] 39)) (w.heap.size + 1) (.cells #[.int .i64 0, .slice none 0 0, .slice none 0 0] 39) (by simp)
  have hWs : w.heap.size + 1 < ((w.alloc (.cells #[.int .i64 now, .slice (some ⟨B, 0, none⟩) nr nr, .slice (some ⟨D, 0, none⟩) nt nt] 39)).alloc (.cells #[.int .i64 0, .slice none 0 0, .slice none 0 0] 39)).heap.size := by simp
  have hgl := World.block_lt_of_cell? w ⟨0, 0, none⟩ hg
  have hel := World.block_lt_of_cell? w ⟨3, 0, none⟩ he
  go_enter Tryz.func58, Tryz.ntmps58
  go_upto_region 1 with fail
  generalize (w.alloc (.cells #[.int .i64 now, .slice (some ⟨B, 0, none⟩) nr nr, .slice (some ⟨D, 0, none⟩) nt nt] 39)).alloc (.cells #[.int .i64 0, .slice none 0 0, .slice none 0 0] 39) = W at *
  obtain ⟨⟨d0, d1, d2⟩, _⟩ := cellk3 gP
  go_wp2_with fail
  refine (HCP.out _ hB).mono ?_
  rintro e y ⟨g, c, tg, tcc, mid, rfl, ⟨hx1, hx2⟩, hrz, e1, e2, hy⟩
  replace gP := keepheapA hy gP
  replace gZ := keepheapA hy gZ
  replace hB := btrans hB hy
  have hyz := hy.size
  have HX1 := hid hx1
  have HX2 := hid hx2
  clear hy hx1 hx2 HCP d0 d1 d2 hrz gP
  go_upto_region 2 with fail
  have hal : Below y.heap.size y (y.alloc (.cells #[.int .i64 now, .slice (some ⟨g, 0, none⟩) nr c, .slice (some ⟨tg, 0, none⟩) nt tcc] 39)) := balloc (Below.refl _ _) _
  have gQ := new_alloc y y.heap.size (.cells #[.int .i64 now, .slice (some ⟨g, 0, none⟩) nr c, .slice (some ⟨tg, 0, none⟩) nt tcc] 39) rfl
  replace gZ := keepheapA hal gZ
  replace hB := btrans hB hal
  replace HX1 := hid (HX1.out.below hal)
  replace HX2 := hid (HX2.out.below hal)
  have hyq : (y.alloc (.cells #[.int .i64 now, .slice (some ⟨g, 0, none⟩) nr c, .slice (some ⟨tg, 0, none⟩) nt tcc] 39)).heap.size = y.heap.size + 1 := by simp
  have hyq1 := Nat.le_of_eq hyq
  have hyq2 := Nat.le_of_eq hyq.symm
  clear hal hyq
  generalize y.alloc (.cells #[.int .i64 now, .slice (some ⟨g, 0, none⟩) nr c, .slice (some ⟨tg, 0, none⟩) nt tcc] 39) = Y at *
  generalize W.heap.size = Wz at *
  generalize y.heap.size = Q at *
  obtain ⟨⟨t0, t1, t2⟩, _⟩ := cellk3 gQ
  cases op
  · obtain ⟨k1, k2⟩ := HNO.out rfl
    have HRN2 := hid (HRN.out rfl Y g c tg tcc _ _ _ _ (keepcell hB hg) HX1.out HX2.out)
    clear HNO HYE HRN
    unfold zrun at HRN2
    go_wp2_with fail
    refine HRN2.out.mono ?_
    rintro e z ⟨rfl, hz⟩
    replace gZ := keepheapA hz gZ
    replace gQ := keepheapA hz gQ
    replace hB := btrans hB hz
    have hzz := hz.size
    replace HX1 := hid (HX1.out.below hz)
    replace HX2 := hid (HX2.out.below hz)
    clear hz t0 t1 t2 HRN2
    go_upto_region 3 with fail
    have hal : Below z.heap.size z (z.alloc (.cells #[.slice none 0 0, .int .i64 0, .bool false, .int .i64 0, .slice none 0 0] 69)) := balloc (Below.refl _ _) _
    replace gZ := keepheapA hal gZ
    replace gQ := keepheapA hal gQ
    replace hB := btrans hB hal
    replace HX1 := hid (HX1.out.below hal)
    replace HX2 := hid (HX2.out.below hal)
    have hvs := hal.size
    clear hal
    generalize z.alloc (.cells #[.slice none 0 0, .int .i64 0, .bool false, .int .i64 0, .slice none 0 0] 69) = V at *
    have hgv := keepcell hB hg
    go_wp2_with fail
    refine (is_hit 1 na _).mono ?_
    rintro e x ⟨rfl, hx⟩
    replace gZ := keepheapA hx gZ
    replace gQ := keepheapA hx gQ
    replace hB := btrans hB hx
    replace HX1 := hid (HX1.out.below hx)
    replace HX2 := hid (HX2.out.below hx)
    have hxs := hx.size
    clear hx hgv
    go_wp2_with fail
    have hex := keepcell hB he
    refine wp_region_held_drew (S := (fun w' => w'.heap[Q]? = some (.cells #[.int .i64 now, .slice (some ⟨g, 0, none⟩) nr c, .slice (some ⟨tg, 0, none⟩) nt tcc] 39 (0, 0)))) (by kernel_rfl) ?_ (fun hHeld => ?_)
    · exact gQ
    replace gQ : x.drew.heap[Q]? = some (.cells #[.int .i64 now, .slice (some ⟨g, 0, none⟩) nr c, .slice (some ⟨tg, 0, none⟩) nt tcc] 39 (0, 0)) := gQ
    replace gZ : x.drew.heap[w.heap.size + 1]? = some (.cells #[.int .i64 0, .slice none 0 0, .slice none 0 0] 39 (0, 0)) := gZ
    replace hB := bdrew hB
    replace HX1 := hid (HX1.out.below (bdrew (Below.refl _ _)))
    replace HX2 := hid (HX2.out.below (bdrew (Below.refl _ _)))
    have hex2 := keepcell hB he
    have hxd : x.heap.size ≤ x.drew.heap.size := Nat.le_refl _
    clear hex
    generalize x.drew = X at *
    refine wpAnyH_take (i := 0) (v := ?_) rfl (by kernel_rfl) (by kernel_rfl) (by kernel_rfl) (fun _ _ _ h => h) (Or.inl ⟨by rfl, ?_⟩) hHeld ?_
    rotate_left
    · intro w' hSw; (try dsimp only at hSw); obtain ⟨⟨_, _, _⟩, _⟩ := cellk3 hSw; go_simp; try (with_reducible rfl)
    try simp only [sq]
    refine wpAnyH_take (i := 1) (v := ?_) rfl (by kernel_rfl) (by kernel_rfl) (by kernel_rfl) (fun _ _ _ h => h) (Or.inl ⟨by rfl, ?_⟩) hHeld ?_
    rotate_left
    · intro w' hSw; (try dsimp only at hSw); go_simp; try (with_reducible rfl)
    try simp only [sq]
    refine wpAnyH_ready (rs := [2]) (by kernel_rfl) (by simp) ?_
    refine AllReadyH.cons rfl (fun K hK => ?_) AllReadyH.nil
    try simp only [sq]
    go_simp
    go_at_call 100
    refine (code_ref 1 _ _ rfl hex2).mono ?_
    rintro e XX ⟨rfl, hx⟩
    replace gZ := keepheapA hx gZ
    replace gQ := keepheapA hx gQ
    replace hB := btrans hB hx
    replace HX1 := hid (HX1.out.below hx)
    replace HX2 := hid (HX2.out.below hx)
    have hxs2 := hx.size
    clear hx hex2
    go_wp2_with fail
    refine hK.out _ _ ?_ (fun hHeld => ?_)
    · exact gQ
    clear hK K
    try simp only [sq]
    obtain ⟨⟨v0, v1, v2⟩, s0, s1, s2⟩ := cellk3 gZ
    refine wpAnyH_ready (rs := [3]) (by kernel_rfl) (by simp) ?_
    refine AllReadyH.cons rfl (fun K hK => ?_) AllReadyH.nil
    try simp only [sq]
    go_simp
    have HB := hid hB
    have hfq : (((XX.setCell ⟨w.heap.size + 1, 0, none⟩ (.int .i64 now)).setCell ⟨w.heap.size + 1, 1, none⟩ (.slice (some ⟨g, 0, none⟩) nr c)).setCell ⟨w.heap.size + 1, 2, none⟩ (.slice (some ⟨tg, 0, none⟩) nt tcc)).heap[Q]? = XX.heap[Q]? := by rw [Below.heap_setCell _ _ _ _ (by dsimp only; omega), Below.heap_setCell _ _ _ _ (by dsimp only; omega), Below.heap_setCell _ _ _ _ (by dsimp only; omega)]
    refine hK.out _ _ ?_ (fun hHeld => ?_)
    · exact hfq.trans gQ
    clear hK K hfq
    try simp only [sq]
    refine wpAnyH_take (i := 4) (v := ?_) rfl (by kernel_rfl) (by kernel_rfl) (by kernel_rfl) (fun _ _ _ h => h) (Or.inl ⟨by rfl, ?_⟩) hHeld ?_
    rotate_left
    · intro w' hSw; (try dsimp only at hSw); go_simp; try (with_reducible rfl)
    try simp only [sq]
    refine wpAnyH_done (by kernel_rfl) ?_ _
    clear hB v0 v1 v2 s0 s1 s2
    have gF := setk3 gZ (.int .i64 now) (.slice (some ⟨g, 0, none⟩) nr c) (.slice (some ⟨tg, 0, none⟩) nt tcc)
    have bF := (bset (bset (bset HB.out (q := w.heap.size + 1) (k := 0) (by omega) (.int .i64 now)) (q := w.heap.size + 1) (k := 1) (by omega) (.slice (some ⟨g, 0, none⟩) nr c)) (q := w.heap.size + 1) (k := 2) (by omega) (.slice (some ⟨tg, 0, none⟩) nt tcc))
    have hfar : ∀ b, b ≠ w.heap.size + 1 → (((XX.setCell ⟨w.heap.size + 1, 0, none⟩ (.int .i64 now)).setCell ⟨w.heap.size + 1, 1, none⟩ (.slice (some ⟨g, 0, none⟩) nr c)).setCell ⟨w.heap.size + 1, 2, none⟩ (.slice (some ⟨tg, 0, none⟩) nt tcc)).heap[b]? = XX.heap[b]? := fun b hb => by rw [Below.heap_setCell _ _ _ _ (by dsimp only; omega), Below.heap_setCell _ _ _ _ (by dsimp only; omega), Below.heap_setCell _ _ _ _ (by dsimp only; omega)]
    have x1 := HX1.out.frame (w' := (((XX.setCell ⟨w.heap.size + 1, 0, none⟩ (.int .i64 now)).setCell ⟨w.heap.size + 1, 1, none⟩ (.slice (some ⟨g, 0, none⟩) nr c)).setCell ⟨w.heap.size + 1, 2, none⟩ (.slice (some ⟨tg, 0, none⟩) nt tcc))) (fun b h1 h2 => hfar b (by omega)) (by simp)
    have x2 := HX2.out.frame (w' := (((XX.setCell ⟨w.heap.size + 1, 0, none⟩ (.int .i64 now)).setCell ⟨w.heap.size + 1, 1, none⟩ (.slice (some ⟨g, 0, none⟩) nr c)).setCell ⟨w.heap.size + 1, 2, none⟩ (.slice (some ⟨tg, 0, none⟩) nt tcc))) (fun b h1 h2 => hfar b (by omega)) (by simp)
    generalize (((XX.setCell ⟨w.heap.size + 1, 0, none⟩ (.int .i64 now)).setCell ⟨w.heap.size + 1, 1, none⟩ (.slice (some ⟨g, 0, none⟩) nr c)).setCell ⟨w.heap.size + 1, 2, none⟩ (.slice (some ⟨tg, 0, none⟩) nt tcc)) = wf at *
    obtain ⟨⟨z0, z1, z2⟩, _⟩ := cellk3 gF
    go_wp2_with fail
    exact bodyPost_ret (v := .tuple #[.agg #[.int .i64 now, .slice (some ⟨g, 0, none⟩) nr c, .slice (some ⟨tg, 0, none⟩) nt tcc], .int .i64 1]) (by simp [results, Tryz.results58, go_sem, z0, z1, z2]) rfl (sn_mk k1 k2 HNR.out HNT.out x1 x2 (by omega) (by omega) (by omega) bF)
  · obtain ⟨m, ts2, rfl, hl2, k1, k2, hry, hdo⟩ := HYE.out rfl
    have HRY := hid (hry Y g c tg tcc _ _ _ _ HX1.out HX2.out)
    have HDO := hid hdo
    clear HNO HYE HRN hry hdo
    go_wp2_with fail
    refine HRY.out.mono ?_
    rintro e z ⟨⟨ca, cn, cc, st, rfl⟩, hz⟩
    replace gZ := keepheapA hz gZ
    replace gQ := keepheapA hz gQ
    replace hB := btrans hB hz
    have hzz := hz.size
    replace HX1 := hid (HX1.out.below hz)
    replace HX2 := hid (HX2.out.below hz)
    clear hz t0 t1 t2 HRY
    go_upto_region 3 with fail
    have hal : Below z.heap.size z (z.alloc (.cells #[.slice ca cn cc, .int .i64 st, .bool true, .int .i64 now, .slice (some ⟨g, 0, none⟩) nr c] 69)) := balloc (Below.refl _ _) _
    replace gZ := keepheapA hal gZ
    replace gQ := keepheapA hal gQ
    replace hB := btrans hB hal
    replace HX1 := hid (HX1.out.below hal)
    replace HX2 := hid (HX2.out.below hal)
    have hvs := hal.size
    clear hal
    generalize z.alloc (.cells #[.slice ca cn cc, .int .i64 st, .bool true, .int .i64 now, .slice (some ⟨g, 0, none⟩) nr c] 69) = V at *
    have hgv := keepcell hB hg
    go_wp2_with fail
    refine (is_none na _).mono ?_
    rintro e x ⟨rfl, hx⟩
    replace hx := hx.symm
    subst hx
    clear hgv
    have HD := hid (HDO.out V g c tg tcc _ _ Q (by omega) gQ HX2.out)
    have htm2 := HX2.out
    have hgt : Wz ≤ tg ∧ tg < mid := by
      obtain ⟨_, ⟨_, q⟩ | ⟨g2, _, _, _, _, q, _, q1, q2, _⟩⟩ := htm2
      · cases q
      · cases q; exact ⟨q1, q2⟩
    clear HDO htm2
    go_wp2_with fail
    refine HD.out.mono ?_
    rintro e x ⟨rfl, hq1, hq2, hq3, hq4, hq5⟩
    replace gZ := (hq4 _ (by have := lt_of_block gZ; omega) (by omega) (by omega)).trans gZ
    replace gQ := hq1
    have HB : Hid (Below w.heap.size w x) := hid ⟨hq5.1.trans hB.os, hq5.2.1.trans hB.tape, hq5.2.2.trans hB.output, by have := hB.size; omega, fun b hb => (hq4 b (by have := hB.size; omega) (by omega) (by omega)).trans (hB.block b hb)⟩
    replace HX1 := hid (HX1.out.frame (w' := x) (fun b h1 h2 => hq4 b (by omega) (by omega) (by omega)) hq3)
    have HX3 := hid hq2
    clear hq1 hq2 hq4 hq5 hB HX2 HD
    obtain ⟨⟨v0, v1, v2⟩, s0, s1, s2⟩ := cellk3 gZ
    obtain ⟨⟨t0, t1, t2⟩, _⟩ := cellk3 gQ
    go_wp2_with fail
    have gF := setk3 gZ (.int .i64 now) (.slice (some ⟨g, 0, none⟩) nr c) (.slice (some ⟨tg, 0, none⟩) nt tcc)
    have bF := (bset (bset (bset HB.out (q := w.heap.size + 1) (k := 0) (by omega) (.int .i64 now)) (q := w.heap.size + 1) (k := 1) (by omega) (.slice (some ⟨g, 0, none⟩) nr c)) (q := w.heap.size + 1) (k := 2) (by omega) (.slice (some ⟨tg, 0, none⟩) nt tcc))
    have hfar : ∀ b, b ≠ w.heap.size + 1 → (((x.setCell ⟨w.heap.size + 1, 0, none⟩ (.int .i64 now)).setCell ⟨w.heap.size + 1, 1, none⟩ (.slice (some ⟨g, 0, none⟩) nr c)).setCell ⟨w.heap.size + 1, 2, none⟩ (.slice (some ⟨tg, 0, none⟩) nt tcc)).heap[b]? = x.heap[b]? := fun b hb => by rw [Below.heap_setCell _ _ _ _ (by dsimp only; omega), Below.heap_setCell _ _ _ _ (by dsimp only; omega), Below.heap_setCell _ _ _ _ (by dsimp only; omega)]
    have x1 := HX1.out.frame (w' := (((x.setCell ⟨w.heap.size + 1, 0, none⟩ (.int .i64 now)).setCell ⟨w.heap.size + 1, 1, none⟩ (.slice (some ⟨g, 0, none⟩) nr c)).setCell ⟨w.heap.size + 1, 2, none⟩ (.slice (some ⟨tg, 0, none⟩) nt tcc))) (fun b h1 h2 => hfar b (by omega)) (by simp)
    have x2 := HX3.out.frame (w' := (((x.setCell ⟨w.heap.size + 1, 0, none⟩ (.int .i64 now)).setCell ⟨w.heap.size + 1, 1, none⟩ (.slice (some ⟨g, 0, none⟩) nr c)).setCell ⟨w.heap.size + 1, 2, none⟩ (.slice (some ⟨tg, 0, none⟩) nt tcc))) (fun b h1 h2 => hfar b (by omega)) (by simp)
    generalize (((x.setCell ⟨w.heap.size + 1, 0, none⟩ (.int .i64 now)).setCell ⟨w.heap.size + 1, 1, none⟩ (.slice (some ⟨g, 0, none⟩) nr c)).setCell ⟨w.heap.size + 1, 2, none⟩ (.slice (some ⟨tg, 0, none⟩) nt tcc)) = wf at *
    obtain ⟨⟨z0, z1, z2⟩, _⟩ := cellk3 gF
    exact bodyPost_ret (v := .tuple #[.agg #[.int .i64 now, .slice (some ⟨g, 0, none⟩) nr c, .slice (some ⟨tg, 0, none⟩) nt tcc], .int .i64 0]) (by simp [results, Tryz.results58, go_sem, z0, z1, z2]) rfl (sn_mk k1 k2 HNR.out hl2 x1 x2 (by omega) (by omega) (by omega) bF)
set_option maxRecDepth 100000 in
set_option maxHeartbeats 4000000 in
theorem impl_Rollback (now n : Int) (B D : Nat) (rs : List Rw) (ts : List Tx) (w : World) (na : Addr) (hm : rs.length ≤ 1099511627776) (htm : ts.length ≤ 1099511627776) (hr : RwsS w B rs) (ht : TxsS w D ts) (hg : w.cell? ⟨0, 0, none⟩ = some (.iface 273 (.pointer (some na)))) (he : w.cell? ⟨3, 0, none⟩ = some (.iface 210 (.agg #[.pointer (some ⟨4, 71, none⟩)]))) : Calls Tryz.prog 30 #[.agg #[.int .i64 now, .slice (some ⟨B, 0, none⟩) rs.length rs.length, .slice (some ⟨D, 0, none⟩) ts.length ts.length], .int .i64 n] w fun e w' => SN w now rs (rbT now rs ts n) (rbN now rs ts n) e w' := by
  have HA := hid (fun (W : World) (hb : Below w.heap.size w W) => after_rb now n B D rs ts W na hm htm (hr.below hb) (ht.below hb) (keepcell hb hg) (keepcell hb he))
  clear hr ht hg he
  generalize rbT now rs ts n = bt at *
  generalize rbN now rs ts n = bn at *
  unfold SN at HA
  obtain ⟨nr, hnr⟩ : ∃ x, x = rs.length := ⟨_, rfl⟩
  obtain ⟨nt, hnt⟩ : ∃ x, x = ts.length := ⟨_, rfl⟩
  obtain ⟨nb, hnb⟩ : ∃ x, x = bt.length := ⟨_, rfl⟩
  have HNR := hid hnr.symm
  have HNB := hid hnb.symm
  unfold StX at HA
  rw [← hnr, ← hnt, ← hnb] at HA
  rw [← hnr, ← hnt]
  clear hnr hnt hnb
  have hB : Below w.heap.size w ((w.alloc (.cells #[.int .i64 now, .slice (some ⟨B, 0, none⟩) nr nr, .slice (some ⟨D, 0, none⟩) nt nt] 39)).alloc (.cells #[.int .i64 0, .slice none 0 0, .slice none 0 0] 39)) := balloc (balloc (Below.refl _ _) _) _
  have gP := old_alloc (o' := .cells #[.int .i64 0, .slice none 0 0, .slice none 0 0] 39) (new_alloc w w.heap.size (.cells #[.int .i64 now, .slice (some ⟨B, 0, none⟩) nr nr, .slice (some ⟨D, 0, none⟩) nt nt] 39) rfl)
  have gZ := new_alloc (w.alloc (.cells #[.int .i64 now, .slice (some ⟨B, 0, none⟩) nr nr, .slice (some ⟨D, 0, none⟩) nt nt] 39)) (w.heap.size + 1) (.cells #[.int .i64 0, .slice none 0 0, .slice none 0 0] 39) (by simp)
  have hWs : w.heap.size + 1 < ((w.alloc (.cells #[.int .i64 now, .slice (some ⟨B, 0, none⟩) nr nr, .slice (some ⟨D, 0, none⟩) nt nt] 39)).alloc (.cells #[.int .i64 0, .slice none 0 0, .slice none 0 0] 39)).heap.size := by simp
  go_enter Tryz.func30, Tryz.ntmps30
  go_upto_region 1 with fail
  generalize (w.alloc (.cells #[.int .i64 now, .slice (some ⟨B, 0, none⟩) nr nr, .slice (some ⟨D, 0, none⟩) nt nt] 39)).alloc (.cells #[.int .i64 0, .slice none 0 0, .slice none 0 0] 39) = W at *
  obtain ⟨⟨d0, d1, d2⟩, _⟩ := cellk3 gP
  go_wp2_with fail
  refine (HA.out _ hB).mono ?_
  rintro e y ⟨a', c', ta', tcc', b1, u1, b2, u2, rfl, ⟨hx1, hx2⟩, e1, e2, e3, hy⟩
  replace gZ := keepheapA hy gZ
  have HB := hid (btrans hB hy)
  have HX1 := hid hx1
  have HX2 := hid hx2
  have hyz := hy.size
  clear hy hx1 hx2 HA d0 d1 d2 gP hB
  obtain ⟨⟨v0, v1, v2⟩, s0, s1, s2⟩ := cellk3 gZ
  go_wp2_with fail
  have gF := setk3 gZ (.int .i64 now) (.slice a' nr c') (.slice ta' nb tcc')
  have bF := (bset (bset (bset HB.out (q := w.heap.size + 1) (k := 0) (by omega) (.int .i64 now)) (q := w.heap.size + 1) (k := 1) (by omega) (.slice a' nr c')) (q := w.heap.size + 1) (k := 2) (by omega) (.slice ta' nb tcc'))
  have hfar : ∀ b, b ≠ w.heap.size + 1 → (((y.setCell ⟨w.heap.size + 1, 0, none⟩ (.int .i64 now)).setCell ⟨w.heap.size + 1, 1, none⟩ (.slice a' nr c')).setCell ⟨w.heap.size + 1, 2, none⟩ (.slice ta' nb tcc')).heap[b]? = y.heap[b]? := fun b hb => by rw [Below.heap_setCell _ _ _ _ (by dsimp only; omega), Below.heap_setCell _ _ _ _ (by dsimp only; omega), Below.heap_setCell _ _ _ _ (by dsimp only; omega)]
  have x1 := HX1.out.frame (w' := (((y.setCell ⟨w.heap.size + 1, 0, none⟩ (.int .i64 now)).setCell ⟨w.heap.size + 1, 1, none⟩ (.slice a' nr c')).setCell ⟨w.heap.size + 1, 2, none⟩ (.slice ta' nb tcc'))) (fun b h1 h2 => hfar b (by omega)) (by simp)
  have x2 := HX2.out.frame (w' := (((y.setCell ⟨w.heap.size + 1, 0, none⟩ (.int .i64 now)).setCell ⟨w.heap.size + 1, 1, none⟩ (.slice a' nr c')).setCell ⟨w.heap.size + 1, 2, none⟩ (.slice ta' nb tcc'))) (fun b h1 h2 => hfar b (by omega)) (by simp)
  generalize (((y.setCell ⟨w.heap.size + 1, 0, none⟩ (.int .i64 now)).setCell ⟨w.heap.size + 1, 1, none⟩ (.slice a' nr c')).setCell ⟨w.heap.size + 1, 2, none⟩ (.slice ta' nb tcc')) = wf at *
  obtain ⟨⟨z0, z1, z2⟩, _⟩ := cellk3 gF
  exact bodyPost_ret (v := .tuple #[.agg #[.int .i64 now, .slice a' nr c', .slice ta' nb tcc'], .int .i64 bn]) (by simp [results, Tryz.results30, go_sem, z0, z1, z2]) rfl (sn_mk rfl rfl HNR.out HNB.out x1 x2 (by omega) (by omega) e3 bF)
end Go.Proofs.YtehifednpbdokaaGreatDoor
