/- Texts of stores, joined: Ve, Vf, Td. -/
import Derived.Test.YtkdoigibpaempaaGreatDoorJ14
import Derived.Test.YtkdoigibpaempaaGreatDoorJ13
import Derived.Test.YtkdoigibpaempaaGreatDoorJ11
set_option linter.unusedSimpArgs false
set_option linter.unusedVariables false
namespace Go.Proofs.YtkdoigibpaempaaGreatDoor
open Go.RowKit
def RwsS (w : World) (B : Nat) (rs : List Rw) : Prop := B < w.heap.size ∧ ∀ j (h : j < rs.length), ∃ c cp, c < w.heap.size ∧ w.cell? ⟨B, j * 5, none⟩ = some (.int .i64 rs[j].1) ∧ w.cell? ⟨B, j * 5 + 1, none⟩ = some (.int .i64 rs[j].2.1) ∧ w.cell? ⟨B, j * 5 + 2, none⟩ = some (.int .i64 rs[j].2.2.1) ∧ w.cell? ⟨B, j * 5 + 3, none⟩ = some (.int .i64 rs[j].2.2.2.1) ∧ w.cell? ⟨B, j * 5 + 4, none⟩ = some (.slice (some ⟨c, 0, none⟩) rs[j].2.2.2.2.length cp) ∧ rs[j].2.2.2.2.length ≤ 1099511627776 ∧ Pts w (some ⟨c, 0, none⟩) rs[j].2.2.2.2
theorem rwsS_of {N : Nat → Prop} {hi : Nat} {w : World} {B : Nat} {rs : List Rw} (hB : B < w.heap.size) (h : RwsAt N w B 0 rs) (ho : RwsO hi w B rs) (hh : hi ≤ w.heap.size) : RwsS w B rs := by
  refine ⟨hB, fun j hj => ?_⟩
  obtain ⟨a, cap, h0, h1, h2, h3, h4, h5, h6, h7, h8⟩ := h j hj
  obtain ⟨c, q0, q1, q2, q3⟩ := ho j hj
  simp only [Nat.zero_add] at h0 h1 h2 h3 h4
  rw [h4] at q0
  cases q0
  exact ⟨c, _, by omega, h0, h1, h2, h3, h4, h6, h7⟩
theorem RwsS.below {w w' : World} {B : Nat} {rs : List Rw} (h : RwsS w B rs) (H : Below w.heap.size w w') : RwsS w' B rs := by
  refine ⟨Nat.lt_of_lt_of_le h.1 H.size, fun j hj => ?_⟩
  obtain ⟨c, cp, a0, a1, a2, a3, a4, a5, a6, a7⟩ := h.2 j hj
  exact ⟨c, cp, Nat.lt_of_lt_of_le a0 H.size, keepcell H a1, keepcell H a2, keepcell H a3, keepcell H a4, keepcell H a5, a6, a7.below H⟩
theorem flt_next {rs : List Rw} {p : Rw → Bool} {i : Nat} (hi : i < rs.length) : (rs.take (i + 1)).filter p = if p rs[i] = true then (rs.take i).filter p ++ [rs[i]] else (rs.take i).filter p := by
  rw [List.take_add_one, List.getElem?_eq_getElem hi, List.filter_append]
  by_cases h : p rs[i] = true
  · simp [h]
  · simp [h]
theorem make_rows0 (n : Nat) (hn : n ≤ 1099511627776) (w : World) : (Instr.makeSlice 29 (.int .i64 0) (.int .i64 n)).run Tryz.prog w = .ok (.slice (some ⟨w.heap.size, 0, none⟩) 0 n) (w.alloc (.cells (madeCells #[.int .i64 0, .int .i64 0, .int .i64 0, .int .i64 0, .slice none 0 0] (n * 5)) 78)) := by
  obtain ⟨i0, hi, hz0, hz1, hz2⟩ := info_parts Tryz.infoRow
  have := run_make (P := Tryz.prog) w 29 78 i0 _ Tryz.underlying29 hi hz0 .i64 .i64 0 n (by omega) (by omega) (by rw [hz2]; omega) (by omega)
  rw [hz1] at this
  exact this
theorem kept_form {base hi : Nat} {w : World} {v : Value} {rs : List Rw} {xs : List El} (h : RowsX base hi w v rs xs) : ∃ a cap, v = .slice a rs.length cap := by
  rcases h.rows with ⟨rfl, _, e⟩ | ⟨g, cap, e, _⟩
  · exact ⟨none, 0, e⟩
  · exact ⟨_, cap, e⟩
def VR (w : World) (now : Int) (rs : List Rw) (e : Ending) (w' : World) : Prop :=
  ∃ a cap xs, e = .returned (.agg #[.int .i64 now, .slice a rs.length cap]) ∧ RowsX w.heap.size w'.heap.size w' (.slice a rs.length cap) rs xs ∧ Below w.heap.size w w'
end Go.Proofs.YtkdoigibpaempaaGreatDoor
namespace Go.Proofs.YtkdoigibpaempaaGreatDoor
open Go.RowKit
theorem set1r {w : World} {p : Nat} {o0 o1 : Value} {t : TypeId} (h : w.heap[p]? = some (.cells #[o0, o1] t (0, 0))) (b : Value) : (w.setCell ⟨p, 1, none⟩ b).heap[p]? = some (.cells #[o0, b] t (0, 0)) := by
  have hlt := lt_of_block h
  have h' : w.heap[p] = .cells #[o0, o1] t (0, 0) := by simpa [Array.getElem?_eq_getElem hlt] using h
  show (w.heap.modify p _)[p]? = _
  rw [Array.getElem?_eq_getElem (by simpa using hlt), Array.getElem_modify_self, h']
  rfl
theorem own_nilR {w : World} {B : Nat} : w.ownsRow B 78 5 (.slice none 0 0) 0 [] := ⟨by simp, .inl ⟨rfl, rfl⟩⟩
set_option maxRecDepth 100000 in
set_option maxHeartbeats 4000000 in
theorem spec_copyRows (now : Int) (B : Nat) (rs : List Rw) (w : World) (hm : rs.length ≤ 1099511627776) (h : RwsS w B rs) : Calls Tryz.prog 30 #[.agg #[.int .i64 now, .slice (some ⟨B, 0, none⟩) rs.length rs.length]] w fun e w' => VR w now rs e w' := by
  obtain ⟨i0, hi0, hz0, hz1, hz2⟩ := info_parts Tryz.infoRow
  have HR := hid h
  clear h
  unfold VR
  obtain ⟨n, hn⟩ : ∃ n, n = rs.length := ⟨_, rfl⟩
  have HN := hid hn.symm
  rw [← hn] at hm ⊢
  clear hn
  have hBx : Below w.heap.size w (((w.alloc (.cells #[.int .i64 now, .slice (some ⟨B, 0, none⟩) n n] 31)).alloc (.cells #[.int .i64 0, .slice none 0 0] 31)).alloc (.cells #[.int .i64 now, .slice none 0 0] 31)) := balloc (balloc (balloc (Below.refl _ _) _) _) _
  have g0 := old_alloc (o' := .cells #[.int .i64 now, .slice none 0 0] 31) (old_alloc (o' := .cells #[.int .i64 0, .slice none 0 0] 31) (new_alloc w w.heap.size (.cells #[.int .i64 now, .slice (some ⟨B, 0, none⟩) n n] 31) rfl))
  have g1 := old_alloc (o' := .cells #[.int .i64 now, .slice none 0 0] 31) (new_alloc (w.alloc (.cells #[.int .i64 now, .slice (some ⟨B, 0, none⟩) n n] 31)) (w.heap.size + 1) (.cells #[.int .i64 0, .slice none 0 0] 31) (by simp))
  have g2 := new_alloc ((w.alloc (.cells #[.int .i64 now, .slice (some ⟨B, 0, none⟩) n n] 31)).alloc (.cells #[.int .i64 0, .slice none 0 0] 31)) (w.heap.size + 1 + 1) (.cells #[.int .i64 now, .slice none 0 0] 31) (by simp)
  have hs3 : (((w.alloc (.cells #[.int .i64 now, .slice (some ⟨B, 0, none⟩) n n] 31)).alloc (.cells #[.int .i64 0, .slice none 0 0] 31)).alloc (.cells #[.int .i64 now, .slice none 0 0] 31)).heap.size = w.heap.size + 3 := by simp
  go_enter Tryz.func30, Tryz.ntmps30
  go_upto_region 2 with fail
  generalize (((w.alloc (.cells #[.int .i64 now, .slice (some ⟨B, 0, none⟩) n n] 31)).alloc (.cells #[.int .i64 0, .slice none 0 0] 31)).alloc (.cells #[.int .i64 now, .slice none 0 0] 31)) = W0 at *
  have HX0 := hid (RowsX.nil (base := w.heap.size + 3) (hi := W0.heap.size) (own_nilR (w := W0)) (fun g e => by cases e) (Nat.le_refl _))
  go_wp2_with fail
  go_loopw [4] (fun ti wr => ∃ i : Nat, ∃ v : Value, ∃ xs : List El, ti = .int .i64 i ∧ i ≤ n ∧ Hid (RowsX (w.heap.size + 3) wr.heap.size wr v (rs.take i) xs) ∧ Hid (wr.heap[w.heap.size]? = some (.cells #[.int .i64 now, .slice (some ⟨B, 0, none⟩) n n] 31 (0, 0))) ∧ Hid (wr.heap[w.heap.size + 1]? = some (.cells #[.int .i64 0, .slice none 0 0] 31 (0, 0))) ∧ Hid (wr.heap[w.heap.size + 1 + 1]? = some (.cells #[.int .i64 now, v] 31 (0, 0))) ∧ Hid (w.heap.size + 3 ≤ wr.heap.size) ∧ Hid (Below w.heap.size w wr)) (fun ti _ => n - (intOf ti).toNat)
  case atStart => exact ⟨0, _, [], rfl, Nat.zero_le _, HX0, hid g0, hid g1, hid g2, hid (by omega), hid hBx⟩
  case round =>
    clear HX0 g0 g1 g2 hBx hs3
    obtain ⟨i, v, xs, rfl, hi, HV, G0, G1, G2, HS, HBW⟩ := hrel
    obtain ⟨d0, d1, _, _⟩ := cell2f G0.out
    have hws := HS.out
    by_cases hlt : i < n
    · have c1 : (i : Int) < (n : Int) := by omega
      have hir : i < rs.length := by rw [HN.out]; exact hlt
      obtain ⟨ci, cpi, k9, k0, k1, k2, k3, k4, k6, k7⟩ := (HR.out.below HBW.out).2 i hir
      have htk : rs.take (i + 1) = rs.take i ++ [rs[i]] := by rw [List.take_add_one, List.getElem?_eq_getElem hir]; rfl
      have hil : (rs.take i).length ≤ i := by simp; omega
      have HSC := hid (fun (W : World) (hb : Below wr.heap.size wr W) => spec_copyG rs[i].2.2.2.1 ci 0 cpi rs[i].2.2.2.2 W k6 (k7.below hb) (Nat.lt_of_lt_of_le k9 hb.size))
      unfold CP at HSC
      obtain ⟨r, hr⟩ : ∃ r, r = rs[i] := ⟨_, rfl⟩
      rw [← hr] at k0 k1 k2 k3 k4 k6 htk HSC
      have HTK := hid htk
      clear hr htk k7 k9
      generalize rs.take i = zs at *
      obtain ⟨id, fr, te, kd, ps⟩ := r
      simp only at k0 k1 k2 k3 k4 k6 HSC
      go_upto_region 6 with fail
      have hbx : Below wr.heap.size wr (wr.alloc (.cells #[.int .i64 id, .int .i64 fr, .int .i64 te, .int .i64 kd, .slice (some ⟨ci, 0, none⟩) ps.length cpi] 78)) := balloc (Below.refl _ _) _
      have gx := new_alloc wr wr.heap.size (.cells #[.int .i64 id, .int .i64 fr, .int .i64 te, .int .i64 kd, .slice (some ⟨ci, 0, none⟩) ps.length cpi] 78) rfl
      have HV1 := hid (HV.out.below hbx)
      have HG0 := hid (keepheap2 hbx G0.out)
      have HG1 := hid (keepheap2 hbx G1.out)
      have HG2 := hid (keepheap2 hbx G2.out)
      have HB1 := hid (btrans HBW.out hbx)
      have HC1 := hid (HSC.out _ hbx)
      have hs1 : wr.heap.size < (wr.alloc (.cells #[.int .i64 id, .int .i64 fr, .int .i64 te, .int .i64 kd, .slice (some ⟨ci, 0, none⟩) ps.length cpi] 78)).heap.size := by simp
      clear k0 k1 k2 k3 k4 d0 d1 hbx HSC HV G0 G1 G2
      generalize wr.alloc (.cells #[.int .i64 id, .int .i64 fr, .int .i64 te, .int .i64 kd, .slice (some ⟨ci, 0, none⟩) ps.length cpi] 78) = W1 at *
      generalize wr.heap.size = X at *
      obtain ⟨⟨x0, x1, x2, x3, x4⟩, _⟩ := cell5g gx
      go_wp2_with fail
      refine HC1.out.mono ?_
      rintro e y ⟨g, cp, rfl, hcp, hgs, ho, hy⟩
      have gy := keepheap2 hy gx
      have hys := hy.size
      have hwy := (btrans HB1.out hy).size
      have HV2 := hid (HV1.out.below hy)
      have HG0' := hid (keepheap2 hy HG0.out)
      have HG1' := hid (keepheap2 hy HG1.out)
      have HG2' := hid (keepheap2 hy HG2.out)
      have HBy := hid (btrans HB1.out hy)
      have HO := hid ho
      clear hy ho gx HC1 HV1 HG0 HG1 HG2 HB1 x0 x1 x2 x3 x4
      obtain ⟨⟨x0, x1, x2, x3, x4⟩, y0, y1, y2, y3, y4⟩ := cell5g gy
      go_upto_region 7 with fail
      have gq := set34 gy (.int .i64 kd) (.slice (some ⟨g, 0, none⟩) ps.length cp)
      have hfar : ∀ b, b ≠ X → ((y.setCell ⟨X, 3, none⟩ (.int .i64 kd)).setCell ⟨X, 4, none⟩ (.slice (some ⟨g, 0, none⟩) ps.length cp)).heap[b]? = y.heap[b]? := fun b hb => by rw [Below.heap_setCell _ _ _ _ (by dsimp only; omega), Below.heap_setCell _ _ _ _ (by dsimp only; omega)]
      have HV3 := hid (HV2.out.frame (w' := (y.setCell ⟨X, 3, none⟩ (.int .i64 kd)).setCell ⟨X, 4, none⟩ (.slice (some ⟨g, 0, none⟩) ps.length cp)) (fun b h1 h2 => hfar b (by omega)) (by simp))
      have HG0 := hid ((hfar w.heap.size (by omega)).trans HG0'.out)
      have HG1 := hid ((hfar (w.heap.size + 1) (by omega)).trans HG1'.out)
      have g2 := (hfar (w.heap.size + 1 + 1) (by omega)).trans HG2'.out
      have HB3 := hid (bset (bset HBy.out (q := X) (k := 3) (by omega) (.int .i64 kd)) (q := X) (k := 4) (by omega) (.slice (some ⟨g, 0, none⟩) ps.length cp))
      have HO3 := hid (own_blk HO.out (hfar g (by omega)) (by simp; exact HO.out.1))
      have hs3 : ((y.setCell ⟨X, 3, none⟩ (.int .i64 kd)).setCell ⟨X, 4, none⟩ (.slice (some ⟨g, 0, none⟩) ps.length cp)).heap.size = y.heap.size := by simp
      have hs3a := Nat.le_of_eq hs3
      have hs3b := Nat.le_of_eq hs3.symm
      have hgy := HO.out.1
      clear hs3
      clear hfar HV2 HG0' HG1' HG2' HBy HO gy x0 x1 x2 x3 x4 y0 y1 y2 y3 y4
      generalize (y.setCell ⟨X, 3, none⟩ (.int .i64 kd)).setCell ⟨X, 4, none⟩ (.slice (some ⟨g, 0, none⟩) ps.length cp) = Y at *
      obtain ⟨⟨x0, x1, x2, x3, x4⟩, _⟩ := cell5g gq
      obtain ⟨v0, v1, _, _⟩ := cell2f g2
      have hownZ := HV3.out.2.1
      have hal2 : Below Y.heap.size Y (Y.alloc (.cells #[.int .i64 id, .int .i64 fr, .int .i64 te, .int .i64 kd, .slice (some ⟨g, 0, none⟩) ps.length cp] 78)) := balloc (Below.refl _ _) _
      have HGE := hid (keepheap2 hal2 g2)
      have hvb : v.ownBlock ≠ some (w.heap.size + 1 + 1) := fun e => by have := (hownZ.lt _ e).1; omega
      clear gq g2
      go_wp2_with (at_builtin; (refine wpList_append_lies _ rfl (.tmp 26) (.tmp 28) 29 rfl (w.heap.size + 3) 78 i0 _ 5 56 Tryz.underlying29 hi0 hz0 hz1 hz2 rfl (by decide) v zs.length (flat5 xs) rfl (hownZ.alloc _) ⟨Y.heap.size, 0, none⟩ 1 1 (ev (elR (id, fr, te, kd, ps) g cp)) rfl rfl (World.news_of_block (cs := #[.int .i64 id, .int .i64 fr, .int .i64 te, .int .i64 kd, .slice (some ⟨g, 0, none⟩) ps.length cp]) (t := 78) (fr := (0, 0)) (heap_alloc_new Y _)) (by simp [ev, elR, Value.oneCell']) (by omega) (by unfold maxLen; omega) (by omega) (by simp; omega) (Y.heap.size + 1) (by simp) ?_; intro gg cq w2 hown2 hgrow hat hlt2; have g2 := (hgrow.block (w.heap.size + 1 + 1) (lt_of_block HGE.out) (fun e => hvb e.symm)).trans HGE.out; obtain ⟨t0, t1, s0, s1⟩ := cell2f g2))
      have hsn := RowsX.snoc (r := (id, fr, te, kd, ps)) (c := g) (cp := cp) (HV3.out.below hal2) (by omega) (by omega) (by simp; omega) hcp k6 (HO3.out.below hal2) hown2 hgrow (by simpa using hat) hlt2
      have hb2 : Below w.heap.size w w2 := Below.grown (balloc HB3.out _) hgrow (by simp; omega) (fun k e => by have := (hownZ.lt k e).1; omega)
      have hw2 := hgrow.size
      have HG0e := hid ((hgrow.block w.heap.size (by simp; omega) (fun e => by have := (hownZ.lt _ e.symm).1; omega)).trans (keepheap2 hal2 HG0.out))
      have HG1e := hid ((hgrow.block (w.heap.size + 1) (by simp; omega) (fun e => by have := (hownZ.lt _ e.symm).1; omega)).trans (keepheap2 hal2 HG1.out))
      have hfar : ∀ b, b ≠ w.heap.size + 1 + 1 → (w2.setCell ⟨w.heap.size + 1 + 1, 1, none⟩ (.slice (some ⟨gg, 0, none⟩) (zs.length + 1) cq)).heap[b]? = w2.heap[b]? := fun b hb => by rw [Below.heap_setCell _ _ _ _ (by dsimp only; omega)]
      have HF1 := hid ((hsn.frame (w' := w2.setCell ⟨w.heap.size + 1 + 1, 1, none⟩ (.slice (some ⟨gg, 0, none⟩) (zs.length + 1) cq)) (fun b h1 h2 => hfar b (by omega)) (by simp)).mono (hi' := (w2.setCell ⟨w.heap.size + 1 + 1, 1, none⟩ (.slice (some ⟨gg, 0, none⟩) (zs.length + 1) cq)).heap.size) (Nat.le_refl _) (by simp) (Nat.le_refl _))
      rw [← HTK.out] at HF1
      have HF2 := hid ((hfar w.heap.size (by omega)).trans HG0e.out)
      have HF3 := hid ((hfar (w.heap.size + 1) (by omega)).trans HG1e.out)
      have HF4 : Hid ((w2.setCell ⟨w.heap.size + 1 + 1, 1, none⟩ (.slice (some ⟨gg, 0, none⟩) (zs.length + 1) cq)).heap[w.heap.size + 1 + 1]? = some (.cells #[.int .i64 now, .slice (some ⟨gg, 0, none⟩) (zs.length + 1) cq] 31 (0, 0))) := hid (set1r g2 _)
      have HF5 : Hid (w.heap.size + 3 ≤ (w2.setCell ⟨w.heap.size + 1 + 1, 1, none⟩ (.slice (some ⟨gg, 0, none⟩) (zs.length + 1) cq)).heap.size) := hid (by simp at hw2 ⊢; omega)
      have HF6 := hid (bset hb2 (q := w.heap.size + 1 + 1) (k := 1) (by omega) (.slice (some ⟨gg, 0, none⟩) (zs.length + 1) cq))
      clear hsn hb2 hown2 hgrow hal2 hownZ hfar g2 t0 t1 s0 s1 HGE HG0e HG1e
      go_roundw
      case rel => exact ⟨i + 1, _, _, by go_num, by omega, HF1, HF2, HF3, HF4, HF5, HF6⟩
      case measure => simp [intOf]; omega
    · have c1 : (n : Int) ≤ (i : Int) := by omega
      have hin : i = rs.length := by have := HN.out; omega
      have hX : RowsX (w.heap.size + 3) wr.heap.size wr v rs xs := by have := HV.out; rw [hin, List.take_length] at this; exact this
      obtain ⟨a, c, rfl⟩ := kept_form hX
      rw [HN.out] at hX G2
      have HX := hid hX
      clear hin HV hX
      obtain ⟨v0, v1, _, _⟩ := cell2f G1.out
      obtain ⟨t0, t1, _, _⟩ := cell2f G2.out
      obtain ⟨_, _, s0, s1⟩ := cell2f G1.out
      go_wp2_with fail
      have gF := set2r G1.out (.int .i64 now) (.slice a n c)
      have bF := bset (bset HBW.out (q := w.heap.size + 1) (k := 0) (by omega) (.int .i64 now)) (q := w.heap.size + 1) (k := 1) (by omega) (.slice a n c)
      have xF := (HX.out.frame (w' := (wr.setCell ⟨w.heap.size + 1, 0, none⟩ (.int .i64 now)).setCell ⟨w.heap.size + 1, 1, none⟩ (.slice a n c)) (fun b h1 h2 => by rw [Below.heap_setCell _ _ _ _ (by dsimp only; omega), Below.heap_setCell _ _ _ _ (by dsimp only; omega)]) (by simp)).mono (base' := w.heap.size) (hi' := ((wr.setCell ⟨w.heap.size + 1, 0, none⟩ (.int .i64 now)).setCell ⟨w.heap.size + 1, 1, none⟩ (.slice a n c)).heap.size) (by omega) (by simp) (Nat.le_refl _)
      generalize (wr.setCell ⟨w.heap.size + 1, 0, none⟩ (.int .i64 now)).setCell ⟨w.heap.size + 1, 1, none⟩ (.slice a n c) = wf at *
      obtain ⟨z0, z1, _, _⟩ := cell2f gF
      exact bodyPost_ret (v := .agg #[.int .i64 now, .slice a n c]) (by simp [results, Tryz.results30, go_sem, z0, z1]) rfl ⟨a, c, xs, rfl, xF, bF⟩
end Go.Proofs.YtkdoigibpaempaaGreatDoor
namespace Go.Proofs.YtkdoigibpaempaaGreatDoor
open Go.RowKit Go.Maps
theorem keepset9 {w : World} {p q : Addr} {v u : Value} (h : w.cell? p = some v) (hne : p ≠ q) : (w.setCell q u).cell? p = some v := by
  rw [World.cell?_setCell_other _ _ _ _ (by first | exact hne | exact hne.symm)]; exact h
theorem own_set1 {w : World} {base g c n k : Nat} {t : TypeId} {xs : List Value} (h : w.ownsRow base t 5 (.slice (some ⟨g, 0, none⟩) n c) n xs) (x : Value) : (w.setCell ⟨g, k, none⟩ x).ownsRow base t 5 (.slice (some ⟨g, 0, none⟩) n c) n (xs.set k x) := by
  refine ⟨by rw [List.length_set]; exact h.1, ?_⟩
  rcases h.2 with ⟨q, _⟩ | ⟨g', c', cur, e, q1, q2, q3, q4, q5, q6⟩
  · cases q
  · cases e
    refine .inr ⟨g, c, _, rfl, q1, set_at q2, q3, q4, by simp; omega, ?_⟩
    rw [Array.toList_setIfInBounds, List.take_set, q6]
theorem own_kind {w : World} {base n : Nat} {t : TypeId} {v : Value} {xs : List Value} (h : w.ownsRow base t 5 v n xs) {g : Nat} (hg : v.ownBlock = some g) : ∃ cs, w.heap[g]? = some (.cells cs t (0, 0)) := by
  rcases h.2 with ⟨q, _⟩ | ⟨g', c', cur, e, q1, q2, _⟩
  · rw [q] at hg; cases hg
  · rw [e] at hg
    injection hg with hg
    subst hg
    exact ⟨cur, q2⟩
def elT (t : Int) (x : El) : El := (x.1, x.2.1, t, x.2.2.2)
def rwT (t : Int) (r : Rw) : Rw := (r.1, r.2.1, t, r.2.2.2.1, r.2.2.2.2)
theorem flat5_setT (t : Int) : ∀ (xs : List El) (j : Nat) (h : j < xs.length), (flat5 xs).set (j * 5 + 2) (.int .i64 t) = flat5 (xs.set j (elT t xs[j]))
  | [], j, h => by simp at h
  | x :: r, 0, h => by
    show (ev x ++ flat5 r).set 2 _ = ev (elT t x) ++ flat5 r
    rw [List.set_append_left _ _ (by simp [ev])]
    rfl
  | x :: r, j + 1, h => by
    have hr : j < r.length := by simpa using h
    have ih := flat5_setT t r j hr
    show (ev x ++ flat5 r).set _ _ = ev x ++ flat5 (r.set j (elT t (r[j]'hr)))
    rw [List.set_append_right _ _ (by simp [ev]; omega), ← ih]
    congr 2
    simp [ev]; omega
theorem RowsX.setTo {base hi : Nat} {w : World} {g n cap : Nat} {rs : List Rw} {xs : List El} (h : RowsX base hi w (.slice (some ⟨g, 0, none⟩) n cap) rs xs) {j : Nat} (hj : j < rs.length) (t : Int) :
    RowsX base hi (w.setCell ⟨g, j * 5 + 2, none⟩ (.int .i64 t)) (.slice (some ⟨g, 0, none⟩) n cap) (rs.set j (rwT t rs[j])) (xs.set j (elT t (xs[j]'(by rw [h.1]; exact hj)))) := by
  obtain ⟨h1, h2, h3, h4, c, cp, h5, h6⟩ := h
  have hn : n = rs.length := by
    rcases h2.2 with ⟨q, _⟩ | ⟨g', c', cur, e, _⟩
    · cases q
    · injection e with _ e _
  have hxj : j < xs.length := by omega
  subst hn
  refine ⟨by simp [h1], ?_, h3, by simpa using h4, c, cp, fun k hk => ?_, fun a b hab hb => h6 a b hab (by simpa using hb)⟩
  · rw [List.length_set, ← flat5_setT t xs j hxj]
    exact own_set1 h2 _
  · have hk' : k < rs.length := by simpa using hk
    obtain ⟨a1, a2, a3, a4, a5, a6, a7⟩ := h5 k hk'
    have hne : c k ≠ g := fun e => a6 (by rw [e]; rfl)
    have hp : ∀ r : Rw, r.2.2.2.2 = rs[k].2.2.2.2 → r.2.2.2.2.length ≤ cp k ∧ r.2.2.2.2.length ≤ 1099511627776 ∧ base ≤ c k ∧ c k < hi ∧ Value.ownBlock (.slice (some ⟨g, 0, none⟩) rs.length cap) ≠ some (c k) ∧ PtsOwn (w.setCell ⟨g, j * 5 + 2, none⟩ (.int .i64 t)) (c k) r.2.2.2.2 := by
      intro r hr
      rw [hr]
      exact ⟨a2, a3, a4, a5, a6, own_blk a7 (Below.heap_setCell _ _ _ _ (by dsimp only; omega)) (by simp; exact a7.1)⟩
    by_cases e : j = k
    · subst e
      have er : (rs.set j (rwT t rs[j]))[j]'hk = rwT t rs[j] := by simp
      rw [er]
      refine ⟨?_, hp _ rfl⟩
      have ex : xs[j] = elR rs[j] (c j) (cp j) := by rw [List.getElem?_eq_getElem hxj] at a1; injection a1
      rw [List.getElem?_set_self hxj, ex]
      rfl
    · have er : (rs.set j (rwT t rs[j]))[k]'hk = rs[k] := by rw [List.getElem_set_ne e]
      rw [er]
      exact ⟨by rw [List.getElem?_set_ne e]; exact a1, hp _ rfl⟩
def Off (p : Nat) (v : Value) (xs : List El) : Prop := v.ownBlock ≠ some p ∧ ∀ (j : Nat) (x : El), xs[j]? = some x → x.2.2.2.2.1 ≠ some (⟨p, 0, none⟩ : Addr)
theorem RowsX.but {base hi p : Nat} {w w' : World} {v : Value} {rs : List Rw} {xs : List El} (h : RowsX base hi w v rs xs) (ho : Off p v xs) (hb : ∀ c, c < w.heap.size → c ≠ p → w'.heap[c]? = w.heap[c]?) (hs : w.heap.size ≤ w'.heap.size) : RowsX base hi w' v rs xs := by
  obtain ⟨h1, h2, h3, h4, c, cp, h5, h6⟩ := h
  refine ⟨h1, own_frame h2 (fun g e => hb g (by have := h3 g e; omega) (fun q => ho.1 (by rw [← q]; exact e))), h3, by omega, c, cp, fun j hj => ?_, h6⟩
  obtain ⟨a1, a2, a3, a4, a5, a6, a7⟩ := h5 j hj
  refine ⟨a1, a2, a3, a4, a5, a6, own_blk a7 (hb _ (by omega) (fun q => ?_)) (by omega)⟩
  have := ho.2 j _ a1
  simp only [elR, ne_eq, Option.some.injEq, Addr.mk.injEq, and_true] at this
  exact this q
theorem Off.setTo {p : Nat} {v : Value} {xs : List El} (h : Off p v xs) {j : Nat} (hj : j < xs.length) (t : Int) : Off p v (xs.set j (elT t xs[j])) := by
  refine ⟨h.1, fun k x hx => ?_⟩
  by_cases e : j = k
  · subst e
    rw [List.getElem?_set_self hj] at hx
    injection hx with hx
    rw [← hx]
    show (xs[j]).2.2.2.2.1 ≠ _
    exact h.2 j xs[j] (List.getElem?_eq_getElem hj)
  · rw [List.getElem?_set_ne e] at hx
    exact h.2 k x hx
theorem Off.new {base hi p : Nat} {w : World} {v : Value} {rs : List Rw} {xs : List El} (h : RowsX base hi w v rs xs) (hp : p < base ∨ hi ≤ p) : Off p v xs := by
  obtain ⟨h1, h2, h3, h4, c, cp, h5, h6⟩ := h
  refine ⟨fun e => by have := h3 p e; have := (h2.lt p e).1; omega, fun j x hx => ?_⟩
  have hj : j < rs.length := by rw [← h1]; exact (List.getElem?_eq_some_iff.1 hx).1
  obtain ⟨a1, a2, a3, a4, a5, _⟩ := h5 j hj
  rw [a1] at hx
  injection hx with hx
  rw [← hx]
  simp only [elR, ne_eq, Option.some.injEq, Addr.mk.injEq, and_true]
  omega
theorem Off.snoc {p : Nat} {v : Value} {xs : List El} (h : Off p v xs) {r : Rw} {c cp g n cap : Nat} (hc : c ≠ p) (hg : g ≠ p) : Off p (.slice (some ⟨g, 0, none⟩) n cap) (xs ++ [elR r c cp]) := by
  refine ⟨by simp only [Value.ownBlock, ne_eq, Option.some.injEq]; exact hg, fun j x hx => ?_⟩
  rcases Nat.lt_or_ge j xs.length with hj | hj
  · rw [List.getElem?_append_left hj] at hx
    exact h.2 j x hx
  · rw [List.getElem?_append_right hj] at hx
    have : j - xs.length = 0 := by
      rcases Nat.eq_zero_or_pos (j - xs.length) with q | q
      · exact q
      · rw [List.getElem?_eq_none (by simp; omega)] at hx; cases hx
    rw [this] at hx
    simp at hx
    rw [← hx]
    simp only [elR, ne_eq, Option.some.injEq, Addr.mk.injEq, and_true]
    exact hc
def apb (now : Int) (rs : List Rw) (cs : List Ch) : Bool := (decide (now ≤ 1000000000) && decide (rs.length + bgn cs ≤ 300)) && (rowsb now rs && cgs cs)
def aprs (now : Int) (rs : List Rw) (cs : List Ch) : List Rw := if apb now rs cs = true then apl (now + 1) rs cs else rs
def apnow (now : Int) (rs : List Rw) (cs : List Ch) : Int := if apb now rs cs = true then now + 1 else now
def APR (w : World) (now : Int) (rs : List Rw) (cs : List Ch) (e : Ending) (w' : World) : Prop :=
  ∃ v xs, e = .returned (.tuple #[.agg #[.int .i64 (apnow now rs cs), v], .bool (apb now rs cs)]) ∧ RowsX w.heap.size w'.heap.size w' v (aprs now rs cs) xs ∧ Below w.heap.size w w'
end Go.Proofs.YtkdoigibpaempaaGreatDoor
