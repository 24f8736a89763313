/- Texts of stores, joined: Zi, Pe, Zah, Zw, Zaa, Zn, Zo, Zp, Zab. -/
import Derived.Test.YtnajddjalagmoaaGreatDoorC4
import Derived.Test.YtnajddjalagmoaaGreatDoorC5
namespace Go.Proofs.YtnajddjalagmoaaGreatDoor
open Go.RowKit
set_option linter.unusedSimpArgs false
set_option linter.unusedVariables false
set_option maxRecDepth 100000 in
set_option maxHeartbeats 4000000 in
theorem spec_copyStoreL (now : Int) (B D tc : Nat) (rs : List Rw) (ts : List Tx) (w : World) (hm : rs.length ≤ 1099511627776) (htm : ts.length ≤ 1099511627776) (hr : RwsS w B rs) (ht : TxsS w D ts) : Calls Tryz.prog 21 #[.agg #[.int .i64 now, .slice (some ⟨B, 0, none⟩) rs.length rs.length, .slice (some ⟨D, 0, none⟩) ts.length tc]] w fun e w' => ∃ a c ta tcc b1 u1 b2 u2, e = .returned (.agg #[.int .i64 now, .slice a rs.length c, .slice ta ts.length tcc]) ∧ (LC KR b1 u1 w' (.slice a rs.length c) rs ∧ ∃ px, LX KT 63 b2 u2 w' (.slice ta ts.length tcc) ts px) ∧ u1 ≤ b2 ∧ b2 ≤ u2 ∧ w.heap.size ≤ b1 ∧ w.heap.size ≤ b2 ∧ Below w.heap.size w w' := by
  obtain ⟨i0, hi0, hz0, hz1, hz2⟩ := info_parts Tryz.infoTx
  have HR := hid (fun (W : World) (hb : Below w.heap.size w W) => spec_copyRows now B rs W hm (hr.below hb))
  have HTS := hid ht
  clear hr ht
  unfold VR at HR
  generalize hnr : rs.length = nr at *
  have HNR := hid hnr
  obtain ⟨nt, hnt⟩ : ∃ nt, nt = ts.length := ⟨_, rfl⟩
  have HNT := hid hnt.symm
  rw [← hnt] at htm ⊢
  clear hnr hnt
  have hB : Below w.heap.size w ((w.alloc (.cells #[.int .i64 now, .slice (some ⟨B, 0, none⟩) nr nr, .slice (some ⟨D, 0, none⟩) nt tc] 38)).alloc (.cells #[.int .i64 0, .slice none 0 0, .slice none 0 0] 38)) := balloc (balloc (Below.refl _ _) _) _
  have g0 := old_alloc (o' := .cells #[.int .i64 0, .slice none 0 0, .slice none 0 0] 38) (new_alloc w w.heap.size (.cells #[.int .i64 now, .slice (some ⟨B, 0, none⟩) nr nr, .slice (some ⟨D, 0, none⟩) nt tc] 38) rfl)
  have g1 := new_alloc (w.alloc (.cells #[.int .i64 now, .slice (some ⟨B, 0, none⟩) nr nr, .slice (some ⟨D, 0, none⟩) nt tc] 38)) (w.heap.size + 1) (.cells #[.int .i64 0, .slice none 0 0, .slice none 0 0] 38) (by simp)
  have hWs : w.heap.size + 1 < ((w.alloc (.cells #[.int .i64 now, .slice (some ⟨B, 0, none⟩) nr nr, .slice (some ⟨D, 0, none⟩) nt tc] 38)).alloc (.cells #[.int .i64 0, .slice none 0 0, .slice none 0 0] 38)).heap.size := by simp
  go_enter Tryz.func21, Tryz.ntmps21
  go_upto_region 1 with fail
  generalize (w.alloc (.cells #[.int .i64 now, .slice (some ⟨B, 0, none⟩) nr nr, .slice (some ⟨D, 0, none⟩) nt tc] 38)).alloc (.cells #[.int .i64 0, .slice none 0 0, .slice none 0 0] 38) = W at *
  obtain ⟨⟨d0, d1, d2⟩, _⟩ := cellk3 g0
  go_wp2_with fail
  refine (HR.out _ hB).mono ?_
  rintro e y ⟨a, c, pr, rfl, hX, hy⟩
  replace g0 := keepheap2 hy g0
  replace g1 := keepheap2 hy g1
  replace hB := btrans hB hy
  have hyz := hy.size
  have HX := hid hX.lc
  clear hy hX HR d0 d1 d2
  go_upto_region 2 with fail
  have hal : Below y.heap.size y (y.alloc (.cells #[.int .i64 now, .slice a nr c, .slice none 0 0] 38)) := balloc (Below.refl _ _) _
  have g2 := new_alloc y y.heap.size (.cells #[.int .i64 now, .slice a nr c, .slice none 0 0] 38) rfl
  replace g0 := keepheap2 hal g0
  replace g1 := keepheap2 hal g1
  have HX1 := hid (HX.out.below hal)
  have HB1 := hid (btrans hB hal)
  have hyq : y.heap.size < (y.alloc (.cells #[.int .i64 now, .slice a nr c, .slice none 0 0] 38)).heap.size := by simp
  clear hal hB HX
  generalize y.alloc (.cells #[.int .i64 now, .slice a nr c, .slice none 0 0] 38) = Y0 at *
  generalize W.heap.size = Wz at *
  generalize y.heap.size = Q at *
  have HX0 := hid (LX.nil (K := KT) (t := 63) (base := Q + 1) (hi := Y0.heap.size) (own_nilT (w := Y0)) (fun g e => by cases e) (Nat.le_refl _))
  have hBz := HB1.out.size
  go_wp2_with fail
  go_loopw [4] (fun ti wr => ∃ i : Nat, ∃ v : Value, ∃ ps' : List (Tx × Value), ti = .int .i64 i ∧ i ≤ nt ∧ Hid (LX KT 63 (Q + 1) wr.heap.size wr v (ts.take i) ps') ∧ Hid (wr.heap[w.heap.size]? = some (.cells #[.int .i64 now, .slice (some ⟨B, 0, none⟩) nr nr, .slice (some ⟨D, 0, none⟩) nt tc] 38 (0, 0))) ∧ Hid (wr.heap[w.heap.size + 1]? = some (.cells #[.int .i64 0, .slice none 0 0, .slice none 0 0] 38 (0, 0))) ∧ Hid (wr.heap[Q]? = some (.cells #[.int .i64 now, .slice a nr c, v] 38 (0, 0))) ∧ Hid (LC KR Wz Q wr (.slice a nr c) rs) ∧ Hid (Q < wr.heap.size) ∧ Hid (Below w.heap.size w wr)) (fun ti _ => nt - (intOf ti).toNat)
  case atStart => exact ⟨0, _, [], rfl, Nat.zero_le _, HX0, hid g0, hid g1, hid g2, HX1, hid (by omega), HB1⟩
  case round =>
    clear HX0 g0 g1 g2 HX1 HB1 hBz
    obtain ⟨i, v, ps', rfl, hi, HV, G0, G1, G2, HXR, HS, HBW⟩ := hrel
    obtain ⟨⟨d0, d1, d2⟩, _⟩ := cellk3 G0.out
    have hws := HS.out
    by_cases hlt : i < nt
    · have c1 : (i : Int) < (nt : Int) := by omega
      have hir : i < ts.length := by rw [HNT.out]; exact hlt
      obtain ⟨ci, cpi, k9, ⟨k0, k1, k2⟩, k6, k7⟩ := (HTS.out.below HBW.out).2 i hir
      have HTK : Hid (ts.take (i + 1) = ts.take i ++ [ts[i]]) := hid (by rw [List.take_add_one, List.getElem?_eq_getElem hir]; rfl)
      have HIL : Hid ((ts.take i).length = i) := hid (by rw [List.length_take]; omega)
      obtain ⟨r, hr⟩ : ∃ r, r = ts[i] := ⟨_, rfl⟩
      rw [← hr] at k0 k1 k2 k6 k7 HTK
      clear hr
      obtain ⟨st, op, cs⟩ := r
      simp only at k0 k1 k2 k6 k7
      have hbx : Below wr.heap.size wr (wr.alloc (.cells #[.int .i64 st, .bool op, .slice (some ⟨ci, 0, none⟩) cs.length cpi] 63)) := balloc (Below.refl _ _) _
      have HC1 := hid (spec_copyChs ci cpi cs _ k6 (k7.below hbx))
      clear k7
      go_upto_region 6 with fail
      have gx := new_alloc wr wr.heap.size (.cells #[.int .i64 st, .bool op, .slice (some ⟨ci, 0, none⟩) cs.length cpi] 63) rfl
      have HV1 := hid (HV.out.below hbx)
      have HG0 := hid (keepheap2 hbx G0.out)
      have HG1 := hid (keepheap2 hbx G1.out)
      have HG2 := hid (keepheap2 hbx G2.out)
      have HXR1 := hid (HXR.out.below hbx)
      have HB1 := hid (btrans HBW.out hbx)
      have hs1 : wr.heap.size < (wr.alloc (.cells #[.int .i64 st, .bool op, .slice (some ⟨ci, 0, none⟩) cs.length cpi] 63)).heap.size := by simp
      clear k0 k1 k2 d0 d1 d2 hbx HV G0 G1 G2 HXR
      generalize wr.alloc (.cells #[.int .i64 st, .bool op, .slice (some ⟨ci, 0, none⟩) cs.length cpi] 63) = W1 at *
      generalize wr.heap.size = X at *
      obtain ⟨⟨x0, x1, x2⟩, _⟩ := cellk3 gx
      go_wp2_with fail
      refine HC1.out.mono ?_
      rintro e y ⟨sv, px, rfl, hXc, ⟨g, cp, rfl⟩, hy⟩
      have gy := keepheap2 hy gx
      have hys := hy.size
      have HV2 := hid (HV1.out.below hy)
      have HG0' := hid (keepheap2 hy HG0.out)
      have HG1' := hid (keepheap2 hy HG1.out)
      have HG2' := hid (keepheap2 hy HG2.out)
      have HXR2 := hid (HXR1.out.below hy)
      have HBy := hid (btrans HB1.out hy)
      have hwy := HBy.out.size
      have HO := hid hXc.lc
      clear hy hXc gx HC1 HV1 HG0 HG1 HG2 HXR1 HB1 x0 x1 x2
      obtain ⟨⟨x0, x1, x2⟩, y0, y1, y2⟩ := cellk3 gy
      go_upto_region 7 with fail
      have gq := setk3_2 gy (.slice (some ⟨g, 0, none⟩) cs.length cp)
      have hfar : ∀ b, b ≠ X → (y.setCell ⟨X, 2, none⟩ (.slice (some ⟨g, 0, none⟩) cs.length cp)).heap[b]? = y.heap[b]? := fun b hb => by rw [Below.heap_setCell _ _ _ _ (by dsimp only; omega)]
      have HV3 := hid (HV2.out.frame (w' := y.setCell ⟨X, 2, none⟩ (.slice (some ⟨g, 0, none⟩) cs.length cp)) (fun b h1 h2 => hfar b (by omega)) (by simp))
      have HG0 := hid ((hfar w.heap.size (by omega)).trans HG0'.out)
      have HG1 := hid ((hfar (w.heap.size + 1) (by omega)).trans HG1'.out)
      have g2 := (hfar Q (by omega)).trans HG2'.out
      have HXR3 := hid (HXR2.out.frame (w' := y.setCell ⟨X, 2, none⟩ (.slice (some ⟨g, 0, none⟩) cs.length cp)) (fun b h1 h2 => hfar b (by omega)) (by simp))
      have HB3 := hid (bset HBy.out (q := X) (k := 2) (by omega) (.slice (some ⟨g, 0, none⟩) cs.length cp))
      have HO3 := hid (HO.out.frame (w' := y.setCell ⟨X, 2, none⟩ (.slice (some ⟨g, 0, none⟩) cs.length cp)) (fun b h1 h2 => hfar b (by omega)) (by simp))
      have hs3 : (y.setCell ⟨X, 2, none⟩ (.slice (some ⟨g, 0, none⟩) cs.length cp)).heap.size = y.heap.size := by simp
      have hs3a := Nat.le_of_eq hs3
      have hs3b := Nat.le_of_eq hs3.symm
      clear hs3 hfar HV2 HG0' HG1' HG2' HXR2 HBy HO gy x0 x1 x2 y0 y1 y2
      generalize y.setCell ⟨X, 2, none⟩ (.slice (some ⟨g, 0, none⟩) cs.length cp) = Y at *
      generalize W1.heap.size = W1z at *
      generalize y.heap.size = yz at *
      obtain ⟨⟨x0, x1, x2⟩, _⟩ := cellk3 gq
      obtain ⟨⟨v0, v1, v2⟩, _⟩ := cellk3 g2
      have hownZ : Y.ownsRow (Q + 1) 63 3 v i (flatK KT ps') := by have := HV3.out.2.1; rw [HIL.out] at this; exact this
      have hal2 : Below Y.heap.size Y (Y.alloc (.cells #[.int .i64 st, .bool op, .slice (some ⟨g, 0, none⟩) cs.length cp] 63)) := balloc (Below.refl _ _) _
      have HGE := hid (keepheap2 hal2 g2)
      have hvb : v.ownBlock ≠ some Q := fun e => by have := (hownZ.lt _ e).1; omega
      clear gq g2
      go_wp2_with (at_builtin; (refine wpList_append_lies _ rfl (.tmp 27) (.tmp 29) 36 rfl (Q + 1) 63 i0 _ 3 40 Tryz.underlying36 hi0 hz0 hz1 hz2 rfl (by decide) v i (flatK KT ps') rfl (hownZ.alloc _) ⟨Y.heap.size, 0, none⟩ 1 1 [.int .i64 st, .bool op, .slice (some ⟨g, 0, none⟩) cs.length cp] rfl rfl (World.news_of_block (cs := #[.int .i64 st, .bool op, .slice (some ⟨g, 0, none⟩) cs.length cp]) (t := 63) (fr := (0, 0)) (heap_alloc_new Y _)) (by simp [Value.oneCell']) (by omega) (by unfold maxLen; omega) (by omega) (by simp; omega) (Y.heap.size + 1) (by simp) ?_; intro gg cq w2 hown2 hgrow hat hlt2; have g2 := (hgrow.block Q (lt_of_block HGE.out) (fun e => hvb e.symm)).trans HGE.out; obtain ⟨⟨t0, t1, t2⟩, s0, s1, s2⟩ := cellk3 g2))
      have hsn := LX.snoc (K := KT) (x := (st, op, cs)) (sv := .slice (some ⟨g, 0, none⟩) cs.length cp) (l := W1z) (u := yz) (g := gg) (cap := cq) (HV3.out.below hal2) (by omega) (by omega) (HO3.out.below hal2) (by rw [HIL.out]; exact hown2) hgrow (by simpa using hat) hlt2
      rw [HIL.out] at hsn
      have hb2 : Below w.heap.size w w2 := Below.grown (balloc HB3.out _) hgrow (by simp; omega) (fun k e => by have := (hownZ.lt k e).1; omega)
      have hw2 := hgrow.size
      have hbk : ∀ b, b ≤ Q → w2.heap[b]? = Y.heap[b]? := fun b hb => (hgrow.block b (by simp; omega) (fun e => by have := (hownZ.lt _ e.symm).1; omega)).trans (hal2.block b (by omega))
      have hfar : ∀ b, b ≠ Q → (w2.setCell ⟨Q, 2, none⟩ (.slice (some ⟨gg, 0, none⟩) (i + 1) cq)).heap[b]? = w2.heap[b]? := fun b hb => by rw [Below.heap_setCell _ _ _ _ (by dsimp only; omega)]
      have HF1 := hid ((hsn.frame (w' := w2.setCell ⟨Q, 2, none⟩ (.slice (some ⟨gg, 0, none⟩) (i + 1) cq)) (fun b h1 h2 => hfar b (by omega)) (by simp)).mono (hi' := (w2.setCell ⟨Q, 2, none⟩ (.slice (some ⟨gg, 0, none⟩) (i + 1) cq)).heap.size) (Nat.le_refl _) (by simp) (Nat.le_refl _))
      rw [← HTK.out] at HF1
      have HF2 := hid (((hfar w.heap.size (by omega)).trans (hbk _ (by omega))).trans HG0.out)
      have HF3 := hid (((hfar (w.heap.size + 1) (by omega)).trans (hbk _ (by omega))).trans HG1.out)
      have HF4 : Hid ((w2.setCell ⟨Q, 2, none⟩ (.slice (some ⟨gg, 0, none⟩) (i + 1) cq)).heap[Q]? = some (.cells #[.int .i64 now, .slice a nr c, .slice (some ⟨gg, 0, none⟩) (i + 1) cq] 38 (0, 0))) := hid (setk3_2 g2 _)
      have HF7 := hid (HXR3.out.frame (w' := w2.setCell ⟨Q, 2, none⟩ (.slice (some ⟨gg, 0, none⟩) (i + 1) cq)) (fun b h1 h2 => (hfar b (by omega)).trans (hbk b (by omega))) (by simp at hw2 ⊢; omega))
      have HF5 : Hid (Q < (w2.setCell ⟨Q, 2, none⟩ (.slice (some ⟨gg, 0, none⟩) (i + 1) cq)).heap.size) := hid (by simp at hw2 ⊢; omega)
      have HF6 := hid (bset hb2 (q := Q) (k := 2) (by omega) (.slice (some ⟨gg, 0, none⟩) (i + 1) cq))
      clear hsn hb2 hown2 hgrow hal2 hownZ hfar hbk g2 t0 t1 t2 s0 s1 s2 HGE
      go_roundw
      case rel => exact ⟨i + 1, _, _, by go_num, by omega, HF1, HF2, HF3, HF4, HF7, HF5, HF6⟩
      case measure => simp [intOf]; omega
    · have c1 : (nt : Int) ≤ (i : Int) := by omega
      have hin : i = ts.length := by have := HNT.out; omega
      have hX : LX KT 63 (Q + 1) wr.heap.size wr v ts ps' := by have := HV.out; rw [hin, List.take_length] at this; exact this
      obtain ⟨ta, tcc, rfl⟩ := hX.form
      rw [HNT.out] at hX G2
      have HX := hid hX
      clear hin HV hX
      obtain ⟨⟨v0, v1, v2⟩, s0, s1, s2⟩ := cellk3 G1.out
      obtain ⟨⟨t0, t1, t2⟩, _⟩ := cellk3 G2.out
      go_wp2_with fail
      have gF := setk3 G1.out (.int .i64 now) (.slice a nr c) (.slice ta nt tcc)
      have bF := bset (bset (bset HBW.out (q := w.heap.size + 1) (k := 0) (by omega) (.int .i64 now)) (q := w.heap.size + 1) (k := 1) (by omega) (.slice a nr c)) (q := w.heap.size + 1) (k := 2) (by omega) (.slice ta nt tcc)
      have hfar : ∀ b, b ≠ w.heap.size + 1 → (((wr.setCell ⟨w.heap.size + 1, 0, none⟩ (.int .i64 now)).setCell ⟨w.heap.size + 1, 1, none⟩ (.slice a nr c)).setCell ⟨w.heap.size + 1, 2, none⟩ (.slice ta nt tcc)).heap[b]? = wr.heap[b]? := fun b hb => by rw [Below.heap_setCell _ _ _ _ (by dsimp only; omega), Below.heap_setCell _ _ _ _ (by dsimp only; omega), Below.heap_setCell _ _ _ _ (by dsimp only; omega)]
      have x1 := HXR.out.frame (w' := ((wr.setCell ⟨w.heap.size + 1, 0, none⟩ (.int .i64 now)).setCell ⟨w.heap.size + 1, 1, none⟩ (.slice a nr c)).setCell ⟨w.heap.size + 1, 2, none⟩ (.slice ta nt tcc)) (fun b h1 h2 => hfar b (by omega)) (by simp)
      have x2 := (HX.out.frame (w' := ((wr.setCell ⟨w.heap.size + 1, 0, none⟩ (.int .i64 now)).setCell ⟨w.heap.size + 1, 1, none⟩ (.slice a nr c)).setCell ⟨w.heap.size + 1, 2, none⟩ (.slice ta nt tcc)) (fun b h1 h2 => hfar b (by omega)) (by simp))
      generalize ((wr.setCell ⟨w.heap.size + 1, 0, none⟩ (.int .i64 now)).setCell ⟨w.heap.size + 1, 1, none⟩ (.slice a nr c)).setCell ⟨w.heap.size + 1, 2, none⟩ (.slice ta nt tcc) = wf at *
      obtain ⟨⟨z0, z1, z2⟩, _⟩ := cellk3 gF
      exact bodyPost_ret (v := .agg #[.int .i64 now, .slice a nr c, .slice ta nt tcc]) (by simp [results, Tryz.results21, go_sem, z0, z1, z2]) rfl ⟨a, c, ta, tcc, Wz, Q, Q + 1, wr.heap.size, rfl, ⟨x1, _, x2⟩, by omega, by omega, by omega, by omega, bF⟩
end Go.Proofs.YtnajddjalagmoaaGreatDoor
namespace Go.Proofs.YtnajddjalagmoaaGreatDoor
open Go.RowKit
set_option linter.unusedSimpArgs false
set_option linter.unusedVariables false
/-- A store and a number that the specification answers. -/
def SSN (w : World) (now : Int) (rs : List Rw) (ts : List Tx) (n : Int) (e : Ending) (w' : World) : Prop :=
  ∃ a c ta tcc, e = .returned (.tuple #[.agg #[.int .i64 now, .slice a rs.length c, .slice ta ts.length tcc], .int .i64 n]) ∧ Rws (fun _ => True) w' a rs ∧ Txs (fun _ => True) 1099511627776 w' ta ts ∧ Below w.heap.size w w'
theorem ssn_mk {w w' : World} {now n n' : Int} {rs : List Rw} {ts ts' : List Tx} {a ta : Option Addr} {c tcc nr nt b1 u1 b2 u2 : Nat} (e1 : ts = ts') (e2 : n = n') (h1 : rs.length = nr) (h2 : ts'.length = nt) (x1 : LC KR b1 u1 w' (.slice a nr c) rs) (x2 : LC KT b2 u2 w' (.slice ta nt tcc) ts') (hl : txL ts') (hb : Below w.heap.size w w') : SSN w now rs ts n (.returned (.tuple #[.agg #[.int .i64 now, .slice a nr c, .slice ta nt tcc], .int .i64 n'])) w' := by
  subst e1 e2 h1 h2
  exact ⟨a, c, ta, tcc, rfl, x1.rws, Txs.any (x2.txs hl), hb⟩
/-- A transaction ended in a list in memory of its own. -/
theorem LC.rb {base hi g cap m : Nat} {w : World} {ts : List Tx} {t : TypeId} (h : LC KT base hi w (.slice (some ⟨g, 0, none⟩) ts.length cap) ts) (hm : m < ts.length) : LC KT base (w.heap.size + 1) (((w.setCell ⟨g, m * 3 + 1, none⟩ (.bool false)).alloc (.cells #[] t)).setCell ⟨g, m * 3 + 2, none⟩ (.slice (some ⟨w.heap.size, 0, none⟩) 0 0)) (.slice (some ⟨g, 0, none⟩) ts.length cap) (ts.set m (ts[m].1, false, [])) := by
  obtain ⟨h0, ⟨_, h⟩ | ⟨g2, cap2, ss, lo, up, h1, h2, h3, h4, h5, h6, h7⟩⟩ := h
  · cases h
  · cases h1
    have ht : ∀ k, k < ts.length * 3 → ∃ u, w.cell? ⟨g, k, none⟩ = some u := fun k hk => by
      obtain ⟨c0, _⟩ := h5 k hk
      obtain ⟨u0, hu0⟩ := Option.isSome_iff_exists.1 c0
      exact ⟨u0, by simpa using hu0⟩
    have hal : Below (w.setCell ⟨g, m * 3 + 1, none⟩ (.bool false)).heap.size (w.setCell ⟨g, m * 3 + 1, none⟩ (.bool false)) ((w.setCell ⟨g, m * 3 + 1, none⟩ (.bool false)).alloc (.cells #[] t)) := balloc (Below.refl _ _) _
    have hs1 : (w.setCell ⟨g, m * 3 + 1, none⟩ (.bool false)).heap.size = w.heap.size := by simp
    have hbk : ∀ c, c < w.heap.size → ((w.setCell ⟨g, m * 3 + 1, none⟩ (.bool false)).alloc (.cells #[] t)).heap[c]? = (w.setCell ⟨g, m * 3 + 1, none⟩ (.bool false)).heap[c]? := fun c hc => hal.block c (by omega)
    have hs2 : ((w.setCell ⟨g, m * 3 + 1, none⟩ (.bool false)).alloc (.cells #[] t)).heap.size = w.heap.size + 1 := by simp
    have gN : ((w.setCell ⟨g, m * 3 + 1, none⟩ (.bool false)).alloc (.cells #[] t)).heap[w.heap.size]? = some (.cells #[] t (0, 0)) := new_alloc _ _ _ hs1.symm
    have hcA : ∀ k, ((w.setCell ⟨g, m * 3 + 1, none⟩ (.bool false)).alloc (.cells #[] t)).cell? ⟨g, k, none⟩ = (w.setCell ⟨g, m * 3 + 1, none⟩ (.bool false)).cell? ⟨g, k, none⟩ := fun k => World.cell?_of_block (hbk g (by omega))
    refine ⟨by simp, .inr ⟨g, cap, fun j => if j = m then .slice (some ⟨w.heap.size, 0, none⟩) 0 0 else ss j, fun j => if j = m then w.heap.size else lo j, fun j => if j = m then w.heap.size + 1 else up j, by rw [List.length_set], by rw [List.length_set]; exact h2, h3, by omega, ?_, fun j hj => ?_, fun i j hij hi' hj => ?_⟩⟩
    · rw [List.length_set]
      refine there_set (w := (w.setCell ⟨g, m * 3 + 1, none⟩ (.bool false)).alloc (.cells #[] t)) ?_ _
      exact there_below (there_set h5 _) (by omega) hal
    · rw [List.length_set] at hj
      obtain ⟨a1, a2, a3, a4⟩ := h6 j hj
      by_cases e : j = m
      · subst e
        simp only [if_true]
        refine ⟨?_, by omega, by omega, by omega⟩
        simp only [List.getElem_set_self]
        obtain ⟨u1, q1⟩ := ht (j * 3 + 1) (by omega)
        obtain ⟨u2, q2⟩ := ht (j * 3 + 2) (by omega)
        have q0 := a1.1 0 (by decide)
        refine ⟨fun t' ht' => ?_, ⟨by simp, .inr ⟨w.heap.size, 0, fun _ => .bool false, fun _ => 0, fun _ => 0, rfl, Nat.le_refl _, Nat.le_refl _, by omega, fun k hk => by simp at hk, fun k hk => by simp at hk, fun i k _ hi' _ => by simp at hi'⟩⟩⟩
        have ht3 : t' < 3 := ht'
        match t', ht3 with
        | 0, _ =>
          rw [World.cell?_setCell_other _ _ _ _ (by intro q; injection q; simp only [KT] at *; omega), hcA, World.cell?_setCell_other _ _ _ _ (by intro q; injection q; simp only [KT] at *; omega)]
          exact q0
        | 1, _ =>
          rw [World.cell?_setCell_other _ _ _ _ (by intro q; injection q; simp only [KT] at *; omega), hcA]
          exact World.cell?_setCell_same _ _ _ q1
        | 2, _ =>
          refine World.cell?_setCell_same (u := u2) _ _ _ ?_
          rw [hcA, World.cell?_setCell_other _ _ _ _ (by intro q; injection q; omega)]
          exact q2
      · simp only [if_neg e]
        rw [List.getElem_set_ne (by omega)]
        have hne : j * 3 + 3 ≤ m * 3 ∨ m * 3 + 3 ≤ j * 3 := by omega
        have b1 := a1.set a4 (k := m * 3 + 1) (by show m * 3 + 1 < j * 3 ∨ j * 3 + 3 ≤ m * 3 + 1; omega) (.bool false)
        have b2 := b1.blk (w' := (w.setCell ⟨g, m * 3 + 1, none⟩ (.bool false)).alloc (.cells #[] t)) (hbk g (by omega)) (fun c _ c2 => hbk c (by omega)) (by omega)
        exact ⟨b2.set a4 (k := m * 3 + 2) (by show m * 3 + 2 < j * 3 ∨ j * 3 + 3 ≤ m * 3 + 2; omega) _, a2, by omega, a4⟩
    · rw [List.length_set] at hi' hj
      have q1 := (h6 i hi').2.2.1
      have q2 := (h6 j hj).2.2.1
      have q3 := h7 i j hij hi' hj
      by_cases e1 : i = m
      · by_cases e2 : j = m
        · omega
        · simp only [if_pos e1, if_neg e2]; omega
      · by_cases e2 : j = m
        · simp only [if_neg e1, if_pos e2]; omega
        · simp only [if_neg e1, if_neg e2]; exact q3
end Go.Proofs.YtnajddjalagmoaaGreatDoor
namespace Go.Proofs.YtnajddjalagmoaaGreatDoor
open Go.RowKit
set_option linter.unusedSimpArgs false
set_option linter.unusedVariables false
theorem ssn_mk2 {w w' : World} {now n n' : Int} {rs : List Rw} {ts ts' : List Tx} {a ta : Option Addr} {c tcc nr nt b1 u1 : Nat} (e1 : ts = ts') (e2 : n = n') (h1 : rs.length = nr) (h2 : ts'.length = nt) (x1 : LC KR b1 u1 w' (.slice a nr c) rs) (x2 : Txs (fun _ => True) 1099511627776 w' ta ts') (hb : Below w.heap.size w w') : SSN w now rs ts n (.returned (.tuple #[.agg #[.int .i64 now, .slice a nr c, .slice ta nt tcc], .int .i64 n'])) w' := by
  subst e1 e2 h1 h2
  exact ⟨a, c, ta, tcc, rfl, x1.rws, x2, hb⟩
theorem Chs.moved {N : Nat → Prop} {M g : Nat} {w w' : World} {xs : List Ch} (h : Chs N M w (some ⟨g, 0, none⟩) xs) (hg : w'.heap[g]? = w.heap[g]?) (hb : ∀ c, N c → w'.heap[c]? = w.heap[c]?) (hs : w.heap.size ≤ w'.heap.size) : Chs N M w' (some ⟨g, 0, none⟩) xs := by
  rcases h with h | ⟨b, o, e, hbs, h⟩
  · exact .inl h
  · cases e
    exact .inr ⟨g, 0, rfl, by omega, fun j hj => (h j hj).blk (fun i hi => World.cell?_of_block hg) hb hs⟩
theorem LC.thr {α : Type} {K : Kd α} {base hi g n cap : Nat} {w : World} {xs : List α} (h : LC K base hi w (.slice (some ⟨g, 0, none⟩) n cap) xs) : w.there g 0 (xs.length * K.sz) ∧ base ≤ g ∧ g < hi := by
  obtain ⟨_, ⟨_, q⟩ | ⟨g2, cp, ss, lo, up, e, h1, h2, h3, h4, h5, h6⟩⟩ := h
  · cases q
  · cases e; exact ⟨h4, h2, h3⟩
/-- A list of transactions in which the changes of one are others. -/
theorem LC.txput {base hi g cap m g' c' : Nat} {w w' : World} {ts : List Tx} {cs2 : List Ch} (h : LC KT base hi w (.slice (some ⟨g, 0, none⟩) ts.length cap) ts) (hm : m < ts.length) (hl : txL ts) (hs : w.heap.size ≤ w'.heap.size) (hfr : ∀ b, base ≤ b → b < hi → b ≠ g → w'.heap[b]? = w.heap[b]?) (hcell : ∀ k, k ≠ m * 3 + 2 → w'.cell? ⟨g, k, none⟩ = w.cell? ⟨g, k, none⟩) (hnew : w'.cell? ⟨g, m * 3 + 2, none⟩ = some (.slice (some ⟨g', 0, none⟩) cs2.length c')) (hc1 : cs2.length ≤ c') (hc2 : cs2.length ≤ 1099511627776) (hch : Chs (fun _ => True) 1099511627776 w' (some ⟨g', 0, none⟩) cs2) : Txs (fun _ => True) 1099511627776 w' (some ⟨g, 0, none⟩) (ts.set m (ts[m].1, ts[m].2.1, cs2)) := by
  obtain ⟨h0, ⟨_, q⟩ | ⟨g2, cp, ss, lo, up, e, h1, h2, h3, h4, h5, h6⟩⟩ := h
  · cases q
  · cases e
    refine .inr ⟨g, 0, rfl, by omega, fun j hj => ?_⟩
    rw [List.length_set] at hj
    obtain ⟨⟨b1, b2⟩, a2, a3, a4⟩ := h5 j hj
    have k0 := b1 0 (by decide)
    have k1 := b1 1 (by decide)
    have k2 := b1 2 (by decide)
    rw [Nat.zero_add]
    by_cases e : j = m
    · subst e
      simp only [List.getElem_set_self]
      simp only [KT] at k0 k1
      exact ⟨some ⟨g', 0, none⟩, c', (hcell (j * 3) (by omega)).trans k0, (hcell (j * 3 + 1) (by omega)).trans k1, hnew, hc1, hc2, hch, fun _ _ _ => trivial⟩
    · rw [List.getElem_set_ne (by omega)]
      have b3 : LC KC (lo j) (up j) w' (ss j) ts[j].2.2 := LC.frame b2 (fun c q1 q2 => hfr c (by omega) (by omega) (by omega)) hs
      obtain ⟨a', cap', e', f1, f2⟩ := LC.form b3
      simp only [KT, e'] at k0 k1 k2
      rw [e'] at b3
      exact ⟨a', cap', (hcell (j * 3) (by omega)).trans k0, (hcell (j * 3 + 1) (by omega)).trans k1, (hcell (j * 3 + 2) (by omega)).trans k2, f1, hl j hj, (LC.chs b3).imp (fun _ _ => trivial), fun _ _ _ => trivial⟩
theorem LC.at3 {base hi g cap m : Nat} {w : World} {ts : List Tx} (h : LC KT base hi w (.slice (some ⟨g, 0, none⟩) ts.length cap) ts) (hm : m < ts.length) : ∃ ca cc lo up, w.cell? ⟨g, m * 3 + 2, none⟩ = some (.slice ca ts[m].2.2.length cc) ∧ Chs (fun c => lo ≤ c ∧ c < up) 1099511627776 w ca ts[m].2.2 ∧ base ≤ lo ∧ up ≤ hi ∧ (g < lo ∨ up ≤ g) := by
  obtain ⟨h0, ⟨_, q⟩ | ⟨g2, cp, ss, lo, up, e, h1, h2, h3, h4, h5, h6⟩⟩ := h
  · cases q
  · cases e
    obtain ⟨⟨b1, b2⟩, a2, a3, a4⟩ := h5 m hm
    have k2 := b1 2 (by decide)
    obtain ⟨a', cap', e', f1, f2⟩ := LC.form b2
    simp only [KT, e'] at k2
    rw [e'] at b2
    exact ⟨a', cap', lo m, up m, k2, LC.chs b2, a2, a3, a4⟩
theorem putC_len (cs : List Ch) (x : Ch) : (putC cs x).length ≤ cs.length + 1 := by
  unfold putC
  split
  · rw [List.length_set]; omega
  · simp; omega
end Go.Proofs.YtnajddjalagmoaaGreatDoor
namespace Go.Proofs.YtnajddjalagmoaaGreatDoor
open Go.RowKit
set_option linter.unusedSimpArgs false
set_option linter.unusedVariables false
/-- A transaction whose changes are a list as the call makes it. -/
def KX : Kd Tx where
  sz := 3
  vals := fun x v => [.int .i64 x.1, .bool x.2.1, v]
  sub := fun lo up w v x => (∃ g c, v = .slice (some ⟨g, 0, none⟩) x.2.2.length c) ∧ ∃ ps, LX KC 66 lo up w v x.2.2 ps
  len := fun _ _ => rfl
  one := by
    rintro lo up w v x ⟨⟨g, c, rfl⟩, _⟩ u hu
    simp at hu
    rcases hu with rfl | rfl | rfl <;> rfl
  frame := fun h hb hs => ⟨h.1, h.2.choose, h.2.choose_spec.frame hb hs⟩
  top := fun h => h.2.choose_spec.2.2.2.1
theorem LX.kt {t : TypeId} {base hi : Nat} {w : World} {v : Value} {xs : List Tx} {ps : List (Tx × Value)} (h : LX KX t base hi w v xs ps) : LX KT t base hi w v xs ps := by
  obtain ⟨h1, h2, h3, h4, lo, up, h5, h6⟩ := h
  refine ⟨h1, h2, h3, h4, lo, up, fun j hj => ?_, h6⟩
  obtain ⟨⟨a0, pq, a1⟩, a2, a3, a4⟩ := h5 j hj
  exact ⟨a1.lc, a2, a3, a4⟩
set_option maxRecDepth 100000 in
set_option maxHeartbeats 1000000 in
theorem txY_copied (st : Int) (op : Bool) (cs : List Ch) (b cap : Nat) (w : World) (hm : cs.length ≤ 1099511627776) (hbs : b < w.heap.size) (h : ChsS w b cs) : Calls Tryz.prog 86 #[.agg #[.int .i64 st, .bool op, .slice (some ⟨b, 0, none⟩) cs.length cap]] w fun e w' => ∃ sv lo up, e = .returned (.agg #[.int .i64 st, .bool op, sv]) ∧ KX.sub lo up w' sv (st, op, cs) ∧ w.heap.size ≤ lo ∧ Below w.heap.size w w' := by
  have hB : Below w.heap.size w ((w.alloc (.cells #[.int .i64 st, .bool op, .slice (some ⟨b, 0, none⟩) cs.length cap] 63)).alloc (.cells #[.int .i64 0, .bool false, .slice none 0 0] 63)) := balloc (balloc (Below.refl _ _) _) _
  have HC := hid (kept_ch b cap cs _ hm (h.below hB))
  clear h
  have g0 := old_alloc (o' := .cells #[.int .i64 0, .bool false, .slice none 0 0] 63) (new_alloc w w.heap.size (.cells #[.int .i64 st, .bool op, .slice (some ⟨b, 0, none⟩) cs.length cap] 63) rfl)
  have g1 := new_alloc (w.alloc (.cells #[.int .i64 st, .bool op, .slice (some ⟨b, 0, none⟩) cs.length cap] 63)) (w.heap.size + 1) (.cells #[.int .i64 0, .bool false, .slice none 0 0] 63) (by simp)
  go_enter Tryz.func86, Tryz.ntmps86
  go_upto_region 1 with fail
  have hWz : ((w.alloc (.cells #[.int .i64 st, .bool op, .slice (some ⟨b, 0, none⟩) cs.length cap] 63)).alloc (.cells #[.int .i64 0, .bool false, .slice none 0 0] 63)).heap.size = w.heap.size + 2 := by simp
  generalize (w.alloc (.cells #[.int .i64 st, .bool op, .slice (some ⟨b, 0, none⟩) cs.length cap] 63)).alloc (.cells #[.int .i64 0, .bool false, .slice none 0 0] 63) = W at *
  obtain ⟨⟨x0, x1, x2⟩, _⟩ := cellk3 g0
  go_wp2_with fail
  refine HC.out.mono ?_
  rintro e y ⟨sv, pv, rfl, hX, hsv, hy⟩
  have hlc : KX.sub _ _ y sv (st, op, cs) := ⟨hsv, pv, hX⟩
  have hgs := hB.size
  have hWs := lt_of_block g1
  replace g0 := keepheap2 hy g0
  replace g1 := keepheap2 hy g1
  have HB := hid (btrans hB hy)
  have hyz := hy.size
  have HO := hid hlc
  clear hB hy hX hlc HC x0 x1 x2
  obtain ⟨⟨x0, x1, x2⟩, y0, y1, y2⟩ := cellk3 g0
  obtain ⟨⟨v0, v1, v2⟩, u0, u1, u2⟩ := cellk3 g1
  obtain ⟨ga, gc, hsv2⟩ := hsv
  obtain ⟨sv', hsv3⟩ : ∃ s, s = sv := ⟨_, rfl⟩
  rw [hsv2]
  go_wp2_with fail
  rw [← hsv2]
  have gF := setk3 (set_far (q := w.heap.size) (k := 2) (u := sv) g1 (by omega)) (.int .i64 st) (.bool op) (sv)
  have bF := (bset (bset (bset (bset HB.out (q := w.heap.size) (k := 2) (Nat.le_refl _) (sv)) (q := w.heap.size + 1) (k := 0) (by omega) (.int .i64 st)) (q := w.heap.size + 1) (k := 1) (by omega) (.bool op)) (q := w.heap.size + 1) (k := 2) (by omega) (sv))
  have oF := KX.frame (w' := ((((y.setCell ⟨w.heap.size, 2, none⟩ (sv)).setCell ⟨w.heap.size + 1, 0, none⟩ (.int .i64 st)).setCell ⟨w.heap.size + 1, 1, none⟩ (.bool op)).setCell ⟨w.heap.size + 1, 2, none⟩ (sv))) HO.out (fun c c1 c2 => (by rw [Below.heap_setCell _ _ _ _ (by dsimp only; omega), Below.heap_setCell _ _ _ _ (by dsimp only; omega), Below.heap_setCell _ _ _ _ (by dsimp only; omega), Below.heap_setCell _ _ _ _ (by dsimp only; omega)])) (by simp only [World.size_setCell]; omega)
  have hwz : ((((y.setCell ⟨w.heap.size, 2, none⟩ (sv)).setCell ⟨w.heap.size + 1, 0, none⟩ (.int .i64 st)).setCell ⟨w.heap.size + 1, 1, none⟩ (.bool op)).setCell ⟨w.heap.size + 1, 2, none⟩ (sv)).heap.size = y.heap.size := by simp only [World.size_setCell]
  generalize ((((y.setCell ⟨w.heap.size, 2, none⟩ (sv)).setCell ⟨w.heap.size + 1, 0, none⟩ (.int .i64 st)).setCell ⟨w.heap.size + 1, 1, none⟩ (.bool op)).setCell ⟨w.heap.size + 1, 2, none⟩ (sv)) = wf at *
  obtain ⟨⟨z0, z1, z2⟩, _⟩ := cellk3 gF
  exact bodyPost_ret (v := .agg #[.int .i64 st, .bool op, sv]) (by simp [results, Tryz.results86, go_sem, z0, z1, z2]) rfl ⟨sv, _, _, rfl, oF, by omega, bF⟩
set_option maxRecDepth 100000 in
set_option maxHeartbeats 1000000 in
theorem txY_clo (st : Int) (op : Bool) (cs : List Ch) (b cap : Nat) (w : World) (hm : cs.length ≤ 1099511627776) (hbs : b < w.heap.size) (h : ChsS w b cs) : Calls Tryz.prog 85 #[.agg #[.int .i64 st, .bool op, .slice (some ⟨b, 0, none⟩) cs.length cap]] w fun e w' => ∃ sv lo up, e = .returned (.tuple #[.agg #[.int .i64 st, .bool op, sv], .bool true]) ∧ KX.sub lo up w' sv (st, op, cs) ∧ w.heap.size ≤ lo ∧ Below w.heap.size w w' := by
  have hB : Below w.heap.size w ((w.alloc (.cells #[.int .i64 st, .bool op, .slice (some ⟨b, 0, none⟩) cs.length cap] 63)).alloc (.cells #[.int .i64 0, .bool false, .slice none 0 0] 63)) := balloc (balloc (Below.refl _ _) _) _
  have HC := hid (txY_copied st op cs b cap _ hm (Nat.lt_of_lt_of_le hbs hB.size) (h.below hB))
  clear h
  have g0 := old_alloc (o' := .cells #[.int .i64 0, .bool false, .slice none 0 0] 63) (new_alloc w w.heap.size (.cells #[.int .i64 st, .bool op, .slice (some ⟨b, 0, none⟩) cs.length cap] 63) rfl)
  have g1 := new_alloc (w.alloc (.cells #[.int .i64 st, .bool op, .slice (some ⟨b, 0, none⟩) cs.length cap] 63)) (w.heap.size + 1) (.cells #[.int .i64 0, .bool false, .slice none 0 0] 63) (by simp)
  go_enter Tryz.func85, Tryz.ntmps85
  go_upto_region 1 with fail
  have hWz : ((w.alloc (.cells #[.int .i64 st, .bool op, .slice (some ⟨b, 0, none⟩) cs.length cap] 63)).alloc (.cells #[.int .i64 0, .bool false, .slice none 0 0] 63)).heap.size = w.heap.size + 2 := by simp
  generalize (w.alloc (.cells #[.int .i64 st, .bool op, .slice (some ⟨b, 0, none⟩) cs.length cap] 63)).alloc (.cells #[.int .i64 0, .bool false, .slice none 0 0] 63) = W at *
  obtain ⟨⟨x0, x1, x2⟩, _⟩ := cellk3 g0
  go_wp2_with fail
  refine HC.out.mono ?_
  rintro e y ⟨sv, lo, up, rfl, hsub, hlo, hy⟩
  have hyz := hy.size
  replace g1 := keepheap2 hy g1
  have HB := hid (btrans hB hy)
  have HO := hid hsub
  have hone := KX.one hsub sv (by simp [KX])
  clear hB hy hsub HC g0 x0 x1 x2
  obtain ⟨⟨v0, v1, v2⟩, u0, u1, u2⟩ := cellk3 g1
  obtain ⟨sa, sn, sc, hsv⟩ : ∃ a n c, sv = .slice a n c := by obtain ⟨⟨g, c, e⟩, _⟩ := HO.out; exact ⟨_, _, _, e⟩
  have HSV := hid hsv.symm
  subst hsv
  go_wp2_with fail
  have gF := setk3 g1 (.int .i64 st) (.bool op) (.slice sa sn sc)
  have bF := (bset (bset (bset HB.out (q := w.heap.size + 1) (k := 0) (by omega) (.int .i64 st)) (q := w.heap.size + 1) (k := 1) (by omega) (.bool op)) (q := w.heap.size + 1) (k := 2) (by omega) (.slice sa sn sc))
  have oF := KX.frame (w' := (((y.setCell ⟨w.heap.size + 1, 0, none⟩ (.int .i64 st)).setCell ⟨w.heap.size + 1, 1, none⟩ (.bool op)).setCell ⟨w.heap.size + 1, 2, none⟩ (.slice sa sn sc))) HO.out (fun c c1 c2 => by rw [Below.heap_setCell _ _ _ _ (by dsimp only; omega), Below.heap_setCell _ _ _ _ (by dsimp only; omega), Below.heap_setCell _ _ _ _ (by dsimp only; omega)]) (by simp only [World.size_setCell]; omega)
  generalize (((y.setCell ⟨w.heap.size + 1, 0, none⟩ (.int .i64 st)).setCell ⟨w.heap.size + 1, 1, none⟩ (.bool op)).setCell ⟨w.heap.size + 1, 2, none⟩ (.slice sa sn sc)) = wf at *
  obtain ⟨⟨z0, z1, z2⟩, _⟩ := cellk3 gF
  exact bodyPost_ret (v := .tuple #[.agg #[.int .i64 st, .bool op, .slice sa sn sc], .bool true]) (by simp [results, Tryz.results85, go_sem, z0, z1, z2]) rfl ⟨_, lo, up, rfl, oF, by omega, bF⟩
set_option maxRecDepth 100000 in
set_option maxHeartbeats 2000000 in
theorem kept_txY (B cap : Nat) (xs : List Tx) (w : World) (hm : xs.length ≤ 1099511627776) (h : TxsS w B xs) : Calls Tryz.prog 84 #[.slice (some ⟨B, 0, none⟩) xs.length cap, .func (.func 85) #[] #[]] w fun e w' => ∃ v ps, e = .returned v ∧ LX KX 63 w.heap.size w'.heap.size w' v xs ps ∧ (∃ g c, v = .slice (some ⟨g, 0, none⟩) xs.length c) ∧ Below w.heap.size w w' := by
  obtain ⟨i0, hi0, hz0, hz1, hz2⟩ := info_parts Tryz.infoTx
  have HR := hid h
  clear h
  have hmk := make_txX0 xs.length hm
  obtain ⟨n, hn⟩ : ∃ n, n = xs.length := ⟨_, rfl⟩
  have HN := hid hn.symm
  rw [← hn] at hm hmk ⊢
  clear hn
  have hB0 : Below w.heap.size w (w.alloc (.cells (madeCells #[.int .i64 0, .bool false, .slice none 0 0] (n * 3)) 63)) := balloc (Below.refl _ _) _
  have HI : Hid (LX KX 63 w.heap.size (w.alloc (.cells (madeCells #[.int .i64 0, .bool false, .slice none 0 0] (n * 3)) 63)).heap.size (w.alloc (.cells (madeCells #[.int .i64 0, .bool false, .slice none 0 0] (n * 3)) 63)) (.slice (some ⟨w.heap.size, 0, none⟩) 0 n) [] []) := hid (by
    have := World.ownsRow_made (base := w.heap.size) (e := 63) (size := 3) w (madeCells #[.int .i64 0, .bool false, .slice none 0 0] (n * 3)) n (Nat.le_refl _) (by unfold maxLen; omega) (size_madeCells _ _)
    exact LX.nil this (fun g e => by simp [Value.ownBlock] at e; subst e; simp) (Nat.le_refl _))
  go_enter Tryz.func84, Tryz.ntmps84
  go_upto_region 2 with fail
  generalize w.alloc (.cells (madeCells #[.int .i64 0, .bool false, .slice none 0 0] (n * 3)) 63) = W0 at *
  clear hmk
  go_wp2_with fail
  go_loopw [5, 15] (fun tv ti wr => ∃ i : Nat, ∃ g5 c5 : Nat, ∃ ps' : List (Tx × Value), ti = .int .i64 i ∧ i ≤ n ∧ tv = .slice (some ⟨g5, 0, none⟩) i c5 ∧ Hid (LX KX 63 w.heap.size wr.heap.size wr (.slice (some ⟨g5, 0, none⟩) i c5) (xs.take i) ps') ∧ Hid (Below w.heap.size w wr)) (fun _ ti _ => n - (intOf ti).toNat)
  case atStart => exact ⟨0, w.heap.size, n, [], rfl, Nat.zero_le _, rfl, HI, hid hB0⟩
  case round =>
    clear HI hB0
    obtain ⟨i, g5, c5, ps', rfl, hi, rfl, HV, HBW⟩ := hrel
    have hwX := HBW.out.size
    by_cases hlt : i < n
    · have d1 : (i : Int) < (n : Int) := by omega
      have hir : i < xs.length := by rw [HN.out]; exact hlt
      obtain ⟨ci, cpi, k9, ⟨k0, k1, k2⟩, k6, k7⟩ := (HR.out.below HBW.out).2 i hir
      have HX : Hid (xs.take (i + 1) = xs.take i ++ [xs[i]]) := hid (by rw [List.take_add_one, List.getElem?_eq_getElem hir]; rfl)
      have hil : (xs.take i).length = i := by rw [List.length_take]; omega
      obtain ⟨r, hr⟩ : ∃ r, r = xs[i] := ⟨_, rfl⟩
      rw [← hr] at k0 k1 k2 k6 k7 HX
      clear hr
      obtain ⟨st, op, cs⟩ := r
      simp only at k0 k1 k2 k6 k7
      have hbx : Below wr.heap.size wr (wr.alloc (.cells #[.int .i64 st, .bool op, .slice (some ⟨ci, 0, none⟩) cs.length cpi] 63)) := balloc (Below.refl _ _) _
      have HT1 := hid (txY_clo st op cs ci cpi _ k6 (Nat.lt_of_lt_of_le k9 hbx.size) (k7.below hbx))
      clear k7
      go_upto_region 5 with fail
      have gx := new_alloc wr wr.heap.size (.cells #[.int .i64 st, .bool op, .slice (some ⟨ci, 0, none⟩) cs.length cpi] 63) rfl
      have HI1 := hid (HV.out.below hbx)
      have HB1 := hid (btrans HBW.out hbx)
      have hs1 := hbx.size
      have hs2 : wr.heap.size < (wr.alloc (.cells #[.int .i64 st, .bool op, .slice (some ⟨ci, 0, none⟩) cs.length cpi] 63)).heap.size := by simp
      clear k0 k1 k2 hbx HV
      generalize wr.alloc (.cells #[.int .i64 st, .bool op, .slice (some ⟨ci, 0, none⟩) cs.length cpi] 63) = W1 at *
      generalize wr.heap.size = Xh at *
      obtain ⟨⟨x0, x1, x2⟩, _⟩ := cellk3 gx
      clear gx
      go_wp2_with fail
      refine HT1.out.mono ?_
      rintro e z ⟨sv, lo, up, rfl, hsub, hlo, hz⟩
      have HBz := hid (btrans HB1.out hz)
      have HIz := hid (HI1.out.below hz)
      have HO := hid hsub
      have hzs := hz.size
      have hwz := HBz.out.size
      obtain ⟨sa, sn, sc, hsv⟩ : ∃ a n c, sv = .slice a n c := by obtain ⟨⟨g, c, e⟩, _⟩ := HO.out; exact ⟨_, _, _, e⟩
      clear hz hsub x0 x1 x2 HT1 HI1 HB1
      subst hsv
      go_upto_region 7 with fail
      have hal : Below z.heap.size z (z.alloc (.cells #[.int .i64 st, .bool op, .slice sa sn sc] 63)) := balloc (Below.refl _ _) _
      have gy := new_alloc z z.heap.size (.cells #[.int .i64 st, .bool op, .slice sa sn sc] 63) rfl
      have HIa := hid (HIz.out.below hal)
      have HBa := hid (btrans HBz.out hal)
      have HOa := hid (KX.frame HO.out (fun c _ h2 => hal.block c (by have := KX.top HO.out; omega)) hal.size)
      have has : z.heap.size < (z.alloc (.cells #[.int .i64 st, .bool op, .slice sa sn sc] 63)).heap.size := by simp
      clear hal HO HIz HBz
      generalize z.alloc (.cells #[.int .i64 st, .bool op, .slice sa sn sc] 63) = Z at *
      obtain ⟨⟨x0, x1, x2⟩, _⟩ := cellk3 gy
      clear gy
      have hownZ : Z.ownsRow w.heap.size 63 3 (.slice (some ⟨g5, 0, none⟩) i c5) i (flatK KX ps') := by have := HIa.out.2.1; rw [hil] at this; exact this
      go_wp2_with (at_builtin; (refine wpList_append_lies _ rfl (.tmp 26) (.tmp 28) 36 rfl w.heap.size 63 i0 _ 3 40 Tryz.underlying36 hi0 hz0 hz1 hz2 rfl (by decide) (.slice (some ⟨g5, 0, none⟩) i c5) i (flatK KX ps') rfl (hownZ.alloc _) ⟨Z.heap.size, 0, none⟩ 1 1 [.int .i64 st, .bool op, .slice sa sn sc] rfl rfl (World.news_of_block (cs := #[.int .i64 st, .bool op, .slice sa sn sc]) (t := 63) (fr := (0, 0)) (heap_alloc_new Z _)) (by simp [Value.oneCell']) (by omega) (by unfold maxLen; omega) (by omega) (by simp; omega) (Z.heap.size + 1) (by simp) ?_; intro gg cq w2 hown2 hgrow hat hlt2))
      have hal2 : Below Z.heap.size Z (Z.alloc (.cells #[.int .i64 st, .bool op, .slice sa sn sc] 63)) := balloc (Below.refl _ _) _
      have hsn := LX.snoc (x := (st, op, cs)) (sv := .slice sa sn sc) (l := lo) (u := up) (g := gg) (cap := cq) (HIa.out.below hal2) (by omega) (by omega) (KX.frame HOa.out (fun c _ h2 => hal2.block c (by have := KX.top HOa.out; omega)) hal2.size) (by rw [hil]; exact hown2) hgrow (by simpa using hat) hlt2
      rw [hil] at hsn
      have hb2 : Below w.heap.size w w2 := Below.grown (balloc HBa.out _) hgrow (by simp; omega) (fun k e => (hownZ.lt k e).1)
      have HSN2 : Hid (LX KX 63 w.heap.size w2.heap.size w2 (.slice (some ⟨gg, 0, none⟩) (i + 1) cq) (xs.take (i + 1)) (ps' ++ [((st, op, cs), .slice sa sn sc)])) := hid (by rw [HX.out]; exact hsn)
      have HB2 := hid hb2
      clear hsn hb2 hown2 hgrow hal2 hownZ x0 x1 x2
      go_roundw
      case rel => exact ⟨i + 1, gg, cq, _, by go_num, by omega, rfl, HSN2, HB2⟩
      case measure => simp [intOf]; omega
    · have d1 : (n : Int) ≤ (i : Int) := by omega
      have hin : i = n := by omega
      subst hin
      have HF : Hid (LX KX 63 w.heap.size wr.heap.size wr (.slice (some ⟨g5, 0, none⟩) i c5) xs ps') := hid (by have := HV.out; rw [← HN.out, List.take_length] at this; rw [← HN.out]; exact this)
      clear HV
      go_wp2_with fail
      go_ret
      exact ⟨_, ps', rfl, HF.out, ⟨g5, c5, rfl⟩, HBW.out⟩
end Go.Proofs.YtnajddjalagmoaaGreatDoor
namespace Go.Proofs.YtnajddjalagmoaaGreatDoor
open Go.RowKit
set_option linter.unusedSimpArgs false
set_option linter.unusedVariables false
/-- What a row of one's own and its elements' pieces make. -/
theorem lch_own {α : Type} {K : Kd α} {t : TypeId} {b0 base hi p q g c : Nat} {w : World} {xs : List α} {ps : List (α × Value)} (h1 : ps.map Prod.fst = xs) (h2 : w.ownsRow b0 t K.sz (.slice (some ⟨g, 0, none⟩) xs.length c) xs.length (flatK K ps)) (hb : base ≤ g) (hgh : g < hi) (hhi : hi ≤ w.heap.size) (lo up : Nat → Nat) (h5 : ∀ j (h : j < ps.length), K.sub (lo j) (up j) w ps[j].2 ps[j].1 ∧ base ≤ lo j ∧ up j ≤ hi ∧ (g < lo j ∨ up j ≤ g) ∧ (up j ≤ p ∨ q ≤ lo j)) (h6 : ∀ i j, i ≠ j → i < ps.length → j < ps.length → up i ≤ lo j ∨ up j ≤ lo i) (hgq : g < p ∨ q ≤ g) : LCH K base hi p q w (.slice (some ⟨g, 0, none⟩) xs.length c) xs := by
  have hpl : ps.length = xs.length := by have := congrArg List.length h1; simpa using this
  refine ⟨hhi, ?_⟩
  have h2' := h2
  rcases h2.2 with ⟨qq, hn⟩ | ⟨g2, cap, cur, e, _, hg, hc, _⟩
  · cases qq
  · cases e
    right
    refine ⟨g, c, fun j => if h : j < ps.length then (ps[j]'h).2 else .bool false, lo, up, rfl, hc, hb, hgh, fun j hj => ?_, fun j hj => ?_, fun i j hne hi' hj => h6 i j hne (by omega) (by omega), hgq, fun j hj => (h5 j (by omega)).2.2.2.2⟩
    · simp only [Nat.zero_add]
      refine ⟨?_, World.ownsRow.frozenAt h2' j⟩
      rw [World.ownsRow.cellAt h2' j hj, List.getElem?_eq_getElem (by rw [flatK_len, hpl]; exact hj)]
      rfl
    · have hjp : j < ps.length := by omega
      obtain ⟨a1, a2, a3, a4, _⟩ := h5 j hjp
      have ex : xs[j] = (ps[j]).1 := by
        have : xs[j]? = (ps.map Prod.fst)[j]? := by rw [h1]
        rw [List.getElem?_map, List.getElem?_eq_getElem hj, List.getElem?_eq_getElem hjp] at this
        exact Option.some.inj this
      simp only [dif_pos hjp, ex]
      refine ⟨⟨fun t ht => ?_, a1⟩, a2, by omega, a4⟩
      have hlt : j * K.sz + t < xs.length * K.sz := by
        have : (j + 1) * K.sz ≤ xs.length * K.sz := Nat.mul_le_mul_right _ (by omega)
        rw [Nat.succ_mul] at this
        omega
      rw [World.ownsRow.cellAt h2' _ hlt, flatX_at K ps j t hjp ht]
theorem flatK_app {α : Type} (K : Kd α) (ps qs : List (α × Value)) : flatK K (ps ++ qs) = flatK K ps ++ flatK K qs := by simp [flatK]
theorem flatK_ins {α : Type} (K : Kd α) (ps : List (α × Value)) (q : α × Value) (i : Nat) (hi : i ≤ ps.length) : flatK K (ps.take i ++ [q] ++ ps.drop i) = (flatK K ps).take (i * K.sz) ++ K.vals q.1 q.2 ++ (flatK K ps).drop (i * K.sz) := by
  have e : flatK K ps = flatK K (ps.take i) ++ flatK K (ps.drop i) := by rw [← flatK_app, List.take_append_drop]
  have hl : (flatK K (ps.take i)).length = i * K.sz := by rw [flatK_len, List.length_take, Nat.min_eq_left hi]
  rw [flatK_app, flatK_app, e, ← hl, List.take_left, List.drop_left]
  simp [flatK]
/-- One put in: the list where it lay or in new memory, what the new one holds in new memory. -/
theorem LX.insH {α : Type} {K : Kd α} {t : TypeId} {base hi b0 c g g' c' i p S : Nat} {W w' : World} {xs : List α} {ps : List (α × Value)} {x : α} {sv : Value} (h : LX K t base hi W (.slice (some ⟨g, 0, none⟩) xs.length c) xs ps) (hi' : i ≤ xs.length) (hbh : base ≤ hi) (hS : hi ≤ S) (hp : S ≤ p) (hpw : p < w'.heap.size) (hsub : K.sub p (p + 1) w' sv x) (hown : w'.ownsRow b0 t K.sz (.slice (some ⟨g', 0, none⟩) (xs.length + 1) c') (xs.length + 1) ((flatK K ps).take (i * K.sz) ++ K.vals x sv ++ (flatK K ps).drop (i * K.sz))) (hfr : ∀ b, base ≤ b → b < hi → b ≠ g → w'.heap[b]? = W.heap[b]?) (hsz : W.heap.size ≤ w'.heap.size) (hg' : g' = g ∨ S ≤ g') (hgp : g' ≠ p) (hgw : g' < w'.heap.size) : LCH K base w'.heap.size hi S w' (.slice (some ⟨g', 0, none⟩) (xs.length + 1) c') (xs.take i ++ [x] ++ xs.drop i) := by
  have hpl := h.plen
  obtain ⟨h1, h2, h3, h4, lo, up, h5, h6⟩ := h
  have hgb := (h2.lt g rfl).1
  have hgh := h3 g rfl
  have hlen : (xs.take i ++ [x] ++ xs.drop i).length = xs.length + 1 := by simp; omega
  have hlen2 : (ps.take i ++ [(x, sv)] ++ ps.drop i).length = ps.length + 1 := by simp; omega
  have hR := lch_own (K := K) (t := t) (b0 := b0) (base := base) (hi := w'.heap.size) (p := hi) (q := S) (g := g') (c := c') (w := w') (xs := xs.take i ++ [x] ++ xs.drop i) (ps := ps.take i ++ [(x, sv)] ++ ps.drop i) (by simp [← h1, List.map_take, List.map_drop]) (by rw [hlen, flatK_ins K ps (x, sv) i (by omega)]; exact hown) (by rcases hg' with e | e <;> omega) hgw (Nat.le_refl _)
    (fun j => if j < i then lo j else if j = i then p else lo (j - 1)) (fun j => if j < i then up j else if j = i then p + 1 else up (j - 1))
    (fun j hj => by
      rw [hlen2] at hj
      have old : ∀ k (hk : k < ps.length), K.sub (lo k) (up k) w' ps[k].2 ps[k].1 ∧ base ≤ lo k ∧ up k ≤ w'.heap.size ∧ (g' < lo k ∨ up k ≤ g') ∧ (up k ≤ hi ∨ S ≤ lo k) := fun k hk => by
        obtain ⟨a1, a2, a3, a4⟩ := h5 k hk
        have a5 := a4 g rfl
        exact ⟨K.frame a1 (fun b b1 b2 => hfr b (by omega) (by omega) (by omega)) hsz, a2, by omega, by rcases hg' with e | e <;> omega, .inl a3⟩
      rcases Nat.lt_trichotomy j i with hj1 | rfl | hj1
      · simp only [if_pos hj1]
        have er : (ps.take i ++ [(x, sv)] ++ ps.drop i)[j]'(by rw [hlen2]; omega) = ps[j]'(by omega) := by
          rw [List.getElem_append_left (by simp; omega), List.getElem_append_left (by simp; omega), List.getElem_take]
        rw [er]; exact old j (by omega)
      · simp only [Nat.lt_irrefl, if_false, if_true]
        have er : (ps.take j ++ [(x, sv)] ++ ps.drop j)[j]'(by rw [hlen2]; omega) = (x, sv) := by
          rw [List.getElem_append_left (by simp; omega), List.getElem_append_right (by simp; omega)]
          simp
        rw [er]; exact ⟨hsub, by omega, by omega, by omega, .inr hp⟩
      · simp only [if_neg (show ¬ j < i by omega), if_neg (show ¬ j = i by omega)]
        have er : (ps.take i ++ [(x, sv)] ++ ps.drop i)[j]'(by rw [hlen2]; omega) = ps[j - 1]'(by omega) := by
          rw [List.getElem_append_right (by simp; omega), List.getElem_drop]
          congr 1
          simp; omega
        rw [er]; exact old (j - 1) (by omega))
    (fun a b hne ha hb => by
      rw [hlen2] at ha hb
      have ho : ∀ k l, k < l → l < ps.length → up k ≤ lo l := h6
      have hu : ∀ k, k < ps.length → up k ≤ hi := fun k hk => (h5 k hk).2.2.1
      by_cases a1 : a < i
      · by_cases b1 : b < i
        · simp only [if_pos a1, if_pos b1]
          rcases Nat.lt_or_gt_of_ne hne with q | q
          · exact .inl (ho a b q (by omega))
          · exact .inr (ho b a q (by omega))
        · by_cases b2 : b = i
          · simp only [if_pos a1, if_neg b1, if_pos b2]
            have := hu a (by omega); omega
          · simp only [if_pos a1, if_neg b1, if_neg b2]
            exact .inl (ho a (b - 1) (by omega) (by omega))
      · by_cases a2 : a = i
        · by_cases b1 : b < i
          · simp only [if_neg a1, if_pos a2, if_pos b1]
            have := hu b (by omega); omega
          · simp only [if_neg a1, if_pos a2, if_neg b1, if_neg (show ¬ b = i by omega)]
            have := hu (b - 1) (by omega); omega
        · by_cases b1 : b < i
          · simp only [if_neg a1, if_neg a2, if_pos b1]
            exact .inr (ho b (a - 1) (by omega) (by omega))
          · by_cases b2 : b = i
            · simp only [if_neg a1, if_neg a2, if_neg b1, if_pos b2]
              have := hu (a - 1) (by omega); omega
            · simp only [if_neg a1, if_neg a2, if_neg b1, if_neg b2]
              rcases Nat.lt_or_gt_of_ne hne with q | q
              · exact .inl (ho (a - 1) (b - 1) (by omega) (by omega))
              · exact .inr (ho (b - 1) (a - 1) (by omega) (by omega)))
    (by rcases hg' with e | e <;> omega)
  rw [hlen] at hR
  exact hR
end Go.Proofs.YtnajddjalagmoaaGreatDoor
namespace Go.Proofs.YtnajddjalagmoaaGreatDoor
open Go.RowKit
set_option linter.unusedSimpArgs false
set_option linter.unusedVariables false
theorem midh_grown {lo hi p q b : Nat} {w w1 w2 : World} (h : MidH lo hi p q w w1) (g : w1.grownBy w2 (some b)) (h1 : lo ≤ b) (h2 : b < hi) (h3 : b < p ∨ q ≤ b) : MidH lo hi p q w w2 :=
  ⟨mid_grown h.1 g h1 h2, fun x hx e1 e2 => (g.block x (Nat.lt_of_lt_of_le hx h.1.2.2.2.1) (fun e => by cases e; omega)).trans (h.2 x hx e1 e2)⟩
/-- A change's points, or none. -/
def subN (lo up : Nat) (w : World) (v : Value) (x : Ch) : Prop := subC lo up w v x ∨ (up ≤ w.heap.size ∧ v = .slice none 0 0 ∧ x.2.2.2 = [])
def KN : Kd Ch where
  sz := 4
  vals := fun x v => [.int .i64 x.1, .bool x.2.1, .int .i64 x.2.2.1, v]
  sub := subN
  len := fun _ _ => rfl
  one := by
    rintro lo up w v x h u hu
    have hv : ∃ a n c, v = .slice a n c := by
      rcases h with ⟨_, c, cp, e, _⟩ | ⟨_, e, _⟩ <;> exact ⟨_, _, _, e⟩
    obtain ⟨a, n, c, rfl⟩ := hv
    simp at hu
    rcases hu with rfl | rfl | rfl | rfl <;> rfl
  frame := by
    rintro lo up w w' v x h hb hs
    rcases h with h | ⟨h1, h2, h3⟩
    · exact .inl (KC.frame h hb hs)
    · exact .inr ⟨by omega, h2, h3⟩
  top := fun h => by
    rcases h with h | h
    · exact h.1
    · exact h.1
theorem ElX.kn {w : World} {g i : Nat} {x : Ch} {s : Value} {lo up : Nat} (h : ElX KC w g i x s lo up) : ElX KN w g i x s lo up := ⟨h.1, .inl h.2⟩
theorem LCH.kn {base hi p q : Nat} {w : World} {v : Value} {xs : List Ch} (h : LCH KC base hi p q w v xs) : LCH KN base hi p q w v xs := by
  obtain ⟨h0, h | ⟨g, cap, ss, lo, up, a1, a2, a3, a4, a5, a6, a7, a8⟩⟩ := h
  · exact ⟨h0, .inl h⟩
  · exact ⟨h0, .inr ⟨g, cap, ss, lo, up, a1, a2, a3, a4, a5, fun j hj => ⟨(a6 j hj).1.kn, (a6 j hj).2⟩, a7, a8⟩⟩
theorem LX.kn {t : TypeId} {base hi : Nat} {w : World} {v : Value} {xs : List Ch} {ps : List (Ch × Value)} (h : LX KC t base hi w v xs ps) : LX KN t base hi w v xs ps := by
  obtain ⟨h1, h2, h3, h4, lo, up, h5, h6⟩ := h
  exact ⟨h1, h2, h3, h4, lo, up, fun j hj => ⟨.inl (h5 j hj).1, (h5 j hj).2⟩, h6⟩
theorem LC.chsN {base hi : Nat} {w : World} {a : Option Addr} {n cap : Nat} {xs : List Ch} (h : LC KN base hi w (.slice a n cap) xs) : Chs (fun c => base ≤ c ∧ c < hi) 1099511627776 w a xs := by
  obtain ⟨h0, h⟩ := h
  rcases h with ⟨rfl, _⟩ | ⟨g, cp, ss, lo, up, e, h1, h2, h3, h4, h5, h6⟩
  · exact .inl rfl
  · cases e
    refine .inr ⟨g, 0, rfl, by omega, fun j hj => ?_⟩
    obtain ⟨⟨b1, hb⟩, a2, a3, a4⟩ := h5 j hj
    have k0 := b1 0 (by decide)
    have k1 := b1 1 (by decide)
    have k2 := b1 2 (by decide)
    have k3 := b1 3 (by decide)
    rw [Nat.zero_add]
    rcases hb with ⟨_, c, cq, e, b2, b3, b4, b5, b6⟩ | ⟨_, e, hn⟩
    · simp only [KN, e] at k0 k1 k2 k3
      exact ⟨_, _, k0, k1, k2, k3, b2, b3, b6.pts, fun c' off e' => by cases e'; omega⟩
    · simp only [KN, e] at k0 k1 k2 k3
      refine ⟨none, 0, k0, k1, k2, ?_, by rw [hn]; simp, by rw [hn]; simp, .inl hn, fun c' off e' => by cases e'⟩
      rw [hn]; exact k3
set_option maxHeartbeats 400000 in
theorem mark_ptsNil (k0 : Int) (w : World) : Calls Tryz.prog 38 #[.slice none 0 0, .int .i64 k0] w fun e w' => e = .returned (.int .i64 k0) ∧ w' = w := by
  go_enter Tryz.func38, Tryz.ntmps38
  go_wp2_with fail
  go_loopw [1, 5] (fun tk' ti wr => tk' = .int .i64 k0 ∧ ti = .int .i64 0 ∧ wr = w) (fun _ _ _ => 0)
  case atStart => exact ⟨rfl, rfl, rfl⟩
  case round =>
    obtain ⟨rfl, rfl, rfl⟩ := hrel
    go_wp2_with fail
    go_ret
    exact ⟨rfl, rfl⟩
set_option maxRecDepth 100000 in
set_option maxHeartbeats 4000000 in
theorem mark_chsH (base hi p q : Nat) (v : Value) (xs : List Ch) (k0 : Int) (w : World) (hs : chS xs) (h0 : 0 ≤ k0) (h1 : k0 ≤ 4500000000000000000) (h : LCH KN base hi p q w v xs) : Calls Tryz.prog 69 #[v, .int .i64 k0] w fun e w' => e = .returned (.int .i64 (kkc k0 xs xs.length)) ∧ LCH KN base hi p q w' v (mkc k0 xs) ∧ MidH base hi p q w w' := by
  obtain ⟨hih, h⟩ := h
  rcases h with ⟨rfl, rfl⟩ | ⟨g, cap, ss, lo, up, rfl, hcap, hbg, hgh, hth, hel, hd, hgp, hsp⟩
  · go_enter Tryz.func69, Tryz.ntmps69
    go_wp2_with fail
    go_loopw [1, 5] (fun tk' ti wr => tk' = .int .i64 k0 ∧ ti = .int .i64 0 ∧ wr = w) (fun _ _ _ => 0)
    case atStart => exact ⟨rfl, rfl, rfl⟩
    case round =>
      obtain ⟨rfl, rfl, rfl⟩ := hrel
      go_wp2_with fail
      go_ret
      exact ⟨by simp [kkc, kcn], ⟨hih, .inl ⟨by simp [mkc], rfl⟩⟩, midh_refl _ _ _ _ _⟩
  have HL := hid hs.2
  have hm := hs.1
  have HE := hid (fun j hj => (hel j hj).1)
  have HC := hid (fun j hj => (hel j hj).2)
  have HD := hid hd
  have HSP := hid hsp
  have HK := hid (kkc_bound (k0 := k0) hs.2)
  clear hs hel hd hsp
  obtain ⟨n, hn⟩ : ∃ n, n = xs.length := ⟨_, rfl⟩
  have HN := hid hn.symm
  rw [← hn] at hm hth hcap ⊢
  have HTT := hid hth
  have HF : Hid (∀ (W : World) (q' : Int), q' = kkc k0 xs n → MidH base hi p q w W → W.there g 0 (n * 4) → (∀ i (h : i < xs.length), i < n → ElX KN W g i (mke (kkc k0 xs i) xs[i]) (ss i) (lo i) (up i)) → (Ending.returned (.int .i64 q') = .returned (.int .i64 (kkc k0 xs n)) ∧ LCH KN base hi p q W (.slice (some ⟨g, 0, none⟩) n cap) (mkc k0 xs))) := hid (fun W q' hq hM hT h => ⟨by rw [hq], by
    refine ⟨Nat.le_trans hih hM.1.2.2.2.1, .inr ⟨g, cap, ss, lo, up, by rw [mkc_len, ← hn], by rw [mkc_len, ← hn]; exact hcap, hbg, hgh, by rw [mkc_len, ← hn]; exact hT, fun j hj => ?_, fun i j hne hi' hj => ?_, hgp, fun j hj => by rw [mkc_len] at hj; exact HSP.out j hj⟩⟩
    · have hj' := hj
      rw [mkc_len] at hj'
      rw [mkc_at hj']
      exact ⟨h j hj' (by omega), HC.out j hj'⟩
    · rw [mkc_len] at hi' hj
      exact HD.out i j hne hi' hj⟩)
  clear hth hcap hn
  have hmid0 := midh_refl base hi p q w
  have hgw : g < w.heap.size := by omega
  go_enter Tryz.func69, Tryz.ntmps69
  go_wp2_with fail
  go_loopw [1, 5] (fun tk' ti wr => ∃ j : Nat, ∃ k : Int, ti = .int .i64 j ∧ tk' = .int .i64 k ∧ j ≤ n ∧ Hid (k = kkc k0 xs j) ∧ Hid (MidH base hi p q w wr) ∧ Hid (wr.there g 0 (n * 4)) ∧ Hid (∀ i (h : i < xs.length), i < j → ElX KN wr g i (mke (kkc k0 xs i) xs[i]) (ss i) (lo i) (up i)) ∧ Hid (∀ i (h : i < xs.length), j ≤ i → ElX KN wr g i xs[i] (ss i) (lo i) (up i))) (fun _ ti _ => n - (intOf ti).toNat)
  case atStart => exact ⟨0, k0, rfl, rfl, Nat.zero_le _, hid (by simp [kkc, kcn]), hid hmid0, HTT, hid (fun i h hh => absurd hh (by omega)), hid (fun i h _ => HE.out i h)⟩
  case round =>
    clear hmid0
    obtain ⟨j, k, rfl, rfl, hj, HKJ, HM, HT, HA, HZ⟩ := hrel
    by_cases hlt : j < n
    · have c1 : (j : Int) < (n : Int) := by omega
      have hjr : j < xs.length := by rw [HN.out]; exact hlt
      obtain ⟨hk0, hk1⟩ := HK.out j (by omega)
      rw [← HKJ.out] at hk0 hk1
      have hk2 : k ≤ 4600000000000000000 := by omega
      have hk3 : 0 ≤ k := by omega
      have HKN := hid (kkc_next (k0 := k0) hjr)
      rw [← HKJ.out] at HKN
      obtain ⟨zc, zs⟩ := HZ.out j hjr (Nat.le_refl _)
      obtain ⟨hcb, hch, hcg⟩ := HC.out j hjr
      have hws := HM.out.1.2.2.2.1
      rcases zs with ⟨_, c, cp, esv, b1, b2, b3, b4, b5⟩ | ⟨hupw, esv, enil⟩
      · skip
        have hnp := HL.out j hjr
        have HMK : Hid (∀ W, (∀ t, t < 4 → W.cell? ⟨g, j * 4 + t, none⟩ = ([.int .i64 k, .bool ((k + 1) % 3 == 0), .int .i64 (k + 2), ss j] : List Value)[t]?) → PtsOwn W c (tkk (k + 3) xs[j].2.2.2.length) → up j ≤ W.heap.size → ElX KN W g j (mke (kkc k0 xs j) xs[j]) (ss j) (lo j) (up j)) := hid (fun W h1 h2 h3 => by
          rw [← HKJ.out]
          refine ⟨h1, .inl ⟨h3, c, cp, ?_, ?_, ?_, b3, b4, h2⟩⟩
          · simp only [mke, tkk_len]; exact esv
          · simp only [mke, tkk_len]; exact b1
          · simp only [mke, tkk_len]; exact b2)
        generalize hps : xs[j].2.2.2 = ps at *
        clear hps
        obtain ⟨sv, hsv⟩ : ∃ sv, sv = ss j := ⟨_, rfl⟩
        have HSJ := hid hsv
        rw [← hsv] at zc HMK esv
        clear hsv
        subst esv
        have q3 := zc 3 (by decide)
        simp only [KN, List.getElem?_cons_succ, List.getElem?_cons_zero] at q3
        have HDJ : Hid (∀ i, i < xs.length → i ≠ j → up i ≤ lo j ∨ up j ≤ lo i) := hid (fun i hi' hne => HD.out i j hne hi' hjr)
        obtain ⟨u0, z0, y0⟩ := there_at HT.out (show j * 4 < n * 4 by omega)
        obtain ⟨u1, z1, y1⟩ := there_at HT.out (show j * 4 + 1 < n * 4 by omega)
        obtain ⟨u2, z2, y2⟩ := there_at HT.out (show j * 4 + 2 < n * 4 by omega)
        have z1' : ∀ a0, (wr.setCell ⟨g, j * 4, none⟩ a0).cell? ⟨g, j * 4 + 1, none⟩ = some u1 := fun a0 => by rw [World.cell?_setCell_other _ _ _ _ (by simp)]; exact z1
        have y1' : ∀ a0, (wr.setCell ⟨g, j * 4, none⟩ a0).frozen? ⟨g, j * 4 + 1, none⟩ = false := fun a0 => by rw [World.frozen?_setCell]; exact y1
        have z2' : ∀ a0 a1, ((wr.setCell ⟨g, j * 4, none⟩ a0).setCell ⟨g, j * 4 + 1, none⟩ a1).cell? ⟨g, j * 4 + 2, none⟩ = some u2 := fun a0 a1 => by rw [World.cell?_setCell_other _ _ _ _ (by simp), World.cell?_setCell_other _ _ _ _ (by simp)]; exact z2
        have y2' : ∀ a0 a1, ((wr.setCell ⟨g, j * 4, none⟩ a0).setCell ⟨g, j * 4 + 1, none⟩ a1).frozen? ⟨g, j * 4 + 2, none⟩ = false := fun a0 a1 => by rw [World.frozen?_setCell, World.frozen?_setCell]; exact y2
        have zl' : ∀ a0 a1 a2, (((wr.setCell ⟨g, j * 4, none⟩ a0).setCell ⟨g, j * 4 + 1, none⟩ a1).setCell ⟨g, j * 4 + 2, none⟩ a2).cell? ⟨g, j * 4 + 3, none⟩ = some (.slice (some ⟨c, 0, none⟩) ps.length cp) := fun a0 a1 a2 => by rw [World.cell?_setCell_other _ _ _ _ (by simp), World.cell?_setCell_other _ _ _ _ (by simp), World.cell?_setCell_other _ _ _ _ (by simp)]; exact q3
        have HM3 := hid (fun a0 a1 a2 => (midh_set (midh_set (midh_set (HM.out) hbg hgh hgp a0) hbg hgh hgp a1) hbg hgh hgp a2 : MidH base hi p q w (((wr.setCell ⟨g, j * 4, none⟩ a0).setCell ⟨g, j * 4 + 1, none⟩ a1).setCell ⟨g, j * 4 + 2, none⟩ a2)))
        have HT3 := hid (fun a0 a1 a2 => (there_set (there_set (there_set (HT.out) a0) a1) a2 : (((wr.setCell ⟨g, j * 4, none⟩ a0).setCell ⟨g, j * 4 + 1, none⟩ a1).setCell ⟨g, j * 4 + 2, none⟩ a2).there g 0 (n * 4)))
        have HA3 : Hid (∀ a0 a1 a2 i (h : i < xs.length), i < j → ElX KN (((wr.setCell ⟨g, j * 4, none⟩ a0).setCell ⟨g, j * 4 + 1, none⟩ a1).setCell ⟨g, j * 4 + 2, none⟩ a2) g i (mke (kkc k0 xs i) xs[i]) (ss i) (lo i) (up i)) := hid (fun a0 a1 a2 i h h1 => ((((HA.out i h h1).set (HC.out i h).2.2 (by show _ < i * 4 ∨ i * 4 + 4 ≤ _; omega) a0).set (HC.out i h).2.2 (by show _ < i * 4 ∨ i * 4 + 4 ≤ _; omega) a1).set (HC.out i h).2.2 (by show _ < i * 4 ∨ i * 4 + 4 ≤ _; omega) a2))
        have HZ3 : Hid (∀ a0 a1 a2 i (h : i < xs.length), j + 1 ≤ i → ElX KN (((wr.setCell ⟨g, j * 4, none⟩ a0).setCell ⟨g, j * 4 + 1, none⟩ a1).setCell ⟨g, j * 4 + 2, none⟩ a2) g i xs[i] (ss i) (lo i) (up i)) := hid (fun a0 a1 a2 i h h1 => ((((HZ.out i h (by omega)).set (HC.out i h).2.2 (by show _ < i * 4 ∨ i * 4 + 4 ≤ _; omega) a0).set (HC.out i h).2.2 (by show _ < i * 4 ∨ i * 4 + 4 ≤ _; omega) a1).set (HC.out i h).2.2 (by show _ < i * 4 ∨ i * 4 + 4 ≤ _; omega) a2))
        have x0 : ∀ a0 a1 a2, (((wr.setCell ⟨g, j * 4, none⟩ a0).setCell ⟨g, j * 4 + 1, none⟩ a1).setCell ⟨g, j * 4 + 2, none⟩ a2).cell? ⟨g, j * 4, none⟩ = some a0 := fun a0 a1 a2 => by rw [World.cell?_setCell_other _ _ _ _ (by simp), World.cell?_setCell_other _ _ _ _ (by simp)]; exact World.cell?_setCell_same _ _ _ z0
        have x1 : ∀ a0 a1 a2, (((wr.setCell ⟨g, j * 4, none⟩ a0).setCell ⟨g, j * 4 + 1, none⟩ a1).setCell ⟨g, j * 4 + 2, none⟩ a2).cell? ⟨g, j * 4 + 1, none⟩ = some a1 := fun a0 a1 a2 => by rw [World.cell?_setCell_other _ _ _ _ (by simp)]; exact World.cell?_setCell_same _ _ _ (z1' a0)
        have x2 : ∀ a0 a1 a2, (((wr.setCell ⟨g, j * 4, none⟩ a0).setCell ⟨g, j * 4 + 1, none⟩ a1).setCell ⟨g, j * 4 + 2, none⟩ a2).cell? ⟨g, j * 4 + 2, none⟩ = some a2 := fun a0 a1 a2 => by exact World.cell?_setCell_same _ _ _ (z2' a0 a1)
        have HX := hid (fun a0 a1 a2 => (⟨x0 a0 a1 a2, x1 a0 a1 a2, x2 a0 a1 a2, zl' a0 a1 a2⟩ : (((wr.setCell ⟨g, j * 4, none⟩ a0).setCell ⟨g, j * 4 + 1, none⟩ a1).setCell ⟨g, j * 4 + 2, none⟩ a2).cell? ⟨g, j * 4, none⟩ = some a0 ∧ (((wr.setCell ⟨g, j * 4, none⟩ a0).setCell ⟨g, j * 4 + 1, none⟩ a1).setCell ⟨g, j * 4 + 2, none⟩ a2).cell? ⟨g, j * 4 + 1, none⟩ = some a1 ∧ (((wr.setCell ⟨g, j * 4, none⟩ a0).setCell ⟨g, j * 4 + 1, none⟩ a1).setCell ⟨g, j * 4 + 2, none⟩ a2).cell? ⟨g, j * 4 + 2, none⟩ = some a2 ∧ (((wr.setCell ⟨g, j * 4, none⟩ a0).setCell ⟨g, j * 4 + 1, none⟩ a1).setCell ⟨g, j * 4 + 2, none⟩ a2).cell? ⟨g, j * 4 + 3, none⟩ = some (.slice (some ⟨c, 0, none⟩) ps.length cp)))
        have HP3 := hid (fun a0 a1 a2 => (own_blk b5 (by rw [Below.heap_setCell _ _ _ _ (by dsimp only; omega), Below.heap_setCell _ _ _ _ (by dsimp only; omega), Below.heap_setCell _ _ _ _ (by dsimp only; omega)]) (by simp only [World.size_setCell]; exact b5.1) : PtsOwn (((wr.setCell ⟨g, j * 4, none⟩ a0).setCell ⟨g, j * 4 + 1, none⟩ a1).setCell ⟨g, j * 4 + 2, none⟩ a2) c ps))
        have HSZ := hid (fun a0 a1 a2 => (by simp only [World.size_setCell] : (((wr.setCell ⟨g, j * 4, none⟩ a0).setCell ⟨g, j * 4 + 1, none⟩ a1).setCell ⟨g, j * 4 + 2, none⟩ a2).heap.size = wr.heap.size))
        clear b5 zc
        clear HM HT HA HZ q3 z1 y1 z2 y2 x0 x1 x2
        go_wp2_with fail
        refine (mark_ptsK _ c ps.length cp ps (k + 1 + 1 + 1) (by omega) (by omega) hnp rfl (HP3.out _ _ _)).mono ?_
        rintro e w1 ⟨rfl, hp1, hg⟩
        have hgne : some g ≠ some c := fun e => by cases e; omega
        have hsz1 := hg.size
        rw [HSZ.out] at hsz1
        have HM5 := hid (midh_grown (HM3.out (.int .i64 k) (.bool ((k + 1) % 3 == 0)) (.int .i64 (k + 1 + 1))) hg (by omega) (by omega) (by have := HSP.out j hjr; omega))
        have HT5 : Hid (w1.there g 0 (n * 4)) := hid (fun i hi' => by
          obtain ⟨s1, s2⟩ := HT3.out (.int .i64 k) (.bool ((k + 1) % 3 == 0)) (.int .i64 (k + 1 + 1)) i hi'
          have hb := hg.block g (by rw [HSZ.out]; omega) hgne
          simp only [World.cell?, World.frozen?, hb]; exact ⟨s1, s2⟩)
        have HFR : Hid (∀ i, i < xs.length → i ≠ j → ∀ q, lo i ≤ q → q < up i → q < wr.heap.size → w1.heap[q]? = _) := hid (fun i hi' hne q q1 q2 q3 => hg.block q (by rw [HSZ.out]; exact q3) (fun e => by cases e; have := HDJ.out i hi' hne; omega))
        have HA5 : Hid (∀ i (h : i < xs.length), i < j + 1 → ElX KN w1 g i (mke (kkc k0 xs i) xs[i]) (ss i) (lo i) (up i)) := hid (fun i h h1 => by
          by_cases e : i = j
          · subst e
            obtain ⟨s0, s1, s2, s3⟩ := HX.out (.int .i64 k) (.bool ((k + 1) % 3 == 0)) (.int .i64 (k + 1 + 1))
            rw [← HSJ.out]
            refine HMK.out w1 (fun t ht => ?_) (by rw [show k + 3 = k + 1 + 1 + 1 by omega]; exact hp1) (by omega)
            rcases (show t = 0 ∨ t = 1 ∨ t = 2 ∨ t = 3 by omega) with e | e | e | e <;> subst e
            · exact hg.cell s0 hgne
            · exact hg.cell s1 hgne
            · show _ = some (Value.int .i64 (k + 2)); rw [show k + 2 = k + 1 + 1 by omega]; exact hg.cell s2 hgne
            · exact hg.cell s3 hgne
          · have hx := HA3.out (.int .i64 k) (.bool ((k + 1) % 3 == 0)) (.int .i64 (k + 1 + 1)) i h (by omega)
            have htp := KN.top hx.2
            rw [HSZ.out] at htp
            exact hx.blk (hg.block g (by rw [HSZ.out]; omega) hgne) (fun q q1 q2 => HFR.out i h e q q1 q2 (by omega)) (by rw [HSZ.out]; exact hsz1))
        have HZ5 : Hid (∀ i (h : i < xs.length), j + 1 ≤ i → ElX KN w1 g i xs[i] (ss i) (lo i) (up i)) := hid (fun i h h1 => by
          have hx := HZ3.out (.int .i64 k) (.bool ((k + 1) % 3 == 0)) (.int .i64 (k + 1 + 1)) i h h1
          have htp := KN.top hx.2
          rw [HSZ.out] at htp
          exact hx.blk (hg.block g (by rw [HSZ.out]; omega) hgne) (fun q q1 q2 => HFR.out i h (by omega) q q1 q2 (by omega)) (by rw [HSZ.out]; exact hsz1))
        have HK5 : Hid (k + 1 + 1 + 1 + 2 * (ps.length : Int) = kkc k0 xs (j + 1)) := hid (by rw [HKN.out]; omega)
        clear hg hp1 HM3 HT3 HA3 HZ3 HX HFR HP3 HSZ zl' z1' z2' y1' y2' 
        go_wp2_with fail
        go_roundw
        case rel => exact ⟨j + 1, _, by go_num, rfl, by omega, HK5, HM5, HT5, HA5, HZ5⟩
        case measure => simp [intOf]; omega
      · skip
        have hnp := HL.out j hjr
        have HMK : Hid (∀ W, (∀ t, t < 4 → W.cell? ⟨g, j * 4 + t, none⟩ = ([.int .i64 k, .bool ((k + 1) % 3 == 0), .int .i64 (k + 2), ss j] : List Value)[t]?) → up j ≤ W.heap.size → ElX KN W g j (mke (kkc k0 xs j) xs[j]) (ss j) (lo j) (up j)) := hid (fun W h1 h3 => by
          rw [← HKJ.out]
          exact ⟨h1, .inr ⟨h3, esv, by simp only [mke]; rw [enil]; rfl⟩⟩)
        rw [enil] at HKN
        obtain ⟨sv, hsv⟩ : ∃ sv, sv = ss j := ⟨_, rfl⟩
        have HSJ := hid hsv
        rw [← hsv] at zc HMK esv
        clear hsv
        subst esv
        have q3 := zc 3 (by decide)
        simp only [KN, List.getElem?_cons_succ, List.getElem?_cons_zero] at q3
        have HDJ : Hid (∀ i, i < xs.length → i ≠ j → up i ≤ lo j ∨ up j ≤ lo i) := hid (fun i hi' hne => HD.out i j hne hi' hjr)
        obtain ⟨u0, z0, y0⟩ := there_at HT.out (show j * 4 < n * 4 by omega)
        obtain ⟨u1, z1, y1⟩ := there_at HT.out (show j * 4 + 1 < n * 4 by omega)
        obtain ⟨u2, z2, y2⟩ := there_at HT.out (show j * 4 + 2 < n * 4 by omega)
        have z1' : ∀ a0, (wr.setCell ⟨g, j * 4, none⟩ a0).cell? ⟨g, j * 4 + 1, none⟩ = some u1 := fun a0 => by rw [World.cell?_setCell_other _ _ _ _ (by simp)]; exact z1
        have y1' : ∀ a0, (wr.setCell ⟨g, j * 4, none⟩ a0).frozen? ⟨g, j * 4 + 1, none⟩ = false := fun a0 => by rw [World.frozen?_setCell]; exact y1
        have z2' : ∀ a0 a1, ((wr.setCell ⟨g, j * 4, none⟩ a0).setCell ⟨g, j * 4 + 1, none⟩ a1).cell? ⟨g, j * 4 + 2, none⟩ = some u2 := fun a0 a1 => by rw [World.cell?_setCell_other _ _ _ _ (by simp), World.cell?_setCell_other _ _ _ _ (by simp)]; exact z2
        have y2' : ∀ a0 a1, ((wr.setCell ⟨g, j * 4, none⟩ a0).setCell ⟨g, j * 4 + 1, none⟩ a1).frozen? ⟨g, j * 4 + 2, none⟩ = false := fun a0 a1 => by rw [World.frozen?_setCell, World.frozen?_setCell]; exact y2
        have zl' : ∀ a0 a1 a2, (((wr.setCell ⟨g, j * 4, none⟩ a0).setCell ⟨g, j * 4 + 1, none⟩ a1).setCell ⟨g, j * 4 + 2, none⟩ a2).cell? ⟨g, j * 4 + 3, none⟩ = some (.slice none 0 0) := fun a0 a1 a2 => by rw [World.cell?_setCell_other _ _ _ _ (by simp), World.cell?_setCell_other _ _ _ _ (by simp), World.cell?_setCell_other _ _ _ _ (by simp)]; exact q3
        have HM3 := hid (fun a0 a1 a2 => (midh_set (midh_set (midh_set (HM.out) hbg hgh hgp a0) hbg hgh hgp a1) hbg hgh hgp a2 : MidH base hi p q w (((wr.setCell ⟨g, j * 4, none⟩ a0).setCell ⟨g, j * 4 + 1, none⟩ a1).setCell ⟨g, j * 4 + 2, none⟩ a2)))
        have HT3 := hid (fun a0 a1 a2 => (there_set (there_set (there_set (HT.out) a0) a1) a2 : (((wr.setCell ⟨g, j * 4, none⟩ a0).setCell ⟨g, j * 4 + 1, none⟩ a1).setCell ⟨g, j * 4 + 2, none⟩ a2).there g 0 (n * 4)))
        have HA3 : Hid (∀ a0 a1 a2 i (h : i < xs.length), i < j → ElX KN (((wr.setCell ⟨g, j * 4, none⟩ a0).setCell ⟨g, j * 4 + 1, none⟩ a1).setCell ⟨g, j * 4 + 2, none⟩ a2) g i (mke (kkc k0 xs i) xs[i]) (ss i) (lo i) (up i)) := hid (fun a0 a1 a2 i h h1 => ((((HA.out i h h1).set (HC.out i h).2.2 (by show _ < i * 4 ∨ i * 4 + 4 ≤ _; omega) a0).set (HC.out i h).2.2 (by show _ < i * 4 ∨ i * 4 + 4 ≤ _; omega) a1).set (HC.out i h).2.2 (by show _ < i * 4 ∨ i * 4 + 4 ≤ _; omega) a2))
        have HZ3 : Hid (∀ a0 a1 a2 i (h : i < xs.length), j + 1 ≤ i → ElX KN (((wr.setCell ⟨g, j * 4, none⟩ a0).setCell ⟨g, j * 4 + 1, none⟩ a1).setCell ⟨g, j * 4 + 2, none⟩ a2) g i xs[i] (ss i) (lo i) (up i)) := hid (fun a0 a1 a2 i h h1 => ((((HZ.out i h (by omega)).set (HC.out i h).2.2 (by show _ < i * 4 ∨ i * 4 + 4 ≤ _; omega) a0).set (HC.out i h).2.2 (by show _ < i * 4 ∨ i * 4 + 4 ≤ _; omega) a1).set (HC.out i h).2.2 (by show _ < i * 4 ∨ i * 4 + 4 ≤ _; omega) a2))
        have x0 : ∀ a0 a1 a2, (((wr.setCell ⟨g, j * 4, none⟩ a0).setCell ⟨g, j * 4 + 1, none⟩ a1).setCell ⟨g, j * 4 + 2, none⟩ a2).cell? ⟨g, j * 4, none⟩ = some a0 := fun a0 a1 a2 => by rw [World.cell?_setCell_other _ _ _ _ (by simp), World.cell?_setCell_other _ _ _ _ (by simp)]; exact World.cell?_setCell_same _ _ _ z0
        have x1 : ∀ a0 a1 a2, (((wr.setCell ⟨g, j * 4, none⟩ a0).setCell ⟨g, j * 4 + 1, none⟩ a1).setCell ⟨g, j * 4 + 2, none⟩ a2).cell? ⟨g, j * 4 + 1, none⟩ = some a1 := fun a0 a1 a2 => by rw [World.cell?_setCell_other _ _ _ _ (by simp)]; exact World.cell?_setCell_same _ _ _ (z1' a0)
        have x2 : ∀ a0 a1 a2, (((wr.setCell ⟨g, j * 4, none⟩ a0).setCell ⟨g, j * 4 + 1, none⟩ a1).setCell ⟨g, j * 4 + 2, none⟩ a2).cell? ⟨g, j * 4 + 2, none⟩ = some a2 := fun a0 a1 a2 => by exact World.cell?_setCell_same _ _ _ (z2' a0 a1)
        have HX := hid (fun a0 a1 a2 => (⟨x0 a0 a1 a2, x1 a0 a1 a2, x2 a0 a1 a2, zl' a0 a1 a2⟩ : (((wr.setCell ⟨g, j * 4, none⟩ a0).setCell ⟨g, j * 4 + 1, none⟩ a1).setCell ⟨g, j * 4 + 2, none⟩ a2).cell? ⟨g, j * 4, none⟩ = some a0 ∧ (((wr.setCell ⟨g, j * 4, none⟩ a0).setCell ⟨g, j * 4 + 1, none⟩ a1).setCell ⟨g, j * 4 + 2, none⟩ a2).cell? ⟨g, j * 4 + 1, none⟩ = some a1 ∧ (((wr.setCell ⟨g, j * 4, none⟩ a0).setCell ⟨g, j * 4 + 1, none⟩ a1).setCell ⟨g, j * 4 + 2, none⟩ a2).cell? ⟨g, j * 4 + 2, none⟩ = some a2 ∧ (((wr.setCell ⟨g, j * 4, none⟩ a0).setCell ⟨g, j * 4 + 1, none⟩ a1).setCell ⟨g, j * 4 + 2, none⟩ a2).cell? ⟨g, j * 4 + 3, none⟩ = some (.slice none 0 0)))
        have HSZ := hid (fun a0 a1 a2 => (by simp only [World.size_setCell] : (((wr.setCell ⟨g, j * 4, none⟩ a0).setCell ⟨g, j * 4 + 1, none⟩ a1).setCell ⟨g, j * 4 + 2, none⟩ a2).heap.size = wr.heap.size))
        clear zc
        clear HM HT HA HZ q3 z1 y1 z2 y2 x0 x1 x2
        go_wp2_with fail
        refine (mark_ptsNil (k + 1 + 1 + 1) _).mono ?_
        rintro e w1 ⟨rfl, hw1⟩
        have hsz1 : w1.heap.size = wr.heap.size := by rw [hw1]; exact HSZ.out _ _ _
        have HM5 : Hid (MidH base hi p q w w1) := hid (by rw [hw1]; exact HM3.out _ _ _)
        have HT5 : Hid (w1.there g 0 (n * 4)) := hid (by rw [hw1]; exact HT3.out _ _ _)
        have HA5 : Hid (∀ i (h : i < xs.length), i < j + 1 → ElX KN w1 g i (mke (kkc k0 xs i) xs[i]) (ss i) (lo i) (up i)) := hid (fun i h h1 => by
          by_cases e : i = j
          · subst e
            obtain ⟨s0, s1, s2, s3⟩ := HX.out (.int .i64 k) (.bool ((k + 1) % 3 == 0)) (.int .i64 (k + 1 + 1))
            rw [← hw1] at s0 s1 s2 s3
            rw [← HSJ.out]
            refine HMK.out w1 (fun t ht => ?_) (by omega)
            rcases (show t = 0 ∨ t = 1 ∨ t = 2 ∨ t = 3 by omega) with e | e | e | e <;> subst e
            · exact s0
            · exact s1
            · show _ = some (Value.int .i64 (k + 2)); rw [show k + 2 = k + 1 + 1 by omega]; exact s2
            · exact s3
          · rw [hw1]; exact HA3.out _ _ _ i h (by omega))
        have HZ5 : Hid (∀ i (h : i < xs.length), j + 1 ≤ i → ElX KN w1 g i xs[i] (ss i) (lo i) (up i)) := hid (fun i h h1 => by rw [hw1]; exact HZ3.out _ _ _ i h h1)
        have HK5 : Hid (k + 1 + 1 + 1 = kkc k0 xs (j + 1)) := hid (by rw [HKN.out]; simp; omega)
        clear hw1 hsz1 HM3 HT3 HA3 HZ3 HX HSZ zl' z1' z2' y1' y2'
        go_wp2_with fail
        go_roundw
        case rel => exact ⟨j + 1, _, by go_num, rfl, by omega, HK5, HM5, HT5, HA5, HZ5⟩
        case measure => simp [intOf]; omega
    · obtain rfl : j = n := by omega
      have c1 : (j : Int) ≤ (j : Int) := by omega
      go_wp2_with fail
      go_ret
      obtain ⟨e1, e2⟩ := HF.out wr k HKJ.out HM.out HT.out HA.out
      exact ⟨e1, e2, HM.out⟩
end Go.Proofs.YtnajddjalagmoaaGreatDoor
namespace Go.Proofs.YtnajddjalagmoaaGreatDoor
open Go.RowKit
set_option linter.unusedSimpArgs false
set_option linter.unusedVariables false
/-- Of two pieces of memory. -/
def InS (lo up qq hh c : Nat) : Prop := (lo ≤ c ∧ c < up ∧ c < hh) ∨ (qq ≤ c ∧ c < hh ∧ lo ≤ c)
theorem inS_of {lo up qq hh c : Nat} (h1 : lo ≤ c) (h2 : c < hh) (h3 : c < up ∨ qq ≤ c) : InS lo up qq hh c := by
  rcases h3 with h3 | h3
  · exact .inl ⟨h1, h3, h2⟩
  · exact .inr ⟨h3, h2, h1⟩
/-- A transaction at its place. -/
def ElS (w : World) (g i : Nat) (x : Tx) (s : Value) (lo up qq hh : Nat) : Prop := (∀ t, t < 3 → w.cell? ⟨g, i * 3 + t, none⟩ = (KT.vals x s)[t]?) ∧ LCH KN lo hh up qq w s x.2.2
theorem ElS.set {w : World} {g i k : Nat} {x : Tx} {s : Value} {lo up qq hh : Nat} (h : ElS w g i x s lo up qq hh) (hg : ¬ InS lo up qq hh g) (hk : k < i * 3 ∨ i * 3 + 3 ≤ k) (u : Value) : ElS (w.setCell ⟨g, k, none⟩ u) g i x s lo up qq hh := by
  refine ⟨fun t ht => ?_, h.2.frame (fun c c1 c2 c3 => Below.heap_setCell _ _ _ _ (by dsimp only; intro e; exact hg (e ▸ inS_of c1 c2 c3))) (by simp)⟩
  rw [World.cell?_setCell_other _ _ _ _ (by intro e; injection e; omega)]
  exact h.1 t ht
theorem midh_out {lo up qq hh c : Nat} {w w' : World} (h : MidH lo hh up qq w w') (hc : c < w.heap.size) (hn : ¬ InS lo up qq hh c) : w'.heap[c]? = w.heap[c]? := by
  by_cases h1 : c < lo ∨ hh ≤ c
  · exact mid_blk h.1 hc h1
  · refine h.2 c hc ?_ ?_
    · rcases Nat.lt_or_ge c up with q | q
      · exact absurd (inS_of (by omega) (by omega) (.inl q)) hn
      · exact q
    · rcases Nat.lt_or_ge c qq with q | q
      · exact q
      · exact absurd (inS_of (by omega) (by omega) (.inr q)) hn
theorem midh_in {lo up qq hh base hi p q g : Nat} {w w' : World} (h : MidH lo hh up qq w w') (hc : ∀ c, InS lo up qq hh c → base ≤ c ∧ c < hi ∧ (c < p ∨ q ≤ c) ∧ c ≠ g) : MidH base hi p q w w' :=
  ⟨⟨h.1.1, h.1.2.1, h.1.2.2.1, h.1.2.2.2.1, fun k hk h1 => midh_out h hk (fun e => by have := hc k e; omega)⟩, fun k hk h1 h2 => midh_out h hk (fun e => by have := hc k e; omega)⟩
theorem ElS.mid {w w' : World} {g i : Nat} {x : Tx} {s : Value} {lo up qq hh l u a z : Nat} (h : ElS w g i x s lo up qq hh) (m : MidH l z u a w w') (hg : w'.heap[g]? = w.heap[g]?) (hd : ∀ c, InS lo up qq hh c → ¬ InS l u a z c) : ElS w' g i x s lo up qq hh :=
  ⟨fun t ht => (World.cell?_of_block hg).trans (h.1 t ht), h.2.frame (fun c c1 c2 c3 => midh_out m (by have := h.2.1; omega) (hd c (inS_of c1 c2 c3))) m.1.2.2.2.1⟩
/-- A list of transactions in memory of its own, none of it in the hole from p on below q; each one's changes lie in two pieces, and no two share any. -/
def LTS (base hi p q : Nat) (w : World) (v : Value) (xs : List Tx) : Prop :=
  hi ≤ w.heap.size ∧ ((xs = [] ∧ v = .slice none 0 0) ∨ ∃ (g cap : Nat) (ss : Nat → Value) (lo up qq hh : Nat → Nat), v = .slice (some ⟨g, 0, none⟩) xs.length cap ∧ xs.length ≤ cap ∧ base ≤ g ∧ g < hi ∧ w.there g 0 (xs.length * 3) ∧
  (∀ j (h : j < xs.length), ElS w g j xs[j] (ss j) (lo j) (up j) (qq j) (hh j) ∧ (∀ c, InS (lo j) (up j) (qq j) (hh j) c → base ≤ c ∧ c < hi ∧ (c < p ∨ q ≤ c) ∧ c ≠ g)) ∧ (∀ i j, i ≠ j → i < xs.length → j < xs.length → ∀ c, InS (lo i) (up i) (qq i) (hh i) c → ¬ InS (lo j) (up j) (qq j) (hh j) c) ∧ (g < p ∨ q ≤ g))
set_option maxRecDepth 100000 in
set_option maxHeartbeats 4000000 in
theorem mark_txsS (base hi p q : Nat) (v : Value) (xs : List Tx) (k0 : Int) (w : World) (hs : txS xs) (h0 : 0 ≤ k0) (h1 : k0 ≤ 2000000000000000000) (h : LTS base hi p q w v xs) : Calls Tryz.prog 37 #[v, .int .i64 k0] w fun e w' => e = .returned (.int .i64 (kkt k0 xs xs.length)) ∧ LTS base hi p q w' v (mks k0 xs) ∧ MidH base hi p q w w' := by
  obtain ⟨hih, h⟩ := h
  rcases h with ⟨rfl, rfl⟩ | ⟨g, cap, ss, lo, up, qq, hh, rfl, hcap, hbg, hgh, hth, hel, hd, hgp⟩
  · go_enter Tryz.func37, Tryz.ntmps37
    go_wp2_with fail
    go_loopw [1, 5] (fun tk' ti wr => tk' = .int .i64 k0 ∧ ti = .int .i64 0 ∧ wr = w) (fun _ _ _ => 0)
    case atStart => exact ⟨rfl, rfl, rfl⟩
    case round =>
      obtain ⟨rfl, rfl, rfl⟩ := hrel
      go_wp2_with fail
      go_ret
      exact ⟨by simp [kkt, ktn], ⟨hih, .inl ⟨by simp [mks], rfl⟩⟩, midh_refl _ _ _ _ _⟩
  have HL := hid hs.2
  have hm := hs.1
  have HE := hid (fun j hj => (hel j hj).1)
  have HC := hid (fun j hj => (hel j hj).2)
  have HD := hid hd
  have HK := hid (kkt_bound (k0 := k0) hs.2)
  clear hs hel hd
  obtain ⟨n, hn⟩ : ∃ n, n = xs.length := ⟨_, rfl⟩
  have HN := hid hn.symm
  rw [← hn] at hm hth hcap ⊢
  have HTT := hid hth
  have HF : Hid (∀ (W : World) (q' : Int), q' = kkt k0 xs n → MidH base hi p q w W → W.there g 0 (n * 3) → (∀ i (h : i < xs.length), i < n → ElS W g i (mkt (kkt k0 xs i) xs[i]) (ss i) (lo i) (up i) (qq i) (hh i)) → (Ending.returned (.int .i64 q') = .returned (.int .i64 (kkt k0 xs n)) ∧ LTS base hi p q W (.slice (some ⟨g, 0, none⟩) n cap) (mks k0 xs))) := hid (fun W q' hq hM hT h => ⟨by rw [hq], by
    refine ⟨Nat.le_trans hih hM.1.2.2.2.1, .inr ⟨g, cap, ss, lo, up, qq, hh, by rw [mks_len, ← hn], by rw [mks_len, ← hn]; exact hcap, hbg, hgh, by rw [mks_len, ← hn]; exact hT, fun j hj => ?_, fun i j hne hi' hj => ?_, hgp⟩⟩
    · have hj' := hj
      rw [mks_len] at hj'
      rw [mks_at hj']
      exact ⟨h j hj' (by omega), HC.out j hj'⟩
    · rw [mks_len] at hi' hj
      exact HD.out i j hne hi' hj⟩)
  clear hth hcap hn
  have hmid0 := midh_refl base hi p q w
  have hgw : g < w.heap.size := by omega
  go_enter Tryz.func37, Tryz.ntmps37
  go_wp2_with fail
  go_loopw [1, 5] (fun tk' ti wr => ∃ j : Nat, ∃ k : Int, ti = .int .i64 j ∧ tk' = .int .i64 k ∧ j ≤ n ∧ Hid (k = kkt k0 xs j) ∧ Hid (MidH base hi p q w wr) ∧ Hid (wr.there g 0 (n * 3)) ∧ Hid (∀ i (h : i < xs.length), i < j → ElS wr g i (mkt (kkt k0 xs i) xs[i]) (ss i) (lo i) (up i) (qq i) (hh i)) ∧ Hid (∀ i (h : i < xs.length), j ≤ i → ElS wr g i xs[i] (ss i) (lo i) (up i) (qq i) (hh i))) (fun _ ti _ => n - (intOf ti).toNat)
  case atStart => exact ⟨0, k0, rfl, rfl, Nat.zero_le _, hid (by simp [kkt, ktn]), hid hmid0, HTT, hid (fun i h hh => absurd hh (by omega)), hid (fun i h _ => HE.out i h)⟩
  case round =>
    clear hmid0
    obtain ⟨j, k, rfl, rfl, hj, HKJ, HM, HT, HA, HZ⟩ := hrel
    by_cases hlt : j < n
    · have c1 : (j : Int) < (n : Int) := by omega
      have hjr : j < xs.length := by rw [HN.out]; exact hlt
      obtain ⟨hk0, hk1⟩ := HK.out j (by omega)
      rw [← HKJ.out] at hk0 hk1
      have hk2 : k ≤ 4400000000000000000 := by omega
      have hk3 : 0 ≤ k := by omega
      have HKN := hid (kkt_next (k0 := k0) hjr)
      rw [← HKJ.out] at HKN
      obtain ⟨zc, zs⟩ := HZ.out j hjr (Nat.le_refl _)
      have hcj := HC.out j hjr
      have hgj : ¬ InS (lo j) (up j) (qq j) (hh j) g := fun q => (hcj g q).2.2.2 rfl
      have hws := HM.out.1.2.2.2.1
      have hcs := HL.out j hjr
      have HMK : Hid (∀ W, (∀ t, t < 3 → W.cell? ⟨g, j * 3 + t, none⟩ = ([.int .i64 k, .bool ((k + 1) % 3 == 0), ss j] : List Value)[t]?) → LCH KN (lo j) (hh j) (up j) (qq j) W (ss j) (mkc (k + 2) xs[j].2.2) → ElS W g j (mkt (kkt k0 xs j) xs[j]) (ss j) (lo j) (up j) (qq j) (hh j)) := hid (fun W h1 h2 => by
        rw [← HKJ.out]
        exact ⟨h1, h2⟩)
      have ZS : Hid (LCH KN (lo j) (hh j) (up j) (qq j) wr (ss j) xs[j].2.2) := hid zs
      clear zs
      generalize hps : xs[j].2.2 = cs at *
      clear hps
      obtain ⟨sv, hsv⟩ : ∃ sv, sv = ss j := ⟨_, rfl⟩
      have HSJ := hid hsv
      rw [← hsv] at zc HMK ZS
      clear hsv
      have hut := ZS.out.1
      have q3 := zc 2 (by decide)
      simp only [KT, List.getElem?_cons_succ, List.getElem?_cons_zero] at q3
      have HDJ : Hid (∀ i, i < xs.length → i ≠ j → ∀ c, InS (lo i) (up i) (qq i) (hh i) c → ¬ InS (lo j) (up j) (qq j) (hh j) c) := hid (fun i hi' hne => HD.out i j hne hi' hjr)
      obtain ⟨u0, z0, y0⟩ := there_at HT.out (show j * 3 < n * 3 by omega)
      obtain ⟨u1, z1, y1⟩ := there_at HT.out (show j * 3 + 1 < n * 3 by omega)
      have z1' : ∀ a0, (wr.setCell ⟨g, j * 3, none⟩ a0).cell? ⟨g, j * 3 + 1, none⟩ = some u1 := fun a0 => by rw [World.cell?_setCell_other _ _ _ _ (by simp)]; exact z1
      have y1' : ∀ a0, (wr.setCell ⟨g, j * 3, none⟩ a0).frozen? ⟨g, j * 3 + 1, none⟩ = false := fun a0 => by rw [World.frozen?_setCell]; exact y1
      have zl' : ∀ a0 a1, ((wr.setCell ⟨g, j * 3, none⟩ a0).setCell ⟨g, j * 3 + 1, none⟩ a1).cell? ⟨g, j * 3 + 2, none⟩ = some sv := fun a0 a1 => by rw [World.cell?_setCell_other _ _ _ _ (by simp), World.cell?_setCell_other _ _ _ _ (by simp)]; exact q3
      have HM3 := hid (fun a0 a1 => (midh_set (midh_set (HM.out) hbg hgh hgp a0) hbg hgh hgp a1 : MidH base hi p q w ((wr.setCell ⟨g, j * 3, none⟩ a0).setCell ⟨g, j * 3 + 1, none⟩ a1)))
      have HT3 := hid (fun a0 a1 => (there_set (there_set (HT.out) a0) a1 : ((wr.setCell ⟨g, j * 3, none⟩ a0).setCell ⟨g, j * 3 + 1, none⟩ a1).there g 0 (n * 3)))
      have HA3 : Hid (∀ a0 a1 i (h : i < xs.length), i < j → ElS ((wr.setCell ⟨g, j * 3, none⟩ a0).setCell ⟨g, j * 3 + 1, none⟩ a1) g i (mkt (kkt k0 xs i) xs[i]) (ss i) (lo i) (up i) (qq i) (hh i)) := hid (fun a0 a1 i h h1 => (((HA.out i h h1).set (fun q => (HC.out i h g q).2.2.2 rfl) (by show _ < i * 3 ∨ i * 3 + 3 ≤ _; omega) a0).set (fun q => (HC.out i h g q).2.2.2 rfl) (by show _ < i * 3 ∨ i * 3 + 3 ≤ _; omega) a1))
      have HZ3 : Hid (∀ a0 a1 i (h : i < xs.length), j + 1 ≤ i → ElS ((wr.setCell ⟨g, j * 3, none⟩ a0).setCell ⟨g, j * 3 + 1, none⟩ a1) g i xs[i] (ss i) (lo i) (up i) (qq i) (hh i)) := hid (fun a0 a1 i h h1 => (((HZ.out i h (by omega)).set (fun q => (HC.out i h g q).2.2.2 rfl) (by show _ < i * 3 ∨ i * 3 + 3 ≤ _; omega) a0).set (fun q => (HC.out i h g q).2.2.2 rfl) (by show _ < i * 3 ∨ i * 3 + 3 ≤ _; omega) a1))
      have x0 : ∀ a0 a1, ((wr.setCell ⟨g, j * 3, none⟩ a0).setCell ⟨g, j * 3 + 1, none⟩ a1).cell? ⟨g, j * 3, none⟩ = some a0 := fun a0 a1 => by rw [World.cell?_setCell_other _ _ _ _ (by simp)]; exact World.cell?_setCell_same _ _ _ z0
      have x1 : ∀ a0 a1, ((wr.setCell ⟨g, j * 3, none⟩ a0).setCell ⟨g, j * 3 + 1, none⟩ a1).cell? ⟨g, j * 3 + 1, none⟩ = some a1 := fun a0 a1 => by exact World.cell?_setCell_same _ _ _ (z1' a0)
      have HX := hid (fun a0 a1 => (⟨x0 a0 a1, x1 a0 a1, zl' a0 a1⟩ : ((wr.setCell ⟨g, j * 3, none⟩ a0).setCell ⟨g, j * 3 + 1, none⟩ a1).cell? ⟨g, j * 3, none⟩ = some a0 ∧ ((wr.setCell ⟨g, j * 3, none⟩ a0).setCell ⟨g, j * 3 + 1, none⟩ a1).cell? ⟨g, j * 3 + 1, none⟩ = some a1 ∧ ((wr.setCell ⟨g, j * 3, none⟩ a0).setCell ⟨g, j * 3 + 1, none⟩ a1).cell? ⟨g, j * 3 + 2, none⟩ = some sv))
      have HP3 := hid (fun a0 a1 => (ZS.out.frame (fun q q1 q2 q3 => by have hqg : q ≠ g := fun e => hgj (e ▸ (inS_of q1 q2 q3)); rw [Below.heap_setCell _ _ _ _ (by dsimp only; omega), Below.heap_setCell _ _ _ _ (by dsimp only; omega)]) (by simp) : LCH KN (lo j) (hh j) (up j) (qq j) ((wr.setCell ⟨g, j * 3, none⟩ a0).setCell ⟨g, j * 3 + 1, none⟩ a1) sv cs))
      have HSZ := hid (fun a0 a1 => (by simp only [World.size_setCell] : ((wr.setCell ⟨g, j * 3, none⟩ a0).setCell ⟨g, j * 3 + 1, none⟩ a1).heap.size = wr.heap.size))
      clear ZS zc
      clear HM HT HA HZ q3 z1 y1 x0 x1
      go_wp2_with fail
      refine (mark_chsH (lo j) (hh j) (up j) (qq j) sv cs (k + 1 + 1) _ hcs (by omega) (by omega) (HP3.out _ _)).mono ?_
      rintro e w1 ⟨rfl, hp1, hg⟩
      have hsz1 := hg.1.2.2.2.1
      rw [HSZ.out] at hsz1
      have HM5 := hid (midh_trans (HM3.out (.int .i64 k) (.bool ((k + 1) % 3 == 0))) (midh_in hg hcj))
      have hbg1 := midh_out hg (c := g) (by rw [HSZ.out]; omega) hgj
      have HT5 : Hid (w1.there g 0 (n * 3)) := hid (fun i hi' => by
        obtain ⟨s1, s2⟩ := HT3.out (.int .i64 k) (.bool ((k + 1) % 3 == 0)) i hi'
        simp only [World.cell?, World.frozen?, hbg1]; exact ⟨s1, s2⟩)
      have HA5 : Hid (∀ i (h : i < xs.length), i < j + 1 → ElS w1 g i (mkt (kkt k0 xs i) xs[i]) (ss i) (lo i) (up i) (qq i) (hh i)) := hid (fun i h h1 => by
        by_cases e : i = j
        · subst e
          obtain ⟨s0, s1, s2⟩ := HX.out (.int .i64 k) (.bool ((k + 1) % 3 == 0))
          rw [← HSJ.out]
          refine HMK.out w1 (fun t ht => ?_) (by rw [show k + 2 = k + 1 + 1 by omega]; exact hp1)
          rcases (show t = 0 ∨ t = 1 ∨ t = 2 by omega) with e | e | e <;> subst e
          · exact (World.cell?_of_block hbg1).trans s0
          · exact (World.cell?_of_block hbg1).trans s1
          · exact (World.cell?_of_block hbg1).trans s2
        · exact (HA3.out (.int .i64 k) (.bool ((k + 1) % 3 == 0)) i h (by omega)).mid hg hbg1 (HDJ.out i h e))
      have HZ5 : Hid (∀ i (h : i < xs.length), j + 1 ≤ i → ElS w1 g i xs[i] (ss i) (lo i) (up i) (qq i) (hh i)) := hid (fun i h h1 => (HZ3.out (.int .i64 k) (.bool ((k + 1) % 3 == 0)) i h h1).mid hg hbg1 (HDJ.out i h (by omega)))
      have HK5 : Hid (kkc (k + 1 + 1) cs cs.length = kkt k0 xs (j + 1)) := hid (by rw [HKN.out, show k + 2 = k + 1 + 1 by omega])
      clear hg hp1 HM3 HT3 HA3 HZ3 HX HP3 HSZ zl' z1' y1' hbg1
      obtain ⟨kq0, kq1⟩ := kkc_bound (k0 := k + 1 + 1) hcs.2 cs.length (Nat.le_refl _)
      generalize kkc (k + 1 + 1) cs cs.length = kq at *
      go_wp2_with fail
      go_roundw
      case rel => exact ⟨j + 1, _, by go_num, rfl, by omega, HK5, HM5, HT5, HA5, HZ5⟩
      case measure => simp [intOf]; omega
    · obtain rfl : j = n := by omega
      have c1 : (j : Int) ≤ (j : Int) := by omega
      go_wp2_with fail
      go_ret
      obtain ⟨e1, e2⟩ := HF.out wr k HKJ.out HM.out HT.out HA.out
      exact ⟨e1, e2, HM.out⟩
end Go.Proofs.YtnajddjalagmoaaGreatDoor
namespace Go.Proofs.YtnajddjalagmoaaGreatDoor
open Go.RowKit
set_option linter.unusedSimpArgs false
set_option linter.unusedVariables false
theorem LTS.frame {base hi p q : Nat} {w w' : World} {v : Value} {xs : List Tx} (h : LTS base hi p q w v xs) (hb : ∀ c, base ≤ c → c < hi → (c < p ∨ q ≤ c) → w'.heap[c]? = w.heap[c]?) (hs : w.heap.size ≤ w'.heap.size) : LTS base hi p q w' v xs := by
  obtain ⟨h0, h | ⟨g, cap, ss, lo, up, qq, hh, h1, h2, h3, h4, h5, h6, h7, h8⟩⟩ := h
  · exact ⟨by omega, .inl h⟩
  · have eg := hb g h3 h4 h8
    refine ⟨by omega, .inr ⟨g, cap, ss, lo, up, qq, hh, h1, h2, h3, h4, fun j hj => ?_, fun j hj => ?_, h7, h8⟩⟩
    · obtain ⟨s1, s2⟩ := h5 j hj
      simp only [World.cell?, World.frozen?, eg]; exact ⟨s1, s2⟩
    · obtain ⟨⟨a1, a2⟩, a3⟩ := h6 j hj
      exact ⟨⟨fun t ht => (World.cell?_of_block eg).trans (a1 t ht), a2.frame (fun c c1 c2 c3 => by have := a3 c (inS_of c1 c2 c3); exact hb c this.1 this.2.1 this.2.2.1) hs⟩, a3⟩
theorem LTS.below {base hi p q : Nat} {w w' : World} {v : Value} {xs : List Tx} (h : LTS base hi p q w v xs) (H : Below w.heap.size w w') : LTS base hi p q w' v xs :=
  h.frame (fun c _ c2 _ => H.block c (by have := h.1; omega)) H.size
theorem LTS.txs {base hi p q : Nat} {w : World} {a : Option Addr} {n cap : Nat} {xs : List Tx} (h : LTS base hi p q w (.slice a n cap) xs) (hm : ∀ j (h : j < xs.length), xs[j].2.2.length ≤ 1099511627776) : Txs (fun _ => True) 1099511627776 w a xs := by
  obtain ⟨h0, h⟩ := h
  rcases h with ⟨rfl, _⟩ | ⟨g, cp, ss, lo, up, qq, hh, e, h1, h2, h3, h4, h5, h6, _⟩
  · exact .inl rfl
  · cases e
    refine .inr ⟨g, 0, rfl, by omega, fun j hj => ?_⟩
    obtain ⟨⟨b1, b2'⟩, a2⟩ := h5 j hj
    have b2 := b2'.lc
    obtain ⟨a', cap', e, f1, f2⟩ := LC.form b2
    have k0 := b1 0 (by decide)
    have k1 := b1 1 (by decide)
    have k2 := b1 2 (by decide)
    simp only [KT, e] at k0 k1 k2
    rw [Nat.zero_add]
    rw [e] at b2
    have hc := LC.chsN b2
    refine ⟨a', cap', k0, k1, k2, f1, hm j hj, ?_, fun _ _ _ => trivial⟩
    rcases hc with hc | ⟨b, o, e2, hb, hc⟩
    · exact .inl hc
    · refine .inr ⟨b, o, e2, hb, fun i hi' => ?_⟩
      obtain ⟨a4', cap4, q0, q1, q2, q3, q4, q5, q6, q7⟩ := hc i hi'
      exact ⟨a4', cap4, q0, q1, q2, q3, q4, q5, q6, fun _ _ _ => trivial⟩
/-- What lies in one piece each lies in two. -/
theorem LCH.lts {base hi p q : Nat} {w : World} {v : Value} {xs : List Tx} (h : LCH KT base hi p q w v xs) : LTS base hi p q w v xs := by
  obtain ⟨h0, h | ⟨g, cap, ss, lo, up, h1, h2, h3, h4, h5, h6, h7, h8, h9⟩⟩ := h
  · exact ⟨h0, .inl h⟩
  · refine ⟨h0, .inr ⟨g, cap, ss, lo, up, up, up, h1, h2, h3, h4, h5, fun j hj => ?_, fun i j hij hi' hj c c1 c2 => ?_, h8⟩⟩
    · obtain ⟨a1, a2, a3, a4⟩ := h6 j hj
      have a5 := h9 j hj
      refine ⟨⟨a1.1, LCH.kn (LC.hole (show LC KC (lo j) (up j) w (ss j) xs[j].2.2 from a1.2) (.inl (Nat.le_refl _)))⟩, fun c hc => ?_⟩
      unfold InS at hc
      omega
    · have := h7 i j hij hi' hj
      unfold InS at c1 c2
      omega
set_option maxHeartbeats 4000000 in
set_option maxRecDepth 100000 in
theorem mark_storeS (b1 u1 b2 u2 lo hi : Nat) (now : Int) (a ta : Option Addr) (cap tcap : Nat) (rs : List Rw) (ts : List Tx) (w : World) (hr : rwS rs) (ht : txS ts) (e1 : lo ≤ b1) (e2 : u1 ≤ hi) (e3 : lo ≤ b2) (e4 : u2 ≤ hi) (e6 : hi ≤ w.heap.size) (h1 : LC KR b1 u1 w (.slice a rs.length cap) rs) (h2 : LTS b2 u2 b1 u1 w (.slice ta ts.length tcap) ts) : Calls Tryz.prog 13 #[.agg #[.int .i64 now, .slice a rs.length cap, .slice ta ts.length tcap], .int .i64 1] w fun e w' => e = .returned (.int .i64 (kst rs ts)) ∧ LC KR b1 u1 w' (.slice a rs.length cap) (mkr 1 rs) ∧ LTS b2 u2 b1 u1 w' (.slice ta ts.length tcap) (mks (kkr 1 rs rs.length) ts) ∧ Mid lo hi w w' := by
  have H1 := hid h1
  have H2 := hid h2
  obtain ⟨⟨p1, p2⟩, p3⟩ := kst_pos hr ht
  have HM := hid (fun w' (h : LC KR b1 u1 w' (.slice a rs.length cap) rs) => mark_rwsX b1 u1 (.slice a rs.length cap) rs 1 w' hr (by omega) (by omega) h)
  have HT := hid (fun w' (h : LTS b2 u2 b1 u1 w' (.slice ta ts.length tcap) ts) => mark_txsS b2 u2 b1 u1 (.slice ta ts.length tcap) ts (kkr 1 rs rs.length) w' ht (by omega) (by omega) h)
  have HKS : Hid (kkt (kkr 1 rs rs.length) ts ts.length = kst rs ts) := hid rfl
  rw [HKS.out] at HT
  clear h1 h2 HKS
  generalize kst rs ts = ks at *
  generalize kkr 1 rs rs.length = kr at *
  go_enter Tryz.func13, Tryz.ntmps13
  go_wp2_with fail
  have gS := new_alloc w w.heap.size (.cells #[.int .i64 now, .slice a rs.length cap, .slice ta ts.length tcap] 38) rfl
  have hal : Below w.heap.size w (w.alloc (.cells #[.int .i64 now, .slice a rs.length cap, .slice ta ts.length tcap] 38)) := balloc (Below.refl _ _) _
  have hwz : w.heap.size < (w.alloc (.cells #[.int .i64 now, .slice a rs.length cap, .slice ta ts.length tcap] 38)).heap.size := by simp
  replace H1 := hid (H1.out.below hal)
  replace H2 := hid (H2.out.below hal)
  have HMB := hid (mid_below (lo := lo) (hi := hi) hal)
  clear hal
  generalize w.alloc (.cells #[.int .i64 now, .slice a rs.length cap, .slice ta ts.length tcap] 38) = W at *
  refine (markRowsX_of _ now a cap rs kr b1 u1 (HM.out) H1.out).mono ?_
  rintro e y ⟨rfl, r1, m1⟩
  have g1 : y.heap[w.heap.size]? = _ := (mid_blk m1 hwz (by omega)).trans gS
  have R1 := hid r1
  have HM1 := hid m1
  replace H2 := hid (H2.out.frame (fun c c1 c2 c3 => mid_blk m1 (by have := H2.out.1; omega) c3) m1.2.2.2.1)
  obtain ⟨⟨x0, x1, x2⟩, _⟩ := cellk3 g1
  clear r1 m1 g1 gS
  go_wp2_with fail
  refine (HT.out _ H2.out).mono ?_
  rintro e z ⟨rfl, r2, m2⟩
  have R2 := hid r2
  have R3 := hid (R1.out.frame (fun c c1 c2 => m2.2 c (by have := R1.out.1; omega) c1 c2) m2.1.2.2.2.1)
  have HM3 := hid (mid_trans (mid_trans HMB.out (mid_wide HM1.out e1 e2)) (mid_wide m2.1 e3 e4))
  clear r2 m2
  go_wp2_with fail
  go_ret
  exact ⟨rfl, R3.out, R2.out, HM3.out⟩
end Go.Proofs.YtnajddjalagmoaaGreatDoor
namespace Go.Proofs.YtnajddjalagmoaaGreatDoor
open Go.RowKit
set_option linter.unusedSimpArgs false
set_option linter.unusedVariables false
theorem LX.setH {α : Type} {K : Kd α} {t : TypeId} {base hi b0 c g i p S : Nat} {W w' : World} {xs : List α} {ps : List (α × Value)} {x : α} {sv : Value} (h : LX K t base hi W (.slice (some ⟨g, 0, none⟩) xs.length c) xs ps) (hi' : i < xs.length) (hbh : base ≤ hi) (hS : hi ≤ S) (hp : S ≤ p) (hpw : p < w'.heap.size) (hsub : K.sub p (p + 1) w' sv x) (hown : w'.ownsRow b0 t K.sz (.slice (some ⟨g, 0, none⟩) xs.length c) xs.length ((flatK K ps).take (i * K.sz) ++ K.vals x sv ++ (flatK K ps).drop (i * K.sz + K.sz))) (hfr : ∀ b, base ≤ b → b < hi → b ≠ g → w'.heap[b]? = W.heap[b]?) (hsz : W.heap.size ≤ w'.heap.size) : LCH K base w'.heap.size hi S w' (.slice (some ⟨g, 0, none⟩) xs.length c) (xs.set i x) := by
  have hpl := h.plen
  obtain ⟨h1, h2, h3, h4, lo, up, h5, h6⟩ := h
  have hgb := (h2.lt g rfl).1
  have hgh := h3 g rfl
  have hR := lch_own (K := K) (t := t) (b0 := b0) (base := base) (hi := w'.heap.size) (p := hi) (q := S) (g := g) (c := c) (w := w') (xs := xs.set i x) (ps := ps.set i (x, sv)) (by rw [List.map_set, h1]) (by rw [List.length_set, flatK_set K (x, sv) ps i (by omega)]; exact hown) hgb (by omega) (Nat.le_refl _)
    (fun j => if j = i then p else lo j) (fun j => if j = i then p + 1 else up j)
    (fun j hj => by
      rw [List.length_set] at hj
      by_cases e : j = i
      · subst e
        simp only [if_true, List.getElem_set_self]
        exact ⟨hsub, by omega, by omega, by omega, .inr hp⟩
      · simp only [if_neg e]
        rw [List.getElem_set_ne (by omega)]
        obtain ⟨a1, a2, a3, a4⟩ := h5 j hj
        have a5 := a4 g rfl
        exact ⟨K.frame a1 (fun b b1 b2 => hfr b (by omega) (by omega) (by omega)) hsz, a2, by omega, a5, .inl a3⟩)
    (fun a b hne ha hb => by
      rw [List.length_set] at ha hb
      have hu : ∀ k, k < ps.length → up k ≤ hi := fun k hk => (h5 k hk).2.2.1
      by_cases a1 : a = i
      · simp only [if_pos a1, if_neg (show ¬ b = i by omega)]
        have := hu b hb; omega
      · by_cases b1 : b = i
        · simp only [if_neg a1, if_pos b1]
          have := hu a ha; omega
        · simp only [if_neg a1, if_neg b1]
          rcases Nat.lt_or_gt_of_ne hne with q | q
          · exact .inl (h6 a b q hb)
          · exact .inr (h6 b a q ha))
    (by omega)
  rw [List.length_set] at hR
  exact hR
theorem set3L {α : Type} (L : List α) (k : Nat) (a b c : α) (h : k + 3 ≤ L.length) : ((L.set k a).set (k + 1) b).set (k + 2) c = L.take k ++ [a, b, c] ++ L.drop (k + 3) := by
  obtain ⟨A, o0, o1, o2, R, rfl, hA⟩ : ∃ A o0 o1 o2 R, L = A ++ o0 :: o1 :: o2 :: R ∧ A.length = k := by
    have e := (List.take_append_drop k L).symm
    have hl : (L.drop k).length = L.length - k := by simp
    match hd : L.drop k, hl with
    | [], hl => simp at hl; omega
    | [_], hl => simp at hl; omega
    | [_, _], hl => simp at hl; omega
    | o0 :: o1 :: o2 :: R, _ => exact ⟨L.take k, o0, o1, o2, R, by rw [← hd]; exact e, by simp; omega⟩
  subst hA
  simp [List.set_append, List.take_append, List.drop_append]
theorem own_set3 {w : World} {base g c n i : Nat} {t : TypeId} {xs : List Value} (h : w.ownsRow base t 3 (.slice (some ⟨g, 0, none⟩) n c) n xs) (hi : i < n) (x0 x1 x2 : Value) : (((w.setCell ⟨g, i * 3, none⟩ x0).setCell ⟨g, i * 3 + 1, none⟩ x1).setCell ⟨g, i * 3 + 2, none⟩ x2).ownsRow base t 3 (.slice (some ⟨g, 0, none⟩) n c) n (xs.take (i * 3) ++ [x0, x1, x2] ++ xs.drop (i * 3 + 3)) := by
  have hxl := h.1
  refine ⟨by simp; omega, ?_⟩
  rcases h.2 with ⟨q, _⟩ | ⟨g', c', cur, e, q1, q2, q3, q4, q5, q6⟩
  · cases q
  · cases e
    refine .inr ⟨g, c, _, rfl, q1, set_at (set_at (set_at q2)), q3, q4, by simp; omega, ?_⟩
    have hcl : cur.toList.length = c * 3 := by simpa using q5
    have e1 : (((cur.setIfInBounds (i * 3) x0).setIfInBounds (i * 3 + 1) x1).setIfInBounds (i * 3 + 2) x2).toList = cur.toList.take (i * 3) ++ [x0, x1, x2] ++ cur.toList.drop (i * 3 + 3) := by
      simp only [Array.toList_setIfInBounds]
      exact set3L _ _ _ _ _ (by omega)
    rw [e1]
    obtain ⟨r, hr⟩ : ∃ r, cur.toList = xs ++ r := ⟨cur.toList.drop (n * 3), by rw [← q6]; exact (List.take_append_drop _ _).symm⟩
    have f1 : cur.toList.take (i * 3) = xs.take (i * 3) := by rw [hr, List.take_append_of_le_length (by omega)]
    have f2 : cur.toList.drop (i * 3 + 3) = xs.drop (i * 3 + 3) ++ r := by rw [hr, List.drop_append_of_le_length (by omega)]
    rw [f1, f2, ← List.append_assoc, List.take_append_of_le_length (by simp; omega)]
    exact List.take_of_length_le (by simp; omega)
/-- One transaction's changes in new memory beside the old. -/
theorem LX.putS {t : TypeId} {base hi tg tcc m : Nat} {W : World} {ts : List Tx} {px : List (Tx × Value)} (h : LX KX t base hi W (.slice (some ⟨tg, 0, none⟩) ts.length tcc) ts px) (hm : m < ts.length) : ∃ sv lo up, KX.sub lo up W sv ts[m] ∧ base ≤ lo ∧ up ≤ hi ∧ (tg < lo ∨ up ≤ tg) ∧ base ≤ tg ∧ tg < hi ∧ W.cell? ⟨tg, m * 3, none⟩ = some (.int .i64 ts[m].1) ∧ W.cell? ⟨tg, m * 3 + 1, none⟩ = some (.bool ts[m].2.1) ∧ W.cell? ⟨tg, m * 3 + 2, none⟩ = some sv ∧
    ∀ (w' : World) (st : Int) (op : Bool) (cs : List Ch) (sv' : Value) (S Q : Nat), hi ≤ Q → Q ≤ S → W.heap.size ≤ w'.heap.size → S ≤ w'.heap.size → LCH KN lo w'.heap.size up S w' sv' cs → (∀ b, base ≤ b → b < hi → b ≠ tg → (b < lo ∨ up ≤ b) → w'.heap[b]? = W.heap[b]?) → w'.heap[tg]? = (((W.setCell ⟨tg, m * 3, none⟩ (.int .i64 st)).setCell ⟨tg, m * 3 + 1, none⟩ (.bool op)).setCell ⟨tg, m * 3 + 2, none⟩ sv').heap[tg]? → LTS base w'.heap.size hi Q w' (.slice (some ⟨tg, 0, none⟩) ts.length tcc) (ts.set m (st, op, cs)) := by
  have hpl := h.plen
  obtain ⟨h1, h2, h3, h4, lo, up, h5, h6⟩ := h
  have hgb := (h2.lt tg rfl).1
  have hgh := h3 tg rfl
  have hmp : m < px.length := by omega
  have ex : ∀ j (hj : j < ts.length), ts[j] = (px[j]'(by omega)).1 := fun j hj => by
    have : ts[j]? = (px.map Prod.fst)[j]? := by rw [h1]
    rw [List.getElem?_map, List.getElem?_eq_getElem hj, List.getElem?_eq_getElem (show j < px.length by omega)] at this
    exact Option.some.inj this
  obtain ⟨a1, a2, a3, a4⟩ := h5 m hmp
  have hc : ∀ t, t < 3 → W.cell? ⟨tg, m * 3 + t, none⟩ = (KX.vals px[m].1 px[m].2)[t]? := fun t ht => by
    rw [World.ownsRow.cellAt h2 _ (by show m * 3 + t < ts.length * 3; omega)]
    exact flatX_at KX px m t hmp ht
  have e := ex m hm
  refine ⟨px[m].2, lo m, up m, by rw [e]; exact a1, a2, a3, a4 tg rfl, hgb, hgh, by rw [e]; exact hc 0 (by decide), by rw [e]; exact hc 1 (by decide), hc 2 (by decide), ?_⟩
  intro w' st op cs sv' S Q q1 q2 q3 q4 hL hfr hT
  have hown : w'.ownsRow base t 3 (.slice (some ⟨tg, 0, none⟩) ts.length tcc) ts.length (flatK KX (px.set m ((st, op, cs), sv'))) := by
    rw [flatK_set KX ((st, op, cs), sv') px m hmp]
    exact own_frame (own_set3 h2 hm _ _ _) (fun g e => by simp [Value.ownBlock] at e; subst e; exact hT)
  have hcap : ts.length ≤ tcc := by
    rcases hown.2 with ⟨qq, _⟩ | ⟨_, _, _, e, _, _, hc, _⟩
    · cases qq
    · cases e; exact hc
  have hpl2 : (px.set m ((st, op, cs), sv')).length = px.length := List.length_set
  refine ⟨Nat.le_refl _, .inr ⟨tg, tcc, fun j => if h : j < px.length then ((px.set m ((st, op, cs), sv'))[j]'(by rw [hpl2]; exact h)).2 else .bool false, lo, up, fun j => if j = m then S else up j, fun j => if j = m then w'.heap.size else up j, by rw [List.length_set], by rw [List.length_set]; exact hcap, hgb, by omega, ?_, fun j hj => ?_, fun a b hne ha hb c c1 c2 => ?_, .inl hgh⟩⟩
  · rw [List.length_set]
    intro j hj
    simp only [Nat.zero_add]
    refine ⟨?_, World.ownsRow.frozenAt hown j⟩
    rw [World.ownsRow.cellAt hown j hj, List.getElem?_eq_getElem (by rw [flatK_len, hpl2, hpl]; exact hj)]
    rfl
  · rw [List.length_set] at hj
    have hjp : j < px.length := by omega
    have hcl : ∀ t, t < 3 → w'.cell? ⟨tg, j * 3 + t, none⟩ = (KX.vals ((px.set m ((st, op, cs), sv'))[j]'(by rw [hpl2]; exact hjp)).1 ((px.set m ((st, op, cs), sv'))[j]'(by rw [hpl2]; exact hjp)).2)[t]? := fun t ht => by
      rw [World.ownsRow.cellAt hown _ (by omega)]
      exact flatX_at KX _ j t (by rw [hpl2]; exact hjp) ht
    simp only [dif_pos hjp]
    obtain ⟨b1, b2, b3, b4⟩ := h5 j hjp
    have b5 := b4 tg rfl
    by_cases e : j = m
    · subst e
      simp only [if_true, List.getElem_set_self] at hcl ⊢
      refine ⟨⟨fun t ht => hcl t ht, hL⟩, fun c hc => ?_⟩
      unfold InS at hc
      omega
    · simp only [if_neg e]
      rw [List.getElem_set_ne (by omega)]
      have e3 : (px.set m ((st, op, cs), sv'))[j]'(by rw [hpl2]; exact hjp) = px[j] := List.getElem_set_ne (by omega) _
      rw [e3] at hcl ⊢
      rw [ex j hj]
      have hs : LC KC (lo j) (up j) W px[j].2 px[j].1.2.2 := b1.2.choose_spec.lc
      have hne2 : up j ≤ lo m ∨ up m ≤ lo j := by
        rcases Nat.lt_or_gt_of_ne e with q | q
        · exact .inl (h6 j m q hmp)
        · exact .inr (h6 m j q hjp)
      refine ⟨⟨fun t ht => hcl t ht, LCH.kn (LC.hole (hs.frame (fun b c1 c2 => hfr b (by omega) (by omega) (by omega) (by omega)) q3) (.inl (Nat.le_refl _)))⟩, fun c hc => ?_⟩
      unfold InS at hc
      omega
  · rw [List.length_set] at ha hb
    have ha' : a < px.length := by omega
    have hb' : b < px.length := by omega
    have u1 := (h5 a ha').2.2.1
    have u2 := (h5 b hb').2.2.1
    have hab : up a ≤ lo b ∨ up b ≤ lo a := by
      rcases Nat.lt_or_gt_of_ne hne with q | q
      · exact .inl (h6 a b q hb')
      · exact .inr (h6 b a q ha')
    unfold InS at c1 c2
    by_cases e1 : a = m
    · have e2 : ¬ b = m := by omega
      simp only [if_pos e1, if_neg e2] at c1 c2
      omega
    · by_cases e2 : b = m
      · simp only [if_neg e1, if_pos e2] at c1 c2
        omega
      · simp only [if_neg e1, if_neg e2] at c1 c2
        omega
end Go.Proofs.YtnajddjalagmoaaGreatDoor
