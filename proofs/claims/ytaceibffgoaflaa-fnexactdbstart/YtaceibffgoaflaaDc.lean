/- DbStart of the specification. -/
import Derived.Test.YtaceibffgoaflaaDb
namespace Go.Proofs.Ytaceibffgoaflaa
open Go.RowKit
set_option linter.unusedSimpArgs false
set_option linter.unusedVariables false
theorem own_formI {w : World} {B n : Nat} {v : Value} {zs : List Int} (h : w.ownsRow B 3 1 v n (fli zs)) (hn : zs.length = n) : ∃ a c, v = .slice a n c ∧ OwnI w a zs ∧ (∀ b off, a = some ⟨b, off, none⟩ → B ≤ b) := by
  have h' := h
  rcases h.2 with ⟨q, hn0⟩ | ⟨g, cap, cur, rfl, hb, hg, hc, _⟩
  · subst hn0
    exact ⟨none, 0, q, .inl ⟨rfl, List.length_eq_zero_iff.1 hn⟩, fun b off e => by (cases e)⟩
  · obtain ⟨e1, e2, e3⟩ := own_I h' hn
    exact ⟨some ⟨g, 0, none⟩, cap, rfl, e3, fun b off e => by cases e; exact e1⟩
theorem set_at3 {w : World} {p : Nat} {o0 o1 o2 o3 : Value} {t : TypeId} (h : w.heap[p]? = some (.cells #[o0, o1, o2, o3] t (0, 0))) (d : Value) : (w.setCell ⟨p, 3, none⟩ d).heap[p]? = some (.cells #[o0, o1, o2, d] t (0, 0)) := by
  have hlt := lt_of_block h
  have h' : w.heap[p] = .cells #[o0, o1, o2, o3] t (0, 0) := by simpa [Array.getElem?_eq_getElem hlt] using h
  show (w.heap.modify p _)[p]? = _
  rw [Array.getElem?_eq_getElem (by simpa using hlt), Array.getElem_modify_self, h']
  rfl
theorem old_alloc_ne {w : World} {b : Nat} {o : Obj} (h : b < w.heap.size) : (w.alloc o).heap[b]? = w.heap[b]? := by
  show (w.heap.push o)[b]? = _
  rw [Array.getElem?_push, if_neg (by omega)]
theorem own_frameD {w w' : World} {B : Nat} {e : TypeId} {sz : Nat} {v : Value} {n : Nat} {xs : List Value} (h : w.ownsRow B e sz v n xs) (hb : ∀ g, v.ownBlock = some g → w'.heap[g]? = w.heap[g]?) : w'.ownsRow B e sz v n xs := by
  refine ⟨h.1, ?_⟩
  rcases h.2 with q | ⟨g, c, cur, e1, q1, q2, q3⟩
  · exact .inl q
  · refine .inr ⟨g, c, cur, e1, q1, ?_, q3⟩
    rw [hb g (by rw [e1]; rfl)]; exact q2
theorem fli_succ (i : Nat) : fli (none1 i) ++ [Value.int .i64 (-1)] = fli (none1 (i + 1)) := by simp [fli, none1, List.replicate_succ']
theorem own_nilI {w : World} {B : Nat} : w.ownsRow B 3 1 (.slice none 0 0) 0 [] := ⟨by simp, .inl ⟨rfl, rfl⟩⟩
set_option maxRecDepth 100000 in
set_option maxHeartbeats 4000000 in
theorem spec_DbStart (z : Int) (w : World) : Calls Try.prog 4 #[.int .i64 z] w fun e w' => DS w z e w' := by
  obtain ⟨i0, hi0, hz0, hz1, hz2⟩ := info_parts Try.infoI
  have gZ := new_alloc w w.heap.size (.cells #[.int .i64 0, .slice none 0 0, .slice none 0 0, .slice none 0 0] 30) rfl
  have hB : Below w.heap.size w (w.alloc (.cells #[.int .i64 0, .slice none 0 0, .slice none 0 0, .slice none 0 0] 30)) := balloc (Below.refl _ _) _
  have hlt : (w.alloc (.cells #[.int .i64 0, .slice none 0 0, .slice none 0 0, .slice none 0 0] 30)).heap.size = w.heap.size + 1 := by simp
  go_enter Try.func4, Try.ntmps4
  go_upto_region 1 with fail
  generalize w.alloc (.cells #[.int .i64 0, .slice none 0 0, .slice none 0 0, .slice none 0 0] 30) = W at *
  by_cases h : 0 ≤ z ∧ z ≤ 20
  · obtain ⟨n, rfl⟩ := Int.eq_ofNat_of_zero_le h.1
    have hn : n ≤ 20 := by omega
    have c1 : (0 : Int) ≤ (n : Int) := by omega
    have c2 : (n : Int) ≤ (20 : Int) := by omega
    clear h
    go_wp2_with fail
    refine (inn_calls _ _ _ _).mono ?_
    rintro e w' ⟨rfl, hw⟩
    replace hw := hw.symm
    subst hw
    go_upto_region 4 with fail
    have gD := new_alloc W (w.heap.size + 1) (.cells #[.int .i64 0, .slice none 0 0, .slice none 0 0, .slice none 0 0] 30) hlt.symm
    have hal : Below W.heap.size W (W.alloc (.cells #[.int .i64 0, .slice none 0 0, .slice none 0 0, .slice none 0 0] 30)) := balloc (Below.refl _ _) _
    replace gZ := keepz hal gZ
    replace hB := btrans hB hal
    have hlt2 : (W.alloc (.cells #[.int .i64 0, .slice none 0 0, .slice none 0 0, .slice none 0 0] 30)).heap.size = w.heap.size + 2 := by simp [hlt]
    clear hal
    generalize W.alloc (.cells #[.int .i64 0, .slice none 0 0, .slice none 0 0, .slice none 0 0] 30) = Y at *
    go_wp2_with fail
    go_loopw [5] (fun ti wr => ∃ (i : Nat) (v : Value), ti = .int .i64 i ∧ i ≤ n ∧ Hid (wr.heap[w.heap.size + 1]? = some (.cells #[.int .i64 0, .slice none 0 0, .slice none 0 0, v] 30 (0, 0))) ∧ Hid (wr.heap[w.heap.size]? = some (.cells #[.int .i64 0, .slice none 0 0, .slice none 0 0, .slice none 0 0] 30 (0, 0))) ∧ Hid (wr.ownsRow (w.heap.size + 2) 3 1 v i (fli (none1 i))) ∧ Hid (Below w.heap.size w wr) ∧ w.heap.size + 2 ≤ wr.heap.size) (fun ti _ => n - (intOf ti).toNat)
    case atStart => exact ⟨0, .slice none 0 0, rfl, Nat.zero_le _, hid gD, hid gZ, hid own_nilI, hid hB, by omega⟩
    case round =>
      clear gD gZ hB
      obtain ⟨i, v, rfl, hi, HD, HZ, HO, HB, hsz⟩ := hrel
      by_cases hlt3 : i < n
      · have c3 : (i : Int) < (n : Int) := by omega
        obtain ⟨a, c, rfl, _, _⟩ := own_formI HO.out (none1_len i)
        obtain ⟨⟨d0, d1, d2, d3⟩, s0, s1, s2, s3⟩ := cellz4 HD.out
        go_wp2_with (at_builtin; refine wpList_append_own _ rfl (.tmp 17) (.tmp 18) 28 rfl (w.heap.size + 2) 3 i0 _ 1 8 Try.underlying28 hi0 hz0 hz1 hz2 rfl (by decide) _ _ _ rfl (HO.out.alloc _) ⟨wr.heap.size, 0, none⟩ 1 1 [.int .i64 (-1)] rfl rfl (World.news_of_block (cs := #[.int .i64 (-1)]) (t := 3) (fr := (0, 0)) (heap_alloc_new wr _)) (by simp [Value.oneCell']) (by unfold maxLen; omega) (by omega) (by simp; omega) ?_; intro v' w2 hown' hgrow _; have hD2 := hgrow.block (w.heap.size + 1) (by simp; omega) (fun e => by have := (World.ownsRow.lt HO.out _ e.symm).1; omega); have hZ2 := hgrow.block (w.heap.size) (by simp; omega) (fun e => by have := (World.ownsRow.lt HO.out _ e.symm).1; omega); have hD2 := hD2.trans (old_alloc HD.out); have hZ2 := hZ2.trans (old_alloc HZ.out); have ho2 : w2.ownsRow (w.heap.size + 2) 3 1 v' (i + 1) (fli (none1 (i + 1))) := fli_succ i ▸ hown'; obtain ⟨a', c', rfl, _, _⟩ := own_formI ho2 (none1_len _); obtain ⟨_, p0, p1, p2, p3⟩ := cellz4 hD2)
        have hb2 : Below w.heap.size w w2 := ⟨hgrow.os.trans HB.out.os, hgrow.tape.trans HB.out.tape, hgrow.output.trans HB.out.output, by have := hgrow.size; simp at this; omega, fun b hb => (hgrow.block b (by simp; omega) (fun e => by have := (World.ownsRow.lt HO.out _ e.symm).1; omega)).trans ((old_alloc_ne (by omega)).trans (HB.out.block b hb))⟩
        have hs2 : wr.heap.size ≤ w2.heap.size := by have := hgrow.size; simp at this; omega
        have hfar : ∀ b, b ≠ w.heap.size + 1 → (w2.setCell ⟨w.heap.size + 1, 3, none⟩ (.slice a' (i + 1) c')).heap[b]? = w2.heap[b]? := fun b hb => Below.heap_setCell _ _ _ _ (by dsimp only; omega)
        go_roundw
        case rel => exact ⟨i + 1, .slice a' (i + 1) c', by go_num, by omega, hid (set_at3 hD2 _), hid ((hfar _ (by omega)).trans hZ2), hid (own_frameD ho2 (fun g e => hfar g (by have := (World.ownsRow.lt ho2 g e).1; omega))), hid (bset hb2 (q := w.heap.size + 1) (k := 3) (by omega) _), by simp; omega⟩
        case measure => simp [intOf]; omega
      · have e : i = n := by omega
        subst e
        have c3 : (i : Int) ≤ (i : Int) := Int.le_refl _
        have gZ := HZ.out
        have hB := HB.out
        obtain ⟨a, c, rfl, ho, ha⟩ := own_formI HO.out (none1_len i)
        obtain ⟨⟨d0, d1, d2, d3⟩, _⟩ := cellz4 HD.out
        obtain ⟨_, s0, s1, s2, s3⟩ := cellz4 gZ
        go_wp2_with fail
        have gF := setz4 gZ (.int .i64 0) (.slice none 0 0) (.slice none 0 0) (.slice a i c)
        have bF := bset (bset (bset (bset hB (q := w.heap.size) (k := 0) (by omega) (.int .i64 0)) (q := w.heap.size) (k := 1) (by omega) (.slice none 0 0)) (q := w.heap.size) (k := 2) (by omega) (.slice none 0 0)) (q := w.heap.size) (k := 3) (by omega) (.slice a i c)
        have hfar : ∀ b, b ≠ w.heap.size → (((((wr.setCell ⟨w.heap.size, 0, none⟩ (.int .i64 0)).setCell ⟨w.heap.size, 1, none⟩ (.slice none 0 0)).setCell ⟨w.heap.size, 2, none⟩ (.slice none 0 0)).setCell ⟨w.heap.size, 3, none⟩ (.slice a i c))).heap[b]? = wr.heap[b]? := fun b hb => by rw [Below.heap_setCell _ _ _ _ (by dsimp only; omega), Below.heap_setCell _ _ _ _ (by dsimp only; omega), Below.heap_setCell _ _ _ _ (by dsimp only; omega), Below.heap_setCell _ _ _ _ (by dsimp only; omega)]
        have hszF : wr.heap.size ≤ (((((wr.setCell ⟨w.heap.size, 0, none⟩ (.int .i64 0)).setCell ⟨w.heap.size, 1, none⟩ (.slice none 0 0)).setCell ⟨w.heap.size, 2, none⟩ (.slice none 0 0)).setCell ⟨w.heap.size, 3, none⟩ (.slice a i c))).heap.size := by simp
        generalize ((((wr.setCell ⟨w.heap.size, 0, none⟩ (.int .i64 0)).setCell ⟨w.heap.size, 1, none⟩ (.slice none 0 0)).setCell ⟨w.heap.size, 2, none⟩ (.slice none 0 0)).setCell ⟨w.heap.size, 3, none⟩ (.slice a i c)) = wf at *
        obtain ⟨⟨z0, z1, z2, z3⟩, _⟩ := cellz4 gF
        exact bodyPost_ret (v := .tuple #[.agg #[.int .i64 0, .slice none 0 0, .slice none 0 0, .slice a i c], .bool true]) (by simp [results, Try.results4, go_sem, z0, z1, z2, z3]) rfl (ds_yes hn (ho.blk hszF (fun b off e => hfar b (by have := ha b off e; omega))) (fun b off e => by have := ha b off e; omega) bF)
  · have HN := hid h
    have hx : (decide ((0 : Int) ≤ z) && decide (z ≤ (20 : Int))) = false := by simp; omega
    go_wp2_with fail
    refine (inn_calls _ _ _ _).mono ?_
    rw [hx]
    rintro e w' ⟨rfl, hw⟩
    replace hw := hw.symm
    subst hw
    clear h hx
    obtain ⟨_, s0, s1, s2, s3⟩ := cellz4 gZ
    go_wp2_with fail
    have gF := setz4 gZ (.int .i64 0) (.slice none 0 0) (.slice none 0 0) (.slice none 0 0)
    have bF := bset (bset (bset (bset hB (q := w.heap.size) (k := 0) (by omega) (.int .i64 0)) (q := w.heap.size) (k := 1) (by omega) (.slice none 0 0)) (q := w.heap.size) (k := 2) (by omega) (.slice none 0 0)) (q := w.heap.size) (k := 3) (by omega) (.slice none 0 0)
    have hfar : ∀ b, b ≠ w.heap.size → (((((W.setCell ⟨w.heap.size, 0, none⟩ (.int .i64 0)).setCell ⟨w.heap.size, 1, none⟩ (.slice none 0 0)).setCell ⟨w.heap.size, 2, none⟩ (.slice none 0 0)).setCell ⟨w.heap.size, 3, none⟩ (.slice none 0 0))).heap[b]? = W.heap[b]? := fun b hb => by rw [Below.heap_setCell _ _ _ _ (by dsimp only; omega), Below.heap_setCell _ _ _ _ (by dsimp only; omega), Below.heap_setCell _ _ _ _ (by dsimp only; omega), Below.heap_setCell _ _ _ _ (by dsimp only; omega)]
    have hszF : W.heap.size ≤ (((((W.setCell ⟨w.heap.size, 0, none⟩ (.int .i64 0)).setCell ⟨w.heap.size, 1, none⟩ (.slice none 0 0)).setCell ⟨w.heap.size, 2, none⟩ (.slice none 0 0)).setCell ⟨w.heap.size, 3, none⟩ (.slice none 0 0))).heap.size := by simp
    generalize ((((W.setCell ⟨w.heap.size, 0, none⟩ (.int .i64 0)).setCell ⟨w.heap.size, 1, none⟩ (.slice none 0 0)).setCell ⟨w.heap.size, 2, none⟩ (.slice none 0 0)).setCell ⟨w.heap.size, 3, none⟩ (.slice none 0 0)) = wf at *
    obtain ⟨⟨z0, z1, z2, z3⟩, _⟩ := cellz4 gF
    exact bodyPost_ret (v := .tuple #[.agg #[.int .i64 0, .slice none 0 0, .slice none 0 0, .slice none 0 0], .bool false]) (by simp [results, Try.results4, go_sem, z0, z1, z2, z3]) rfl (ds_no HN.out bF)
end Go.Proofs.Ytaceibffgoaflaa
