/- Texts of stores, joined: Ba, ShBox, Has, Has2, Has3. -/
import Derived.Test.YtpgcnadmhbjlgaaGreatBa0
import Derived.Test.YtpgcnadmhbjlgaaGreatJ1
import Derived.Test.YtpgcnadmhbjlgaaGreatShLaw
import Derived.Test.YtpgcnadmhbjlgaaGreatGeo9
namespace Go.Proofs.YtpgcnadmhbjlgaaGreat
open Go.RowKit Go.Shelf Go.Lib Go.Sort
set_option linter.unusedSimpArgs false
set_option linter.unusedVariables false
theorem make_rowsB (n : Nat) (hn : n ≤ 1099511627776) (w : World) : (Instr.makeSlice 28 (.int .i64 0) (.int .i64 n)).run Tryz.prog w = .ok (.slice (some ⟨w.heap.size, 0, none⟩) 0 n) (w.alloc (.cells (madeCells #[.int .i64 0, .int .i64 0, .int .i64 0, .int .i64 0, .slice none 0 0] (n * 5)) 55)) := by
  obtain ⟨i0, hi, hz0, hz1, hz2⟩ := info_parts Tryz.infoRow
  have := run_make (P := Tryz.prog) w 28 55 i0 _ Tryz.underlying28 hi hz0 .i64 .i64 0 n (by omega) (by omega) (by rw [hz2]; omega) (by omega)
  rw [hz1] at this
  exact this
theorem own_frame0 {w w' : World} {B : Nat} {e : TypeId} {sz : Nat} {v : Value} {n : Nat} {xs : List Value} (h : w.ownsRow B e sz v n xs) (hb : ∀ g, v.ownBlock = some g → w'.heap[g]? = w.heap[g]?) : w'.ownsRow B e sz v n xs := by
  refine ⟨h.1, ?_⟩
  rcases h.2 with q | ⟨g, c, cur, e1, q1, q2, q3⟩
  · exact .inl q
  · refine .inr ⟨g, c, cur, e1, q1, ?_, q3⟩
    rw [hb g (by rw [e1]; rfl)]; exact q2
/-- The cells of a row that is there at a moment, its points in memory of the rows. -/
def Elx (w : World) (t : Int) (rs : List Rw) (x : El) : Prop := ∃ j, ∃ h : j < rs.length, thr (tr rs[j]) t = true ∧ x.1 = rs[j].1 ∧ x.2.1 = rs[j].2.1 ∧ x.2.2.1 = rs[j].2.2.1 ∧ x.2.2.2.1 = rs[j].2.2.2.1 ∧ x.2.2.2.2.2.1 = rs[j].2.2.2.2.length ∧ rs[j].2.2.2.2.length ≤ x.2.2.2.2.2.2 ∧ rs[j].2.2.2.2.length ≤ 1099511627776 ∧ Pts w x.2.2.2.2.1 rs[j].2.2.2.2
def ERow (B : Nat) (w : World) (v : Value) (xs : List El) : Prop := ∃ g cap, v = .slice (some ⟨g, 0, none⟩) xs.length cap ∧ g < w.heap.size ∧ w.ownsRow B 55 5 (.slice (some ⟨g, 0, none⟩) xs.length cap) xs.length (flat5 xs)
theorem ERow.below {B : Nat} {w w' : World} {v : Value} {xs : List El} (h : ERow B w v xs) (H : Below w.heap.size w w') : ERow B w' v xs := by
  obtain ⟨g, cap, rfl, h1, h3⟩ := h
  refine ⟨g, cap, rfl, Nat.lt_of_lt_of_le h1 H.size, h3.1, ?_⟩
  rcases h3.2 with ⟨q, _⟩ | ⟨g', c', cur, e, q1, q2, q3⟩
  · cases q
  · cases e
    exact .inr ⟨g, cap, cur, rfl, q1, by rw [H.block g h1]; exact q2, q3⟩
set_option maxRecDepth 100000 in
set_option maxHeartbeats 2000000 in
theorem there_1 (r : Rw) (a' : Option Addr) (cap' : Nat) (t : Int) (p : Nat) (w : World) (c1 : w.cell? ⟨p, 0, none⟩ = some (.int .i64 t)) : Calls Tryz.prog 42 #[rwv r a' cap', .pointer (some ⟨p, 0, none⟩)] w fun e w' => e = .returned (.tuple #[rwv r a' cap', .bool (thr (tr r) t)]) ∧ Below w.heap.size w w' := by
  have TH := hid (fun w' => impl_there r a' cap' t w')
  generalize thr (tr r) t = q2 at *
  obtain ⟨id2, fr, te, kd, ps⟩ := r
  unfold rwv at *
  simp only at *
  generalize ps.length = np at *
  have hB : Below w.heap.size w ((w.alloc (.cells #[.int .i64 id2, .int .i64 fr, .int .i64 te, .int .i64 kd, .slice a' np cap'] 55)).alloc (.cells #[.int .i64 0, .int .i64 0, .int .i64 0, .int .i64 0, .slice none 0 0] 55)) := balloc (balloc (Below.refl _ _) _) _
  have g0 := old_alloc (o' := .cells #[.int .i64 0, .int .i64 0, .int .i64 0, .int .i64 0, .slice none 0 0] 55) (new_alloc w w.heap.size (.cells #[.int .i64 id2, .int .i64 fr, .int .i64 te, .int .i64 kd, .slice a' np cap'] 55) rfl)
  have g1 := new_alloc (w.alloc (.cells #[.int .i64 id2, .int .i64 fr, .int .i64 te, .int .i64 kd, .slice a' np cap'] 55)) (w.heap.size + 1) (.cells #[.int .i64 0, .int .i64 0, .int .i64 0, .int .i64 0, .slice none 0 0] 55) (by simp)
  have hpn : p < w.heap.size := World.block_lt_of_cell? w _ c1
  replace c1 := keepalloc (keepalloc c1 (.cells #[.int .i64 id2, .int .i64 fr, .int .i64 te, .int .i64 kd, .slice a' np cap'] 55)) (.cells #[.int .i64 0, .int .i64 0, .int .i64 0, .int .i64 0, .slice none 0 0] 55)
  go_enter Tryz.func42, Tryz.ntmps42
  go_upto_region 1 with fail
  generalize (w.alloc (.cells #[.int .i64 id2, .int .i64 fr, .int .i64 te, .int .i64 kd, .slice a' np cap'] 55)).alloc (.cells #[.int .i64 0, .int .i64 0, .int .i64 0, .int .i64 0, .slice none 0 0] 55) = W at *
  obtain ⟨⟨x0, x1, x2, x3, x4⟩, _⟩ := cell5g g0
  have hWs := lt_of_block g1
  have HG1 := hid g1
  have HB := hid hB
  have hdr : W.drew.heap.size = W.heap.size := rfl
  clear g0 g1 hB
  go_region_held3 (fun w' => w'.cell? ⟨w.heap.size, 0, none⟩ = some (.int .i64 id2) ∧ w'.cell? ⟨w.heap.size, 1, none⟩ = some (.int .i64 fr) ∧ w'.cell? ⟨w.heap.size, 2, none⟩ = some (.int .i64 te) ∧ w'.cell? ⟨w.heap.size, 3, none⟩ = some (.int .i64 kd) ∧ w'.cell? ⟨w.heap.size, 4, none⟩ = some (.slice a' np cap') ∧ w'.cell? ⟨p, 0, none⟩ = some (.int .i64 t)) ((go_split_ands; (repeat' apply And.intro) <;> (repeat (first | with_reducible assumption | with_reducible refine keepset3 ?_ (by dsimp only; omega) | with_reducible refine keepdrew ?_ | with_reducible refine keepcell (by with_reducible assumption) ?_ | with_reducible refine keepalloc ?_ _))))
    (first
      | (go_at_call 43; refine (TH.out _).mono ?_; rintro e y2 ⟨rfl, hy2⟩; replace HB := hid (btrans (bdrew HB.out) hy2); have g1 := keepheap2 hy2 (show W.drew.heap[w.heap.size + 1]? = _ from HG1.out); obtain ⟨⟨v0, v1, v2, v3, v4⟩, u0, u1, u2, u3, u4⟩ := cell5g g1))
  go_wp2_with fail
  have gF := set5 g1 (.int .i64 id2) (.int .i64 fr) (.int .i64 te) (.int .i64 kd) (.slice a' np cap')
  have bF := bset (bset (bset (bset (bset HB.out (q := w.heap.size + 1) (k := 0) (by omega) (.int .i64 id2)) (q := w.heap.size + 1) (k := 1) (by omega) (.int .i64 fr)) (q := w.heap.size + 1) (k := 2) (by omega) (.int .i64 te)) (q := w.heap.size + 1) (k := 3) (by omega) (.int .i64 kd)) (q := w.heap.size + 1) (k := 4) (by omega) (.slice a' np cap')
  generalize (((((y2.setCell ⟨w.heap.size + 1, 0, none⟩ (.int .i64 id2)).setCell ⟨w.heap.size + 1, 1, none⟩ (.int .i64 fr)).setCell ⟨w.heap.size + 1, 2, none⟩ (.int .i64 te)).setCell ⟨w.heap.size + 1, 3, none⟩ (.int .i64 kd)).setCell ⟨w.heap.size + 1, 4, none⟩ (.slice a' np cap')) = wf at *
  obtain ⟨⟨z0, z1, z2, z3, z4⟩, _⟩ := cell5g gF
  exact bodyPost_ret (v := .tuple #[.agg #[.int .i64 id2, .int .i64 fr, .int .i64 te, .int .i64 kd, .slice a' np cap'], .bool q2]) (by simp [results, Tryz.results42, go_sem, z0, z1, z2, z3, z4]) rfl ⟨rfl, bF⟩
def KT0 (w : World) (t : Int) (rs : List Rw) (i : Nat) (xs : List El) : Prop := xs.length ≤ i ∧ xs.map (fun x => x.1) = idsT (rs.take i) t ∧ ∀ x ∈ xs, Elx w t rs x
set_option maxRecDepth 100000 in
set_option maxHeartbeats 2000000 in
theorem kept_there {N : Nat → Prop} (a : Option Addr) (cap : Nat) (rs : List Rw) (t : Int) (p : Nat) (w0 w : World) (hm : rs.length ≤ 1099511627776) (h : Rws N w0 a rs) (hb0 : Below w0.heap.size w0 w) (c1 : w.cell? ⟨p, 0, none⟩ = some (.int .i64 t)) : Calls Tryz.prog 41 #[.slice a rs.length cap, .func (.func 42) #[] #[.pointer (some ⟨p, 0, none⟩)]] w fun e w' => ∃ v xs, e = .returned v ∧ ERow w.heap.size w' v xs ∧ KT0 w0 t rs rs.length xs ∧ Below w.heap.size w w' := by
  obtain ⟨i0, hi0, hz0, hz1, hz2⟩ := info_parts Tryz.infoRow
  have HR := hid h
  have HB00 := hid hb0
  have HC := hid c1
  clear h c1 hb0
  have hmk := make_rowsB rs.length hm
  obtain ⟨n, hn⟩ : ∃ n, n = rs.length := ⟨_, rfl⟩
  have HN := hid hn.symm
  rw [← hn] at hm hmk ⊢
  clear hn
  have hB0 : Below w.heap.size w (w.alloc (.cells (madeCells #[.int .i64 0, .int .i64 0, .int .i64 0, .int .i64 0, .slice none 0 0] (n * 5)) 55)) := balloc (Below.refl _ _) _
  have HI : Hid (ERow w.heap.size (w.alloc (.cells (madeCells #[.int .i64 0, .int .i64 0, .int .i64 0, .int .i64 0, .slice none 0 0] (n * 5)) 55)) (.slice (some ⟨w.heap.size, 0, none⟩) 0 n) []) := hid (by
    have := World.ownsRow_made (base := w.heap.size) (e := 55) (size := 5) w (madeCells #[.int .i64 0, .int .i64 0, .int .i64 0, .int .i64 0, .slice none 0 0] (n * 5)) n (Nat.le_refl _) (by unfold maxLen; omega) (size_madeCells _ _)
    exact ⟨w.heap.size, n, rfl, by simp, by simpa [flat5] using this⟩)
  go_enter Tryz.func41, Tryz.ntmps41
  go_upto_region 2 with fail
  generalize w.alloc (.cells (madeCells #[.int .i64 0, .int .i64 0, .int .i64 0, .int .i64 0, .slice none 0 0] (n * 5)) 55) = W0 at *
  clear hmk
  go_wp2_with fail
  go_loopw [5, 15] (fun tv ti wr => ∃ i : Nat, ∃ xs : List El, ti = .int .i64 i ∧ i ≤ n ∧ Hid (KT0 w0 t rs i xs) ∧ Hid (ERow w.heap.size wr tv xs) ∧ Hid (Below w.heap.size w wr)) (fun _ ti _ => n - (intOf ti).toNat)
  case atStart => exact ⟨0, [], rfl, Nat.zero_le _, hid ⟨Nat.le_refl _, by simp [idsT], fun x hx => absurd hx (by simp)⟩, HI, hid hB0⟩
  case round =>
    clear HI hB0
    obtain ⟨i, xs, rfl, hi, HK, HV, HBW⟩ := hrel
    have hwX := HBW.out.size
    by_cases hlt : i < n
    · have d1 : (i : Int) < (n : Int) := by omega
      have hir : i < rs.length := by rw [HN.out]; exact hlt
      obtain ⟨b, o, rfl, hbs, a', cap', k0, k1, k2, k3, k4, k5, k6, k7, _⟩ := HR.out.at i hir
      replace k0 := keepcell (btrans HB00.out HBW.out) k0
      replace k1 := keepcell (btrans HB00.out HBW.out) k1
      replace k2 := keepcell (btrans HB00.out HBW.out) k2
      replace k3 := keepcell (btrans HB00.out HBW.out) k3
      replace k4 := keepcell (btrans HB00.out HBW.out) k4
      have hbx : Below wr.heap.size wr (wr.alloc (.cells #[.int .i64 rs[i].1, .int .i64 rs[i].2.1, .int .i64 rs[i].2.2.1, .int .i64 rs[i].2.2.2.1, .slice a' rs[i].2.2.2.2.length cap'] 55)) := balloc (Below.refl _ _) _
      have HT := hid (fun (W : World) (hb : Below wr.heap.size wr W) => there_1 rs[i] a' cap' t p W (keepcell (btrans HBW.out hb) HC.out))
      have HNO : Hid (thr (tr rs[i]) t = false → KT0 w0 t rs (i + 1) xs) := hid (fun e => ⟨by have := HK.out.1; omega, by rw [ids_next hir, if_neg (by rw [e]; simp)]; exact HK.out.2.1, HK.out.2.2⟩)
      have HYE : Hid (thr (tr rs[i]) t = true → KT0 w0 t rs (i + 1) (xs ++ [(rs[i].1, rs[i].2.1, rs[i].2.2.1, rs[i].2.2.2.1, a', rs[i].2.2.2.2.length, cap')])) := hid (fun e => by
        refine ⟨by have := HK.out.1; simp; omega, by rw [ids_next hir, if_pos e, List.map_append, HK.out.2.1]; rfl, fun x hx => ?_⟩
        rcases List.mem_append.1 hx with hx | hx
        · exact HK.out.2.2 x hx
        · simp at hx
          subst hx
          exact ⟨i, hir, e, rfl, rfl, rfl, rfl, rfl, k5, k6, k7⟩)
      have hxl := HK.out.1
      clear k5 k6 k7
      unfold rwv at HT
      generalize thr (tr rs[i]) t = q2 at *
      generalize rs[i].1 = id2 at *
      generalize rs[i].2.1 = fr at *
      generalize rs[i].2.2.1 = te at *
      generalize rs[i].2.2.2.1 = kd at *
      generalize rs[i].2.2.2.2.length = np at *
      obtain ⟨g, c, rfl, hgl, hown⟩ := HV.out
      have HO := hid hown
      clear hown HV
      go_upto_region 5 with fail
      have gx := new_alloc wr wr.heap.size (.cells #[.int .i64 id2, .int .i64 fr, .int .i64 te, .int .i64 kd, .slice a' np cap'] 55) rfl
      have HI1 := hid ((show ERow w.heap.size wr _ xs from ⟨g, c, rfl, hgl, HO.out⟩).below hbx)
      have HB1 := hid (btrans HBW.out hbx)
      have HT1 := hid (HT.out _ hbx)
      clear k0 k1 k2 k3 k4 HT hbx HO hgl
      generalize wr.alloc (.cells #[.int .i64 id2, .int .i64 fr, .int .i64 te, .int .i64 kd, .slice a' np cap'] 55) = W1 at *
      generalize wr.heap.size = X at *
      obtain ⟨⟨x0, x1, x2, x3, x4⟩, _⟩ := cell5g gx
      clear gx
      go_wp2_with fail
      refine HT1.out.mono ?_
      rintro e z ⟨rfl, hz⟩
      have HBz := hid (btrans HB1.out hz)
      have HIz := hid (HI1.out.below hz)
      clear hz x0 x1 x2 x3 x4 HT1 HI1 HB1
      cases q2
      · have HK2 := hid (HNO.out rfl)
        go_wp2_with fail
        have hal : Below z.heap.size z (z.alloc (.cells #[.int .i64 id2, .int .i64 fr, .int .i64 te, .int .i64 kd, .slice a' np cap'] 55)) := balloc (Below.refl _ _) _
        have HV2 := hid (HIz.out.below hal)
        have HBa := hid (btrans HBz.out hal)
        clear hal
        go_roundw
        case rel => exact ⟨i + 1, xs, by go_num, by omega, HK2, HV2, HBa⟩
        case measure => simp [intOf]; omega
      · have HK2 := hid (HYE.out rfl)
        clear HNO HYE HK
        go_upto_region 7 with fail
        have hal : Below z.heap.size z (z.alloc (.cells #[.int .i64 id2, .int .i64 fr, .int .i64 te, .int .i64 kd, .slice a' np cap'] 55)) := balloc (Below.refl _ _) _
        have gy := new_alloc z z.heap.size (.cells #[.int .i64 id2, .int .i64 fr, .int .i64 te, .int .i64 kd, .slice a' np cap'] 55) rfl
        have HIa := hid (HIz.out.below hal)
        have HBa := hid (btrans HBz.out hal)
        clear hal HIz HBz
        generalize z.alloc (.cells #[.int .i64 id2, .int .i64 fr, .int .i64 te, .int .i64 kd, .slice a' np cap'] 55) = Z at *
        obtain ⟨⟨x0, x1, x2, x3, x4⟩, _⟩ := cell5g gy
        clear gy
        obtain ⟨g', c', e', hgl', hownZ⟩ := HIa.out
        cases e'
        have hwZ := HBa.out.size
        go_wp2_with (at_builtin; (refine wpList_append_lies _ rfl (.tmp 26) (.tmp 28) 28 rfl w.heap.size 55 i0 _ 5 56 Tryz.underlying28 hi0 hz0 hz1 hz2 rfl (by decide) (.slice (some ⟨g, 0, none⟩) xs.length c) xs.length (flat5 xs) rfl (hownZ.alloc _) ⟨Z.heap.size, 0, none⟩ 1 1 (ev (id2, fr, te, kd, a', np, cap')) rfl rfl (World.news_of_block (cs := #[.int .i64 id2, .int .i64 fr, .int .i64 te, .int .i64 kd, .slice a' np cap']) (t := 55) (fr := (0, 0)) (heap_alloc_new Z _)) (by simp [ev, Value.oneCell']) (by omega) (by unfold maxLen; omega) (by omega) (by simp; omega) (Z.heap.size + 1) (by simp) ?_; intro gg cq w2 hown2 hgrow hat hlt2))
        have hb2 : Below w.heap.size w w2 := Below.grown (balloc HBa.out _) hgrow (by simp; omega) (fun k e => (hownZ.lt k e).1)
        have hgg : gg < w2.heap.size := by
          rcases hown2.2 with ⟨q, _⟩ | ⟨g9, c9, cur9, e9, _, q9, _⟩
          · cases q
          · cases e9; exact lt_of_block q9
        have HSN2 : Hid (ERow w.heap.size w2 (.slice (some ⟨gg, 0, none⟩) (xs.length + 1) cq) (xs ++ [(id2, fr, te, kd, a', np, cap')])) := hid (by
          refine ⟨gg, cq, by simp, hgg, ?_⟩
          rw [flat5_snoc]
          simpa using hown2)
        have HB2 := hid hb2
        clear hb2 hown2 hgrow hownZ
        go_roundw
        case rel => exact ⟨i + 1, _, by go_num, by omega, HK2, HSN2, HB2⟩
        case measure => simp [intOf]; omega
    · have d1 : (n : Int) ≤ (i : Int) := by omega
      have hin : i = n := by omega
      have HF : Hid (KT0 w0 t rs n xs) := hid (by rw [← hin]; exact HK.out)
      clear hin HK
      go_wp2_with fail
      go_ret
      exact ⟨_, xs, rfl, HV.out, HF.out, HBW.out⟩
/-- The cells of what is there under an id. -/
def EL (w : World) (rs : List Rw) (t : Int) (y : El) : Prop := y.2.2.2.1 = raK (rat rs y.1 t) ∧ y.2.2.2.2.2.1 = (raP (rat rs y.1 t)).length ∧ (raP (rat rs y.1 t)).length ≤ y.2.2.2.2.2.2 ∧ (raP (rat rs y.1 t)).length ≤ 1099511627776 ∧ Pts w y.2.2.2.2.1 (raP (rat rs y.1 t)) ∧ shok (raK (rat rs y.1 t)) (raP (rat rs y.1 t)) = true
theorem Elx.el {w : World} {now : Int} {rs : List Rw} {t : Int} {y : El} (hr : rowsb now rs = true) (h : Elx w t rs y) : EL w rs t y := by
  obtain ⟨j, hj, h1, h2, h3, h4, h5, h6, h7, h8, h9⟩ := h
  have e := rat_of hr hj h1
  unfold EL
  rw [h2, e]
  exact ⟨h5, h6, h7, h8, h9, rowsb_sh hr hj⟩
/-- What thereAt tells: the cells of the rows that are there, by their ids. -/
def TA (w0 w : World) (t : Int) (rs : List Rw) (ids : List Int) (e : Ending) (w' : World) : Prop :=
  ∃ g a' cap' ys, e = .returned (.slice a' ys.length cap') ∧ ys.length ≤ cap' ∧ ys.map (fun y => y.1) = ids ∧ (0 < ys.length → a' = some ⟨g, 0, none⟩) ∧ w.heap.size ≤ g ∧ g < w'.heap.size ∧ ElsAt w' g 0 ys ∧ (∀ y ∈ ys, EL w0 rs t y) ∧ Below w.heap.size w w'
theorem map_len_ids {xs : List El} {rs : List Rw} {t : Int} (h : xs.map (fun x => x.1) = idsT rs t) : xs.length ≤ rs.length := by
  have h1 := congrArg List.length h
  rw [List.length_map] at h1
  have := ids_len rs t
  omega
set_option maxHeartbeats 2000000 in
theorem sort_els (B : Nat) (v : Value) (xs : List El) (w : World) (hm : xs.length ≤ 1099511627776) (h : ERow B w v xs) : Calls Tryz.prog 44 #[v, .func (.func 45) #[] #[]] w fun e w' => e = .returned (.tuple #[]) ∧ ∃ ys g cap, v = .slice (some ⟨g, 0, none⟩) xs.length cap ∧ xs.length ≤ cap ∧ B ≤ g ∧ g < w'.heap.size ∧ ElsAt w' g 0 ys ∧ ys.Perm xs ∧ ys.Pairwise lexE ∧ w.grownBy w' (some g) := by
  obtain ⟨g, cap, rfl, hgl, hown⟩ := h
  obtain ⟨cur, hcap, hB, hb, htk⟩ : ∃ cur, xs.length ≤ cap ∧ B ≤ g ∧ w.heap[g]? = some (.cells cur 55 (0, 0)) ∧ cur.toList.take (xs.length * 5) = flat5 xs := by
    rcases hown.2 with ⟨q, _⟩ | ⟨g', c', cur, e, q1, q2, q3, _, _, q4⟩
    · cases q
    · cases e
      exact ⟨cur, q3, q1, q2, q4⟩
  have hH : HoldsK ev 5 w g 0 xs.toArray := holds_of_row (cap := cap) hb htk
  have HS := sort_rows g 0 cap xs.toArray w hH hgl (by simp; omega)
  rw [show xs.toArray.size = xs.length by simp] at HS
  refine HS.mono ?_
  rintro e w2 ⟨rfl, d', q, os, hp, hs, rfl⟩
  have hds : d'.size = xs.length := by have := hp.1; simpa using this
  have hK2 := holdsK_sortWorldK ev 5 w g 0 q xs.toArray d' os hgl hH (by rw [hds]; simp)
  have hgr := grown_sortedK (w := w) (g := g) (n := q) (os := os) d'
  have hperm : d'.toList.Perm xs := by
    have h2 := hp.2.2
    have e1 : d'.extract 0 xs.length = d' := by rw [← hds]; simp
    have e2 : xs.toArray.extract 0 xs.length = xs.toArray := by
      have : xs.length = xs.toArray.size := by simp
      rw [this]; simp
    rw [e1, e2] at h2
    simpa using h2
  exact ⟨rfl, d'.toList, g, cap, rfl, hcap, hB, Nat.lt_of_lt_of_le hgl hgr.size, els_of_holds hK2, hperm, sorted_lex (by rw [hds]; exact hs), hgr⟩
set_option maxRecDepth 100000 in
set_option maxHeartbeats 2000000 in
theorem impl_thereAt {N : Nat → Prop} (now : Int) (a : Option Addr) (cap : Nat) (rs : List Rw) (t : Int) (w0 w : World) (hm : rs.length ≤ 1099511627776) (h : Rws N w0 a rs) (hb0 : Below w0.heap.size w0 w) : Calls Tryz.prog 22 #[.agg #[.int .i64 now, .slice a rs.length cap], .int .i64 t] w fun e w' => TA w0 w t rs (idsb now rs t) e w' := by
  have HOK := hid (fun (W : World) (hb : Below w.heap.size w W) => impl_RowsOk now a cap rs W hm ((h.below hb0).below hb))
  have HKP := hid (fun (W : World) (hb : Below w.heap.size w W) (p : Nat) (c1 : W.cell? ⟨p, 0, none⟩ = some (.int .i64 t)) => kept_there a cap rs t p w0 W hm h (btrans hb0 hb) c1)
  have HEL : Hid (rowsb now rs = true → ∀ y, Elx w0 t rs y → EL w0 rs t y) := hid (fun e y hy => hy.el e)
  clear h
  have HNO : Hid (rowsb now rs = false → idsb now rs t = []) := hid (fun e => by unfold idsb; rw [if_neg (by rw [e]; simp)])
  have HYE : Hid (rowsb now rs = true → idsb now rs t = srt (idsT rs t)) := hid (fun e => by unfold idsb; rw [if_pos e])
  have HL := hid (ids_len rs t)
  have HNN := hid hm
  generalize idsb now rs t = ib at *
  generalize rowsb now rs = ob at *
  obtain ⟨n, hn⟩ : ∃ n, n = rs.length := ⟨_, rfl⟩
  have HN := hid hn.symm
  rw [← hn] at hm HOK HKP HNN HL ⊢
  clear hn
  have hmf : ∀ (fn : Fn) (first cp : Array Value) (w : World), (Instr.makeFunc fn first cp).run Tryz.prog w = .ok (.func fn first cp) w := fun _ _ _ _ => rfl
  go_enter Tryz.func22, Tryz.ntmps22
  go_upto_region 1 with fail
  have hBx : Below w.heap.size w ((w.alloc (.cells #[.int .i64 now, .slice a n cap] 30)).alloc (.cells #[.int .i64 t] 3)) := balloc (balloc (Below.refl _ _) _) _
  have g0 := old_alloc (o' := .cells #[.int .i64 t] 3) (new_alloc w w.heap.size (.cells #[.int .i64 now, .slice a n cap] 30) rfl)
  have g1 := new_alloc (w.alloc (.cells #[.int .i64 now, .slice a n cap] 30)) (w.heap.size + 1) (.cells #[.int .i64 t] 3) (by simp)
  generalize (w.alloc (.cells #[.int .i64 now, .slice a n cap] 30)).alloc (.cells #[.int .i64 t] 3) = W0 at *
  obtain ⟨d0, d1, _, _⟩ := cell2r g0
  go_wp2_with fail
  refine (HOK.out _ hBx).mono ?_
  rintro e W ⟨rfl, hz⟩
  replace g0 := keepheap2 hz g0
  replace g1 := keepheap2 hz g1
  have hB := btrans hBx hz
  clear hBx hz d0 d1 HOK
  cases ob
  · have HF := hid (HNO.out rfl)
    have HB := hid hB
    have HWL := hid (lt_of_block g0)
    clear HNO HYE HKP g0 g1 hB
    go_wp2_with fail
    go_ret
    rw [HF.out]
    exact ⟨w.heap.size, none, 0, [], rfl, Nat.le_refl _, rfl, fun h => absurd h (by simp), Nat.le_refl _, HWL.out, fun j hj => absurd hj (by simp), fun y hy => absurd hy (by simp), HB.out⟩
  have HF := hid (HYE.out rfl)
  have c1 : W.cell? ⟨w.heap.size + 1, 0, none⟩ = some (.int .i64 t) := by simp [World.cell?, g1]
  have KP := hid (HKP.out W hB (w.heap.size + 1) c1)
  have HB := hid hB
  clear HNO HYE HKP c1 g1 hB
  obtain ⟨d0, d1, _, _⟩ := cell2r g0
  go_wp2_with fail
  refine KP.out.mono ?_
  rintro e y ⟨v, xs, rfl, hI, hK, hy⟩
  have hxl : xs.length ≤ n := hK.1
  have hid2 : xs.map (fun x => x.1) = idsT rs t := by have := hK.2.1; rw [← HN.out, List.take_length] at this; exact this
  have HS := hid (sort_els W.heap.size v xs y (by have := HNN.out; omega) hI)
  have HBy := hid (btrans HB.out hy)
  have HXY : Hid (∀ x ∈ xs, EL w0 rs t x) := hid (fun x hx => HEL.out (by first | rfl | trivial) x (hK.2.2 x hx))
  have HWs := hid HB.out.size
  have HYs := hid HBy.out.size
  have HID2 := hid hid2
  obtain ⟨g0', c0', hv, _, _⟩ := hI
  clear hy d0 d1 KP g0 hK hid2
  subst hv
  go_wp2_with fail
  refine HS.out.mono ?_
  rintro e u ⟨rfl, ys, g, cp, ev0, hcap, hgB, hgu, hE, hP, hL, hgr⟩
  cases ev0
  have HBu : Hid (Below w.heap.size w u) := hid (Below.grown HBy.out hgr HBy.out.size (fun k e => by cases e; have := HWs.out; omega))
  have HXU : Hid (∀ x ∈ ys, EL w0 rs t x) := hid (fun x hx => HXY.out x (hP.mem_iff.1 hx))
  have HCAP := hid hcap
  have HALL := hid (show _ ∧ _ ∧ _ from ⟨hP.length_eq, hE, hgu⟩)
  have HIDS : Hid (ys.map (fun y => y.1) = ib) := hid (by
    rw [HF.out, ← HID2.out]
    exact srt_of (hP.map _) (List.pairwise_map.2 (hL.imp (fun h => by unfold lexE at h; omega))))
  clear hgr HS hE hP hL
  go_wp2_with fail
  go_ret
  exact ⟨g0', some ⟨g0', 0, none⟩, c0', ys, by rw [HALL.out.1]; rfl, by rw [HALL.out.1]; exact HCAP.out, HIDS.out, fun _ => rfl, by have := HWs.out; omega, HALL.out.2.2, HALL.out.2.1, HXU.out, HBu.out⟩
end Go.Proofs.YtpgcnadmhbjlgaaGreat
namespace Go.Proofs.YtpgcnadmhbjlgaaGreat
open Go.RowKit
set_option linter.unusedSimpArgs false
set_option linter.unusedVariables false
def sv (f : List (Int × Int) → Int) (k : Int) (ps : List (Int × Int)) : Int := if shok k ps = true then f ps else 0
def hasv (a b c d e f g h : Int) : Bool := bok a b c d && bok e f g h && hasbx a b c d e f g h
set_option maxHeartbeats 1000000 in
theorem spec_ShapeBox (k : Int) (a : Option Addr) (cap : Nat) (ps : List (Int × Int)) (w : World) (hm : ps.length ≤ 1099511627776) (hc : ps.length ≤ cap) (h : Pts w a ps) : Calls Tryz.prog 27 #[shv k a ps.length cap] w fun e w' => e = .returned (.tuple #[.agg #[.int .i64 (sv aX k ps), .int .i64 (sv aY k ps), .int .i64 (sv bX k ps), .int .i64 (sv bY' k ps)], .bool (shok k ps && aok ps)]) ∧ Below w.heap.size w w' := by
  have hok := fun w' (hw : Pts w' a ps) => spec_ShapeOk k a cap ps w' hm hc hw
  have hba := fun w' (hw : Pts w' a ps) => spec_BoxAround a cap ps w' hm hc hw
  have Hh := hid h
  clear h
  cases hs : shok k ps
  · have v : ∀ f : List (Int × Int) → Int, sv f k ps = 0 := by intro f; unfold sv; rw [hs]; rfl
    rw [v aX, v aY, v bX, v bY']
    rw [hs] at hok
    have Hok := hid hok
    clear hok hba v hs
    go_enter Tryz.func27, Tryz.ntmps27
    go_wp2_with fail
    refine (Hok.out _ (Hh.out.below ?_)).mono ?_
    · (repeat (first | with_reducible exact Below.refl _ _ | with_reducible assumption | (with_reducible refine btrans ?_ (by with_reducible assumption)) | with_reducible refine bdrew ?_ | with_reducible refine balloc ?_ _))
    rintro e w1 ⟨rfl, hb1⟩
    have gz : w1.heap[w.heap.size + 1]? = some (.cells #[.int .i64 0, .int .i64 0, .int .i64 0, .int .i64 0] 38 (0, 0)) := by (repeat (first | with_reducible assumption | (refine new_alloc _ _ _ ?_; simp; done) | refine keepheap2 (by with_reducible assumption) ?_ | refine keephdrew2 ?_ | refine old_alloc ?_))
    obtain ⟨i0, i1, i2, i3, j0, j1, j2, j3⟩ := cell4 gz
    have Gz := hid gz
    clear gz
    go_wp2_with fail
    obtain ⟨gF, hbF⟩ := set4 (w := w) Gz.out (by (repeat (first | with_reducible exact Below.refl _ _ | with_reducible assumption | (with_reducible refine btrans ?_ (by with_reducible assumption)) | with_reducible refine bdrew ?_ | with_reducible refine balloc ?_ _))) (show w.heap.size ≤ w.heap.size + 1 by omega) (.int .i64 0) (.int .i64 0) (.int .i64 0) (.int .i64 0)
    generalize ((((w1.setCell ⟨w.heap.size + 1, 0, none⟩ (.int .i64 0)).setCell ⟨w.heap.size + 1, 1, none⟩ (.int .i64 0)).setCell ⟨w.heap.size + 1, 2, none⟩ (.int .i64 0)).setCell ⟨w.heap.size + 1, 3, none⟩ (.int .i64 0)) = wf at gF hbF ⊢
    obtain ⟨z0, z1, z2, z3, _, _, _, _⟩ := cell4 gF
    exact bodyPost_ret (v := .tuple #[.agg #[.int .i64 0, .int .i64 0, .int .i64 0, .int .i64 0], .bool false]) (by simp [results, Tryz.results27, go_sem, z0, z1, z2, z3]) rfl ⟨rfl, hbF⟩
  have v : ∀ f : List (Int × Int) → Int, sv f k ps = f ps := by intro f; unfold sv; rw [hs]; rfl
  rw [v aX, v aY, v bX, v bY', Bool.true_and]
  rw [hs] at hok
  generalize aX ps = m1 at *
  generalize aY ps = m2 at *
  generalize bX ps = m3 at *
  generalize bY' ps = m4 at *
  generalize aok ps = ok at *
  have Hok := hid hok
  have Hba := hid hba
  clear hok hba v hs
  go_enter Tryz.func27, Tryz.ntmps27
  go_wp2_with fail
  refine (Hok.out _ (Hh.out.below ?_)).mono ?_
  · (repeat (first | with_reducible exact Below.refl _ _ | with_reducible assumption | (with_reducible refine btrans ?_ (by with_reducible assumption)) | with_reducible refine bdrew ?_ | with_reducible refine balloc ?_ _))
  rintro e w1 ⟨rfl, hb1⟩
  have q0 : w1.cell? ⟨w.heap.size, 0, none⟩ = some (.int .i64 k) := by (repeat (first | with_reducible assumption | (refine newcell _ _ _ _ _ _ ?_ rfl; simp; done) | refine keepcell (by with_reducible assumption) ?_ | refine keepdrew ?_ | refine keepalloc ?_ _))
  have q1 : w1.cell? ⟨w.heap.size, 1, none⟩ = some (.slice a ps.length cap) := by (repeat (first | with_reducible assumption | (refine newcell _ _ _ _ _ _ ?_ rfl; simp; done) | refine keepcell (by with_reducible assumption) ?_ | refine keepdrew ?_ | refine keepalloc ?_ _))
  have gz : w1.heap[w.heap.size + 1]? = some (.cells #[.int .i64 0, .int .i64 0, .int .i64 0, .int .i64 0] 38 (0, 0)) := by (repeat (first | with_reducible assumption | (refine new_alloc _ _ _ ?_; simp; done) | refine keepheap2 (by with_reducible assumption) ?_ | refine keephdrew2 ?_ | refine old_alloc ?_))
  have Gz1 := hid gz
  clear gz
  go_wp2_with fail
  refine (Hba.out _ (Hh.out.below ?_)).mono ?_
  · (repeat (first | with_reducible exact Below.refl _ _ | with_reducible assumption | (with_reducible refine btrans ?_ (by with_reducible assumption)) | with_reducible refine bdrew ?_ | with_reducible refine balloc ?_ _))
  rintro e w2 ⟨rfl, hb2⟩
  have gz := keepheap2 hb2 Gz1.out
  obtain ⟨i0, i1, i2, i3, j0, j1, j2, j3⟩ := cell4 gz
  have Gz := hid gz
  clear gz
  go_wp2_with fail
  obtain ⟨gF, hbF⟩ := set4 (w := w) Gz.out (by (repeat (first | with_reducible exact Below.refl _ _ | with_reducible assumption | (with_reducible refine btrans ?_ (by with_reducible assumption)) | with_reducible refine bdrew ?_ | with_reducible refine balloc ?_ _))) (show w.heap.size ≤ w.heap.size + 1 by omega) (.int .i64 m1) (.int .i64 m2) (.int .i64 m3) (.int .i64 m4)
  generalize ((((w2.setCell ⟨w.heap.size + 1, 0, none⟩ (.int .i64 m1)).setCell ⟨w.heap.size + 1, 1, none⟩ (.int .i64 m2)).setCell ⟨w.heap.size + 1, 2, none⟩ (.int .i64 m3)).setCell ⟨w.heap.size + 1, 3, none⟩ (.int .i64 m4)) = wf at gF hbF ⊢
  obtain ⟨z0, z1, z2, z3, _, _, _, _⟩ := cell4 gF
  exact bodyPost_ret (v := .tuple #[.agg #[.int .i64 m1, .int .i64 m2, .int .i64 m3, .int .i64 m4], .bool ok]) (by simp [results, Tryz.results27, go_sem, z0, z1, z2, z3]) rfl ⟨rfl, hbF⟩
end Go.Proofs.YtpgcnadmhbjlgaaGreat
namespace Go.Proofs.YtpgcnadmhbjlgaaGreat
open Go.RowKit
set_option linter.unusedSimpArgs false
set_option linter.unusedVariables false
def alongSides (ps : List (Int × Int)) : List Sd := (List.range (ps.length - 1)).map fun k => ((ps.getD k (0, 0)).1, (ps.getD k (0, 0)).2, (ps.getD (k + 1) (0, 0)).1, (ps.getD (k + 1) (0, 0)).2)
theorem along_len (ps : List (Int × Int)) : (alongSides ps).length = ps.length - 1 := by simp [alongSides]
theorem along_at (ps : List (Int × Int)) (k : Nat) (hk : k < ps.length - 1) : (alongSides ps).getD k (0, 0, 0, 0) = ((ps.getD k (0, 0)).1, (ps.getD k (0, 0)).2, (ps.getD (k + 1) (0, 0)).1, (ps.getD (k + 1) (0, 0)).2) := by
  simp [alongSides, List.getD_eq_getElem?_getD, List.getElem?_map, List.getElem?_range hk]
theorem along_in {ps : List (Int × Int)} (h : allok ps = true) : ∀ k, k < (alongSides ps).length → SdIn ((alongSides ps).getD k (0, 0, 0, 0)) := by
  intro k hk
  rw [along_len] at hk
  rw [along_at ps k hk]
  obtain ⟨i1, i2⟩ := allok_in h k (by omega)
  obtain ⟨i3, i4⟩ := allok_in h (k + 1) (by omega)
  exact ⟨i1, i2, i3, i4⟩
/-- Whether one of the first k sides has p. -/
def anyOn (px py : Int) (qs : List Sd) : Nat → Bool
  | 0 => false
  | k + 1 => anyOn px py qs k || onb px py (qs.getD k (0, 0, 0, 0)).1 (qs.getD k (0, 0, 0, 0)).2.1 (qs.getD k (0, 0, 0, 0)).2.2.1 (qs.getD k (0, 0, 0, 0)).2.2.2
theorem any_mono {px py : Int} {qs : List Sd} {k : Nat} (h : anyOn px py qs k = true) : ∀ m, k ≤ m → anyOn px py qs m = true
  | 0, hm => by obtain rfl : k = 0 := by omega
                exact h
  | m + 1, hm => by
    by_cases e : k = m + 1
    · subst e; exact h
    · rw [anyOn, any_mono h m (by omega)]; rfl
set_option maxHeartbeats 1000000 in
theorem sides_along (a : Option Addr) (cap : Nat) (ps : List (Int × Int)) (w : World) (hm : ps.length ≤ 1099511627776) (hc : ps.length ≤ cap) (h : Pts w a ps) (h1 : 1 ≤ ps.length) : Calls Tryz.prog 103 #[.slice a ps.length cap] w fun e w' => ∃ b, e = .returned (.slice (some ⟨b, 0, none⟩) (alongSides ps).length (alongSides ps).length) ∧ w.heap.size ≤ b ∧ b < w'.heap.size ∧ SdAt w' b 0 (alongSides ps) ∧ Below w.heap.size w w' := by
  rw [along_len]
  obtain ⟨n, hn⟩ : ∃ n, ps.length = n + 1 := ⟨ps.length - 1, by omega⟩
  have hl : (alongSides ps).length = n := by rw [along_len]; omega
  have hat : ∀ k, k < n → (alongSides ps).getD k (0, 0, 0, 0) = ((ps.getD k (0, 0)).1, (ps.getD k (0, 0)).2, (ps.getD (k + 1) (0, 0)).1, (ps.getD (k + 1) (0, 0)).2) := fun k hk => along_at ps k (by omega)
  have hmk := make_sides n (by omega)
  have Hh := hid h
  have Hn := hid hn
  rw [show ps.length - 1 = n by omega, hn]
  have hc' : n + 1 ≤ cap := by omega
  have hm' : n + 1 ≤ 1099511627776 := by omega
  clear h h1 hm hc hn
  go_enter Tryz.func103, Tryz.ntmps103
  go_wp2_with fail
  go_loopw [11] (fun ti wr => ∃ k : Nat, ti = .int .i64 k ∧ k ≤ n ∧ Below w.heap.size w wr ∧ w.heap.size < wr.heap.size ∧ SdAt wr w.heap.size 0 ((alongSides ps).take k) ∧ wr.there w.heap.size 0 (n * 4)) (fun ti _ => n - (intOf ti).toNat)
  case atStart => exact ⟨0, rfl, Nat.zero_le _, (Below.refl _ _).alloc (Nat.le_refl _) _, by simp, fun j hj => by simp at hj, made_own4 w n⟩
  case round =>
    clear hmk
    obtain ⟨k, rfl, hk, hb, hB, hp, ht⟩ := hrel
    by_cases hlt : k < n
    · have hq := hat k hlt
      obtain ⟨b, off, rfl, hbs, hps⟩ : ∃ b off, a = some ⟨b, off, none⟩ ∧ b < w.heap.size ∧ PtsAt w b off ps := by
        rcases Hh.out with h | h
        · have := Hn.out; rw [h] at this; simp at this
        · exact h
      obtain ⟨c0, c1⟩ := hps.below hbs hb k (by have := Hn.out; omega)
      obtain ⟨d0, d1⟩ := hps.below hbs hb (k + 1) (by have := Hn.out; omega)
      generalize (ps.getD k (0, 0)).1 = x at *
      generalize (ps.getD k (0, 0)).2 = y at *
      generalize (ps.getD (k + 1) (0, 0)).1 = u at *
      generalize (ps.getD (k + 1) (0, 0)).2 = v at *
      obtain ⟨g0, g0'⟩ := ht (k * 4) (by omega)
      obtain ⟨g1, g1'⟩ := ht (k * 4 + 1) (by omega)
      obtain ⟨g2, g2'⟩ := ht (k * 4 + 2) (by omega)
      obtain ⟨g3, g3'⟩ := ht (k * 4 + 3) (by omega)
      obtain ⟨u0, hu0⟩ := Option.isSome_iff_exists.1 g0
      obtain ⟨u1, hu1⟩ := Option.isSome_iff_exists.1 g1
      obtain ⟨u2, hu2⟩ := Option.isSome_iff_exists.1 g2
      obtain ⟨u3, hu3⟩ := Option.isSome_iff_exists.1 g3
      simp only [Nat.zero_add, ← Nat.add_assoc] at hu0 hu1 hu2 hu3 g0' g1' g2' g3'
      have Hps := hid hps
      have Hq := hid hq
      have Hp := hid hp
      have Ht := hid ht
      have Hat := hid hat
      clear hps hq hp ht g0 g1 g2 g3 hat
      have hk0 : (0 : Int) ≤ (k : Int) := by omega
      have hk1 : (k : Int) < (n : Int) := by omega
      have hk2 : (k : Int) < (n : Int) + 1 := by omega
      have hk3 : (k : Int) + 1 < (n : Int) + 1 := by omega
      have hk4 : (0 : Int) ≤ (k : Int) + 1 := by omega
      have hadd : IntKind.i64.wrap ((k : Int) + 1) = (k : Int) + 1 := by rw [IntKind.wrap_i64]; omega
      have hne : w.heap.size ≠ b := by omega
      go_wp2_with fail
      refine wp_region_held_drew (S := (fun w' => w'.cell? ⟨b, off + k * 2, none⟩ = some (.int .i64 x) ∧ w'.cell? ⟨b, off + k * 2 + 1, none⟩ = some (.int .i64 y) ∧ w'.cell? ⟨b, off + (k + 1) * 2, none⟩ = some (.int .i64 u) ∧ w'.cell? ⟨b, off + (k + 1) * 2 + 1, none⟩ = some (.int .i64 v))) (by kernel_rfl) ?_ (fun hHeld => ?_)
      · (repeat' apply And.intro) <;> (repeat (first | with_reducible assumption | with_reducible refine keepset ?_ (by dsimp only; omega) | with_reducible refine keepdrew ?_ | with_reducible refine keepcell (by with_reducible assumption) ?_ | with_reducible refine keepalloc ?_ _))
      refine wpAnyH_take (i := 0) (v := ?_) rfl (by kernel_rfl) (by kernel_rfl) (by kernel_rfl) (fun _ _ _ h => h) (Or.inl ⟨by rfl, ?_⟩) hHeld ?_
      rotate_left
      · intro w hSw; (try dsimp only at hSw); go_simp; try (with_reducible rfl)
      try simp only [sq]
      refine wpAnyH_take (i := 1) (v := ?_) rfl (by kernel_rfl) (by kernel_rfl) (by kernel_rfl) (fun _ _ _ h => h) (Or.inl ⟨by rfl, ?_⟩) hHeld ?_
      rotate_left
      · intro w hSw; (try dsimp only at hSw); go_simp; try (with_reducible rfl)
      try simp only [sq]
      refine wpAnyH_take (i := 2) (v := ?_) rfl (by kernel_rfl) (by kernel_rfl) (by kernel_rfl) (fun _ _ _ h => h) (Or.inl ⟨by rfl, ?_⟩) hHeld ?_
      rotate_left
      · intro w hSw; (try dsimp only at hSw); go_simp; try (with_reducible rfl)
      try simp only [sq]
      refine wpAnyH_take (i := 3) (v := ?_) rfl (by kernel_rfl) (by kernel_rfl) (by kernel_rfl) (fun _ _ _ h => h) (Or.inl ⟨by rfl, ?_⟩) hHeld ?_
      rotate_left
      · intro w hSw; (try dsimp only at hSw); go_simp; try (with_reducible rfl)
      try simp only [sq]
      refine wpAnyH_take (i := 4) (v := ?_) rfl (by kernel_rfl) (by kernel_rfl) (by kernel_rfl) (fun _ _ _ h => h) (Or.inl ⟨by rfl, ?_⟩) hHeld ?_
      rotate_left
      · intro w hSw; (try dsimp only at hSw); go_simp; try (with_reducible rfl)
      try simp only [sq]
      refine wpAnyH_take (i := 5) (v := ?_) rfl (by kernel_rfl) (by kernel_rfl) (by kernel_rfl) (fun _ _ _ h => h) (Or.inl ⟨by rfl, ?_⟩) hHeld ?_
      rotate_left
      · intro w hSw; (try dsimp only at hSw); go_simp; try (with_reducible rfl)
      try simp only [sq]
      refine wpAnyH_take (i := 6) (v := ?_) rfl (by kernel_rfl) (by kernel_rfl) (by kernel_rfl) (fun _ _ _ h => h) (Or.inl ⟨by rfl, ?_⟩) hHeld ?_
      rotate_left
      · intro w hSw; (try dsimp only at hSw); go_simp; try (with_reducible rfl)
      try simp only [sq]
      refine wpAnyH_take (i := 7) (v := ?_) rfl (by kernel_rfl) (by kernel_rfl) (by kernel_rfl) (fun _ _ _ h => h) (Or.inl ⟨by rfl, ?_⟩) hHeld ?_
      rotate_left
      · intro w hSw; (try dsimp only at hSw); go_simp; try (with_reducible rfl)
      try simp only [sq]
      refine wpAnyH_take (i := 8) (v := ?_) rfl (by kernel_rfl) (by kernel_rfl) (by kernel_rfl) (fun _ _ _ h => h) (Or.inl ⟨by rfl, ?_⟩) hHeld ?_
      rotate_left
      · intro w hSw; (try dsimp only at hSw); go_simp; try (with_reducible rfl)
      try simp only [sq]
      refine wpAnyH_take (i := 9) (v := ?_) rfl (by kernel_rfl) (by kernel_rfl) (by kernel_rfl) (fun _ _ _ h => h) (Or.inl ⟨by rfl, ?_⟩) hHeld ?_
      rotate_left
      · intro w hSw; (try dsimp only at hSw); go_simp; try (with_reducible rfl)
      try simp only [sq]
      refine wpAnyH_take (i := 10) (v := ?_) rfl (by kernel_rfl) (by kernel_rfl) (by kernel_rfl) (fun _ _ _ h => h) (Or.inl ⟨by rfl, ?_⟩) hHeld ?_
      rotate_left
      · intro w hSw; (try dsimp only at hSw); go_simp; try (with_reducible rfl)
      try simp only [sq]
      refine wpAnyH_take (i := 11) (v := ?_) rfl (by kernel_rfl) (by kernel_rfl) (by kernel_rfl) (fun _ _ _ h => h) (Or.inl ⟨by rfl, ?_⟩) hHeld ?_
      rotate_left
      · intro w hSw; (try dsimp only at hSw); go_simp; try (with_reducible rfl)
      try simp only [sq]
      refine wpAnyH_take (i := 12) (v := ?_) rfl (by kernel_rfl) (by kernel_rfl) (by kernel_rfl) (fun _ _ _ h => h) (Or.inl ⟨by rfl, ?_⟩) hHeld ?_
      rotate_left
      · intro w hSw; (try dsimp only at hSw); go_simp; try (with_reducible rfl)
      try simp only [sq]
      refine wpAnyH_ready (rs := [13]) (by kernel_rfl) (by simp) ?_
      refine AllReadyH.cons rfl (fun K hK => ?_) AllReadyH.nil
      try simp only [sq]
      go_simp
      refine hK.out _ _ ?_ (fun hHeld => ?_)
      · (repeat' apply And.intro) <;> (repeat (first | with_reducible assumption | with_reducible refine keepset ?_ (by dsimp only; omega) | with_reducible refine keepdrew ?_ | with_reducible refine keepcell (by with_reducible assumption) ?_ | with_reducible refine keepalloc ?_ _))
      clear hK K
      try simp only [sq]
      refine wpAnyH_done (by kernel_rfl) ?_ _
      go_wp2_with fail
      go_roundw
      case rel =>
        obtain ⟨r1, r2⟩ := put_side (w := wr) (by rw [hl]; exact hlt) (by rw [hl]) Hp.out Ht.out x y u v Hq.out
        exact ⟨k + 1, by go_num, by omega, (((hb.setCell (Nat.le_refl _) _).setCell (Nat.le_refl _) _).setCell (Nat.le_refl _) _).setCell (Nat.le_refl _) _ |>.drew, by simp; omega, r1, r2⟩
      case measure => simp [intOf]; omega
    · obtain rfl : k = n := by omega
      have Hp := hid hp
      clear hp
      go_wp2_with fail
      go_ret
      exact ⟨w.heap.size, rfl, Nat.le_refl _, hB, by have := Hp.out; rwa [List.take_of_length_le (by rw [hl]; exact Nat.le_refl _)] at this, hb⟩
end Go.Proofs.YtpgcnadmhbjlgaaGreat
namespace Go.Proofs.YtpgcnadmhbjlgaaGreat
open Go.RowKit
set_option linter.unusedSimpArgs false
set_option linter.unusedVariables false
theorem ok_b (x y : Int) (w : World) : Calls Tryz.prog 79 #[.agg #[.int .i64 x, .int .i64 y]] w fun e w' => e = .returned (.bool (pok x y)) ∧ Below w.heap.size w w' :=
  (impl_ok x y w).mono fun e w' ⟨h1, h2⟩ => ⟨h1, by subst h2; exact balloc (Below.refl _ _) _⟩
set_option maxHeartbeats 1000000 in
theorem dot_has (x y : Int) (px py : Int) (a : Option Addr) (cap : Nat) (w : World) (h : Pts w a [(x, y)]) : Calls Tryz.prog 145 #[.slice a 1 cap, .agg #[.int .i64 px, .int .i64 py]] w fun e w' => e = .returned (.bool (x == px && y == py)) ∧ Below w.heap.size w w' := by
  obtain ⟨b, off, rfl, hbs, hp⟩ : ∃ b off, a = some ⟨b, off, none⟩ ∧ b < w.heap.size ∧ PtsAt w b off [(x, y)] := by
    rcases h with h | h
    · cases h
    · exact h
  obtain ⟨c0, c1⟩ := hp 0 (by simp)
  simp only [Nat.zero_mul, Nat.add_zero, List.getD_cons_zero] at c0 c1
  have Hp := hid hp
  clear hp h
  generalize hu : px = u
  generalize hv : py = v
  clear hu hv
  by_cases hx : x = u
  · subst hx
    by_cases hy : y = v
    · subst hy
      go_enter Tryz.func145, Tryz.ntmps145
      go_wp2_with fail
      go_region_held3 (fun w' => w'.cell? ⟨b, off, none⟩ = some (.int .i64 x) ∧ w'.cell? ⟨b, off + 1, none⟩ = some (.int .i64 y) ∧ w'.cell? ⟨w.heap.size, 0, none⟩ = some (.int .i64 x) ∧ w'.cell? ⟨w.heap.size, 1, none⟩ = some (.int .i64 y)) ((go_split_ands; (repeat' apply And.intro) <;> (repeat (first | with_reducible assumption | (refine newcell _ _ _ _ _ _ ?_ rfl; simp; done) | refine keepcell (by with_reducible assumption) ?_ | refine keepdrew ?_ | refine keepalloc ?_ _))))
        (first
          | (fail))
      go_wp2_with fail
      go_ret
      exact ⟨by first | rfl | simp, by (repeat (first | with_reducible exact Below.refl _ _ | with_reducible assumption | (with_reducible refine btrans ?_ (by with_reducible assumption)) | with_reducible refine bdrew ?_ | with_reducible refine balloc ?_ _))⟩
    · have hy' : (y == v) = false := by rw [beq_eq_false_iff_ne]; exact hy
      go_enter Tryz.func145, Tryz.ntmps145
      go_wp2_with fail
      go_region_held3 (fun w' => w'.cell? ⟨b, off, none⟩ = some (.int .i64 x) ∧ w'.cell? ⟨b, off + 1, none⟩ = some (.int .i64 y) ∧ w'.cell? ⟨w.heap.size, 0, none⟩ = some (.int .i64 x) ∧ w'.cell? ⟨w.heap.size, 1, none⟩ = some (.int .i64 v)) ((go_split_ands; (repeat' apply And.intro) <;> (repeat (first | with_reducible assumption | (refine newcell _ _ _ _ _ _ ?_ rfl; simp; done) | refine keepcell (by with_reducible assumption) ?_ | refine keepdrew ?_ | refine keepalloc ?_ _))))
        (first
          | (fail))
      go_wp2_with fail
      go_ret
      exact ⟨by first | rfl | simp [*], by (repeat (first | with_reducible exact Below.refl _ _ | with_reducible assumption | (with_reducible refine btrans ?_ (by with_reducible assumption)) | with_reducible refine bdrew ?_ | with_reducible refine balloc ?_ _))⟩
  · have hx' : (x == u) = false := by rw [beq_eq_false_iff_ne]; exact hx
    go_enter Tryz.func145, Tryz.ntmps145
    go_wp2_with fail
    go_region_held3 (fun w' => w'.cell? ⟨b, off, none⟩ = some (.int .i64 x) ∧ w'.cell? ⟨b, off + 1, none⟩ = some (.int .i64 y) ∧ w'.cell? ⟨w.heap.size, 0, none⟩ = some (.int .i64 u) ∧ w'.cell? ⟨w.heap.size, 1, none⟩ = some (.int .i64 v)) ((go_split_ands; (repeat' apply And.intro) <;> (repeat (first | with_reducible assumption | (refine newcell _ _ _ _ _ _ ?_ rfl; simp; done) | refine keepcell (by with_reducible assumption) ?_ | refine keepdrew ?_ | refine keepalloc ?_ _))))
      (first
        | (fail))
    go_wp2_with fail
    go_ret
    exact ⟨by first | rfl | simp [*], by (repeat (first | with_reducible exact Below.refl _ _ | with_reducible assumption | (with_reducible refine btrans ?_ (by with_reducible assumption)) | with_reducible refine bdrew ?_ | with_reducible refine balloc ?_ _))⟩
set_option maxHeartbeats 1000000 in
theorem path_has (px py : Int) (a : Option Addr) (cap : Nat) (ps : List (Int × Int)) (w : World) (hm : ps.length ≤ 1099511627776) (hc : ps.length ≤ cap) (h : Pts w a ps) (h1 : 1 ≤ ps.length) (hi1 : In px) (hi2 : In py) (ha : allok ps = true) : Calls Tryz.prog 147 #[.slice a ps.length cap, .agg #[.int .i64 px, .int .i64 py]] w fun e w' => e = .returned (.bool (anyOn px py (alongSides ps) (alongSides ps).length)) ∧ Below w.heap.size w w' := by
  have hsa := fun w' (hw : Pts w' a ps) => sides_along a cap ps w' hm hc hw h1
  have hin := along_in ha
  have hlen : (alongSides ps).length ≤ 1099511627776 := by rw [along_len]; omega
  generalize alongSides ps = qs at *
  have Hsa := hid hsa
  have Hh := hid h
  clear hsa h
  go_enter Tryz.func147, Tryz.ntmps147
  go_wp2_with fail
  refine (Hsa.out _ (Hh.out.below ?_)).mono ?_
  · (repeat (first | with_reducible exact Below.refl _ _ | with_reducible assumption | (with_reducible refine btrans ?_ (by with_reducible assumption)) | with_reducible refine bdrew ?_ | with_reducible refine balloc ?_ _))
  rintro e w1 ⟨b, rfl, hg, hl, hq, hb1⟩
  have q0 : w1.cell? ⟨w.heap.size, 0, none⟩ = some (.int .i64 px) := by (repeat (first | with_reducible assumption | (refine newcell _ _ _ _ _ _ ?_ rfl; simp; done) | refine keepcell (by with_reducible assumption) ?_ | refine keepdrew ?_ | refine keepalloc ?_ _))
  have q1 : w1.cell? ⟨w.heap.size, 1, none⟩ = some (.int .i64 py) := by (repeat (first | with_reducible assumption | (refine newcell _ _ _ _ _ _ ?_ rfl; simp; done) | refine keepcell (by with_reducible assumption) ?_ | refine keepdrew ?_ | refine keepalloc ?_ _))
  have hB1 : Below w.heap.size w w1 := by (repeat (first | with_reducible exact Below.refl _ _ | with_reducible assumption | (with_reducible refine btrans ?_ (by with_reducible assumption)) | with_reducible refine bdrew ?_ | with_reducible refine balloc ?_ _))
  have Hq := hid hq
  simp at hg
  clear hq hb1
  go_wp2_with fail
  go_loopw [10] (fun ti wr => ∃ k : Nat, ti = .int .i64 k ∧ k ≤ qs.length ∧ Below w1.heap.size w1 wr ∧ Hid (anyOn px py qs k = false)) (fun ti _ => qs.length - (intOf ti).toNat)
  case atStart => exact ⟨0, rfl, Nat.zero_le _, Below.refl _ _, hid rfl⟩
  case round =>
    obtain ⟨k, rfl, hk, hb, H⟩ := hrel
    by_cases hlt : k < qs.length
    · obtain ⟨c0, c1, c2, c3⟩ := Hq.out.below hl hb k hlt
      simp only [Nat.zero_add] at c0 c1 c2 c3
      obtain ⟨i3, i4, i5, i6⟩ := hin k hlt
      have hsh := fun w' => side_has (qs.getD k (0, 0, 0, 0)).1 (qs.getD k (0, 0, 0, 0)).2.1 (qs.getD k (0, 0, 0, 0)).2.2.1 (qs.getD k (0, 0, 0, 0)).2.2.2 px py i3 i4 i5 i6 hi1 hi2 w'
      have hst : anyOn px py qs (k + 1) = (anyOn px py qs k || onb px py (qs.getD k (0, 0, 0, 0)).1 (qs.getD k (0, 0, 0, 0)).2.1 (qs.getD k (0, 0, 0, 0)).2.2.1 (qs.getD k (0, 0, 0, 0)).2.2.2) := rfl
      rw [H.out, Bool.false_or] at hst
      generalize onb px py (qs.getD k (0, 0, 0, 0)).1 (qs.getD k (0, 0, 0, 0)).2.1 (qs.getD k (0, 0, 0, 0)).2.2.1 (qs.getD k (0, 0, 0, 0)).2.2.2 = on at *
      generalize (qs.getD k (0, 0, 0, 0)).1 = afx at *
      generalize (qs.getD k (0, 0, 0, 0)).2.1 = afy at *
      generalize (qs.getD k (0, 0, 0, 0)).2.2.1 = atx at *
      generalize (qs.getD k (0, 0, 0, 0)).2.2.2 = aty at *
      have Hsh := hid hsh
      have Hst := hid hst
      have p0 := keepcell hb q0
      have p1 := keepcell hb q1
      have hz0 : w.heap.size < wr.heap.size := World.block_lt_of_cell? wr _ p0
      clear hsh hst i3 i4 i5 i6
      go_wp2_with fail
      refine (Hsh.out _).mono ?_
      rintro e w2 ⟨rfl, hb2⟩
      cases on
      · go_wp2_with fail
        go_roundw
        case rel => exact ⟨k + 1, by go_num, by omega, by (repeat (first | with_reducible exact Below.refl _ _ | with_reducible assumption | (with_reducible refine btrans ?_ (by with_reducible assumption)) | with_reducible refine bdrew ?_ | with_reducible refine balloc ?_ _)), hid Hst.out⟩
        case measure => simp [intOf]; omega
      · go_wp2_with fail
        go_ret
        exact ⟨by rw [any_mono Hst.out _ (by omega)]; rfl, by (repeat (first | with_reducible exact Below.refl _ _ | with_reducible assumption | (with_reducible refine btrans ?_ (by with_reducible assumption)) | with_reducible refine bdrew ?_ | with_reducible refine balloc ?_ _))⟩
    · obtain rfl : k = qs.length := by omega
      go_wp2_with fail
      go_ret
      exact ⟨by rw [H.out]; rfl, by (repeat (first | with_reducible exact Below.refl _ _ | with_reducible assumption | (with_reducible refine btrans ?_ (by with_reducible assumption)) | with_reducible refine bdrew ?_ | with_reducible refine balloc ?_ _))⟩
set_option maxHeartbeats 1000000 in
theorem block_has (x y u v : Int) (px py : Int) (a : Option Addr) (cap : Nat) (w : World) (hc : 2 ≤ cap) (h : Pts w a [(x, y), (u, v)]) : Calls Tryz.prog 149 #[.slice a 2 cap, .agg #[.int .i64 px, .int .i64 py]] w fun e w' => e = .returned (.bool (hasb x y u v px py)) ∧ Below w.heap.size w w' := by
  have hbb := fun w' (hw : Pts w' a [(x, y), (u, v)]) => block_box a cap x y u v w' hc hw
  have Hbb := hid hbb
  have Hh := hid h
  clear hbb h
  go_enter Tryz.func149, Tryz.ntmps149
  go_wp2_with fail
  go_region_held3 (fun w' => w'.cell? ⟨w.heap.size, 0, none⟩ = some (.int .i64 px) ∧ w'.cell? ⟨w.heap.size, 1, none⟩ = some (.int .i64 py)) ((go_split_ands; (repeat' apply And.intro) <;> (repeat (first | with_reducible assumption | (refine newcell _ _ _ _ _ _ ?_ rfl; simp; done) | refine keepcell (by with_reducible assumption) ?_ | refine keepdrew ?_ | refine keepalloc ?_ _))))
    (first
      | (go_at_call 151; refine (Hbb.out _ (Hh.out.below ?_)).mono ?_; (show Below _ _ _; (repeat (first | with_reducible exact Below.refl _ _ | with_reducible assumption | (with_reducible refine btrans ?_ (by with_reducible assumption)) | with_reducible refine bdrew ?_ | with_reducible refine balloc ?_ _))); rintro e v1 ⟨rfl, hbv1⟩)
      | (go_at_call 125; refine (impl_has _ _ _ _ _ _ _).mono ?_; rintro e v2 ⟨rfl, hbv2⟩))
  go_wp2_with fail
  go_ret
  exact ⟨rfl, by (repeat (first | with_reducible exact Below.refl _ _ | with_reducible assumption | (with_reducible refine btrans ?_ (by with_reducible assumption)) | with_reducible refine bdrew ?_ | with_reducible refine balloc ?_ _))⟩
theorem ring_has (px py : Int) (a : Option Addr) (cap : Nat) (ps : List (Int × Int)) (w : World) (hm : ps.length ≤ 1099511627776) (hc : ps.length ≤ cap) (h : Pts w a ps) (hi1 : In px) (hi2 : In py) (ha : allok ps = true) : Calls Tryz.prog 152 #[.slice a ps.length cap, .agg #[.int .i64 px, .int .i64 py]] w fun e w' => e = .returned (.bool (ringv px py ps != 0)) ∧ Below w.heap.size w w' := by
  have hir := fun w' (hw : Pts w' a ps) => impl_inring px py a cap ps w' hi1 hi2 ha hm hc hw
  generalize ringv px py ps = rv at *
  have Hir := hid hir
  have Hh := hid h
  clear hir h
  go_enter Tryz.func152, Tryz.ntmps152
  go_wp2_with fail
  refine (Hir.out _ (Hh.out.below ?_)).mono ?_
  · (repeat (first | with_reducible exact Below.refl _ _ | with_reducible assumption | (with_reducible refine btrans ?_ (by with_reducible assumption)) | with_reducible refine bdrew ?_ | with_reducible refine balloc ?_ _))
  rintro e w1 ⟨rfl, hb1⟩
  go_wp2_with fail
  go_ret
  exact ⟨rfl, by (repeat (first | with_reducible exact Below.refl _ _ | with_reducible assumption | (with_reducible refine btrans ?_ (by with_reducible assumption)) | with_reducible refine bdrew ?_ | with_reducible refine balloc ?_ _))⟩
end Go.Proofs.YtpgcnadmhbjlgaaGreat
namespace Go.Proofs.YtpgcnadmhbjlgaaGreat
open Go.RowKit
set_option linter.unusedSimpArgs false
set_option linter.unusedVariables false
def hasP (k : Int) (ps : List (Int × Int)) (px py : Int) : Bool := if k = 0 then ((ps.getD 0 (0, 0)).1 == px && (ps.getD 0 (0, 0)).2 == py) else if k = 1 then anyOn px py (alongSides ps) (alongSides ps).length else if k = 2 then hasb (ps.getD 0 (0, 0)).1 (ps.getD 0 (0, 0)).2 (ps.getD 1 (0, 0)).1 (ps.getD 1 (0, 0)).2 px py else (ringv px py ps != 0)
theorem shok_allok {k : Int} {ps : List (Int × Int)} (h : shok k ps = true) : allok ps = true := by
  cases ha : allok ps
  · rw [shok_no ha] at h; cases h
  · rfl
theorem shok_kind {k : Int} {ps : List (Int × Int)} (h : shok k ps = true) : (k = 0 ∧ ps.length = 1) ∨ (k = 1 ∧ 2 ≤ ps.length ∧ ps.length ≤ 60) ∨ (k = 2 ∧ ps.length = 2) ∨ (k = 3 ∧ 3 ≤ ps.length ∧ ps.length ≤ 60) := by
  unfold shok at h
  split at h
  · rename_i e
    simp only [Bool.and_eq_true, decide_eq_true_eq] at h
    exact .inl ⟨e, h.1⟩
  split at h
  · rename_i e
    simp only [lineb, Bool.and_eq_true, decide_eq_true_eq] at h
    exact .inr (.inl ⟨e, h.1.1.1, h.1.1.2⟩)
  split at h
  · rename_i e
    simp only [rectb, Bool.and_eq_true, decide_eq_true_eq] at h
    exact .inr (.inr (.inl ⟨e, h.1.1⟩))
  split at h
  · rename_i e
    simp only [ringOk, Bool.and_eq_true, decide_eq_true_eq] at h
    exact .inr (.inr (.inr ⟨e, h.1.1.1, h.1.1.2⟩))
  · cases h
end Go.Proofs.YtpgcnadmhbjlgaaGreat
