/- Texts of stores, joined: Ba, Br, ShBox, Bb0, Ng. -/
import Derived.Test.YtnaobljoopjhgaaGreatBa0
import Derived.Test.YtnaobljoopjhgaaGreatJ1
import Derived.Test.YtnaobljoopjhgaaGreatAround
import Derived.Test.YtnaobljoopjhgaaGreatShLaw
import Derived.Test.YtnaobljoopjhgaaGreatGeo9
import Derived.Test.YtnaobljoopjhgaaGreatNe
import Derived.Test.YtnaobljoopjhgaaGreatNf
namespace Go.Proofs.YtnaobljoopjhgaaGreat
open Go.RowKit Go.Shelf Go.Lib Go.Sort
set_option linter.unusedSimpArgs false
set_option linter.unusedVariables false
theorem make_rowsB (n : Nat) (hn : n ≤ 1099511627776) (w : World) : (Instr.makeSlice 30 (.int .i64 0) (.int .i64 n)).run Tryz.prog w = .ok (.slice (some ⟨w.heap.size, 0, none⟩) 0 n) (w.alloc (.cells (madeCells #[.int .i64 0, .int .i64 0, .int .i64 0, .int .i64 0, .slice none 0 0] (n * 5)) 61)) := by
  obtain ⟨i0, hi, hz0, hz1, hz2⟩ := info_parts Tryz.infoRow
  have := run_make (P := Tryz.prog) w 30 61 i0 _ Tryz.underlying30 hi hz0 .i64 .i64 0 n (by omega) (by omega) (by rw [hz2]; omega) (by omega)
  rw [hz1] at this
  exact this
theorem own_frame0 {w w' : World} {B : Nat} {e : TypeId} {sz : Nat} {v : Value} {n : Nat} {xs : List Value} (h : w.ownsRow B e sz v n xs) (hb : ∀ g, v.ownBlock = some g → w'.heap[g]? = w.heap[g]?) : w'.ownsRow B e sz v n xs := by
  refine ⟨h.1, ?_⟩
  rcases h.2 with q | ⟨g, c, cur, e1, q1, q2, q3⟩
  · exact .inl q
  · refine .inr ⟨g, c, cur, e1, q1, ?_, q3⟩
    rw [hb g (by rw [e1]; rfl)]; exact q2
/-- The cells of a row that is there at a moment, its points in memory of the rows. -/
def Elx (w : World) (t : Int) (rs : List Rw) (x : El) : Prop := ∃ j, ∃ h : j < rs.length, thr (tr rs[j]) t = true ∧ x.1 = rs[j].1 ∧ x.2.1 = rs[j].2.1 ∧ x.2.2.1 = rs[j].2.2.1 ∧ x.2.2.2.1 = rs[j].2.2.2.1 ∧ x.2.2.2.2.2.1 = rs[j].2.2.2.2.length ∧ rs[j].2.2.2.2.length ≤ x.2.2.2.2.2.2 ∧ rs[j].2.2.2.2.length ≤ 1099511627776 ∧ Pts w x.2.2.2.2.1 rs[j].2.2.2.2
def ERow (B : Nat) (w : World) (v : Value) (xs : List El) : Prop := ∃ g cap, v = .slice (some ⟨g, 0, none⟩) xs.length cap ∧ g < w.heap.size ∧ w.ownsRow B 61 5 (.slice (some ⟨g, 0, none⟩) xs.length cap) xs.length (flat5 xs)
theorem ERow.below {B : Nat} {w w' : World} {v : Value} {xs : List El} (h : ERow B w v xs) (H : Below w.heap.size w w') : ERow B w' v xs := by
  obtain ⟨g, cap, rfl, h1, h3⟩ := h
  refine ⟨g, cap, rfl, Nat.lt_of_lt_of_le h1 H.size, h3.1, ?_⟩
  rcases h3.2 with ⟨q, _⟩ | ⟨g', c', cur, e, q1, q2, q3⟩
  · cases q
  · cases e
    exact .inr ⟨g, cap, cur, rfl, q1, by rw [H.block g h1]; exact q2, q3⟩
set_option maxRecDepth 100000 in
set_option maxHeartbeats 2000000 in
theorem there_1 (r : Rw) (a' : Option Addr) (cap' : Nat) (t : Int) (p : Nat) (w : World) (c1 : w.cell? ⟨p, 0, none⟩ = some (.int .i64 t)) : Calls Tryz.prog 44 #[rwv r a' cap', .pointer (some ⟨p, 0, none⟩)] w fun e w' => e = .returned (.tuple #[rwv r a' cap', .bool (thr (tr r) t)]) ∧ Below w.heap.size w w' := by
  have TH := hid (fun w' => impl_there r a' cap' t w')
  generalize thr (tr r) t = q2 at *
  obtain ⟨id2, fr, te, kd, ps⟩ := r
  unfold rwv at *
  simp only at *
  generalize ps.length = np at *
  have hB : Below w.heap.size w ((w.alloc (.cells #[.int .i64 id2, .int .i64 fr, .int .i64 te, .int .i64 kd, .slice a' np cap'] 61)).alloc (.cells #[.int .i64 0, .int .i64 0, .int .i64 0, .int .i64 0, .slice none 0 0] 61)) := balloc (balloc (Below.refl _ _) _) _
  have g0 := old_alloc (o' := .cells #[.int .i64 0, .int .i64 0, .int .i64 0, .int .i64 0, .slice none 0 0] 61) (new_alloc w w.heap.size (.cells #[.int .i64 id2, .int .i64 fr, .int .i64 te, .int .i64 kd, .slice a' np cap'] 61) rfl)
  have g1 := new_alloc (w.alloc (.cells #[.int .i64 id2, .int .i64 fr, .int .i64 te, .int .i64 kd, .slice a' np cap'] 61)) (w.heap.size + 1) (.cells #[.int .i64 0, .int .i64 0, .int .i64 0, .int .i64 0, .slice none 0 0] 61) (by simp)
  have hpn : p < w.heap.size := World.block_lt_of_cell? w _ c1
  replace c1 := keepalloc (keepalloc c1 (.cells #[.int .i64 id2, .int .i64 fr, .int .i64 te, .int .i64 kd, .slice a' np cap'] 61)) (.cells #[.int .i64 0, .int .i64 0, .int .i64 0, .int .i64 0, .slice none 0 0] 61)
  go_enter Tryz.func44, Tryz.ntmps44
  go_upto_region 1 with fail
  generalize (w.alloc (.cells #[.int .i64 id2, .int .i64 fr, .int .i64 te, .int .i64 kd, .slice a' np cap'] 61)).alloc (.cells #[.int .i64 0, .int .i64 0, .int .i64 0, .int .i64 0, .slice none 0 0] 61) = W at *
  obtain ⟨⟨x0, x1, x2, x3, x4⟩, _⟩ := cell5g g0
  have hWs := lt_of_block g1
  have HG1 := hid g1
  have HB := hid hB
  have hdr : W.drew.heap.size = W.heap.size := rfl
  clear g0 g1 hB
  go_region_held3 (fun w' => w'.cell? ⟨w.heap.size, 0, none⟩ = some (.int .i64 id2) ∧ w'.cell? ⟨w.heap.size, 1, none⟩ = some (.int .i64 fr) ∧ w'.cell? ⟨w.heap.size, 2, none⟩ = some (.int .i64 te) ∧ w'.cell? ⟨w.heap.size, 3, none⟩ = some (.int .i64 kd) ∧ w'.cell? ⟨w.heap.size, 4, none⟩ = some (.slice a' np cap') ∧ w'.cell? ⟨p, 0, none⟩ = some (.int .i64 t)) ((go_split_ands; (repeat' apply And.intro) <;> (repeat (first | with_reducible assumption | with_reducible refine keepset3 ?_ (by dsimp only; omega) | with_reducible refine keepdrew ?_ | with_reducible refine keepcell (by with_reducible assumption) ?_ | with_reducible refine keepalloc ?_ _))))
    (first
      | (go_at_call 45; refine (TH.out _).mono ?_; rintro e y2 ⟨rfl, hy2⟩; replace HB := hid (btrans (bdrew HB.out) hy2); have g1 := keepheap2 hy2 (show W.drew.heap[w.heap.size + 1]? = _ from HG1.out); obtain ⟨⟨v0, v1, v2, v3, v4⟩, u0, u1, u2, u3, u4⟩ := cell5g g1))
  go_wp2_with fail
  have gF := set5 g1 (.int .i64 id2) (.int .i64 fr) (.int .i64 te) (.int .i64 kd) (.slice a' np cap')
  have bF := bset (bset (bset (bset (bset HB.out (q := w.heap.size + 1) (k := 0) (by omega) (.int .i64 id2)) (q := w.heap.size + 1) (k := 1) (by omega) (.int .i64 fr)) (q := w.heap.size + 1) (k := 2) (by omega) (.int .i64 te)) (q := w.heap.size + 1) (k := 3) (by omega) (.int .i64 kd)) (q := w.heap.size + 1) (k := 4) (by omega) (.slice a' np cap')
  generalize (((((y2.setCell ⟨w.heap.size + 1, 0, none⟩ (.int .i64 id2)).setCell ⟨w.heap.size + 1, 1, none⟩ (.int .i64 fr)).setCell ⟨w.heap.size + 1, 2, none⟩ (.int .i64 te)).setCell ⟨w.heap.size + 1, 3, none⟩ (.int .i64 kd)).setCell ⟨w.heap.size + 1, 4, none⟩ (.slice a' np cap')) = wf at *
  obtain ⟨⟨z0, z1, z2, z3, z4⟩, _⟩ := cell5g gF
  exact bodyPost_ret (v := .tuple #[.agg #[.int .i64 id2, .int .i64 fr, .int .i64 te, .int .i64 kd, .slice a' np cap'], .bool q2]) (by simp [results, Tryz.results44, go_sem, z0, z1, z2, z3, z4]) rfl ⟨rfl, bF⟩
def KT0 (w : World) (t : Int) (rs : List Rw) (i : Nat) (xs : List El) : Prop := xs.length ≤ i ∧ xs.map (fun x => x.1) = idsT (rs.take i) t ∧ ∀ x ∈ xs, Elx w t rs x
set_option maxRecDepth 100000 in
set_option maxHeartbeats 2000000 in
theorem kept_there {N : Nat → Prop} (a : Option Addr) (cap : Nat) (rs : List Rw) (t : Int) (p : Nat) (w0 w : World) (hm : rs.length ≤ 1099511627776) (h : Rws N w0 a rs) (hb0 : Below w0.heap.size w0 w) (c1 : w.cell? ⟨p, 0, none⟩ = some (.int .i64 t)) : Calls Tryz.prog 43 #[.slice a rs.length cap, .func (.func 44) #[] #[.pointer (some ⟨p, 0, none⟩)]] w fun e w' => ∃ v xs, e = .returned v ∧ ERow w.heap.size w' v xs ∧ KT0 w0 t rs rs.length xs ∧ Below w.heap.size w w' := by
  obtain ⟨i0, hi0, hz0, hz1, hz2⟩ := info_parts Tryz.infoRow
  have HR := hid h
  have HB00 := hid hb0
  have HC := hid c1
  clear h c1 hb0
  have hmk := make_rowsB rs.length hm
  obtain ⟨n, hn⟩ : ∃ n, n = rs.length := ⟨_, rfl⟩
  have HN := hid hn.symm
  rw [← hn] at hm hmk ⊢
  clear hn
  have hB0 : Below w.heap.size w (w.alloc (.cells (madeCells #[.int .i64 0, .int .i64 0, .int .i64 0, .int .i64 0, .slice none 0 0] (n * 5)) 61)) := balloc (Below.refl _ _) _
  have HI : Hid (ERow w.heap.size (w.alloc (.cells (madeCells #[.int .i64 0, .int .i64 0, .int .i64 0, .int .i64 0, .slice none 0 0] (n * 5)) 61)) (.slice (some ⟨w.heap.size, 0, none⟩) 0 n) []) := hid (by
    have := World.ownsRow_made (base := w.heap.size) (e := 61) (size := 5) w (madeCells #[.int .i64 0, .int .i64 0, .int .i64 0, .int .i64 0, .slice none 0 0] (n * 5)) n (Nat.le_refl _) (by unfold maxLen; omega) (size_madeCells _ _)
    exact ⟨w.heap.size, n, rfl, by simp, by simpa [flat5] using this⟩)
  go_enter Tryz.func43, Tryz.ntmps43
  go_upto_region 2 with fail
  generalize w.alloc (.cells (madeCells #[.int .i64 0, .int .i64 0, .int .i64 0, .int .i64 0, .slice none 0 0] (n * 5)) 61) = W0 at *
  clear hmk
  go_wp2_with fail
  go_loopw [5, 15] (fun tv ti wr => ∃ i : Nat, ∃ xs : List El, ti = .int .i64 i ∧ i ≤ n ∧ Hid (KT0 w0 t rs i xs) ∧ Hid (ERow w.heap.size wr tv xs) ∧ Hid (Below w.heap.size w wr)) (fun _ ti _ => n - (intOf ti).toNat)
  case atStart => exact ⟨0, [], rfl, Nat.zero_le _, hid ⟨Nat.le_refl _, by simp [idsT], fun x hx => absurd hx (by simp)⟩, HI, hid hB0⟩
  case round =>
    clear HI hB0
    obtain ⟨i, xs, rfl, hi, HK, HV, HBW⟩ := hrel
    have hwX := HBW.out.size
    by_cases hlt : i < n
    · have d1 : (i : Int) < (n : Int) := by omega
      have hir : i < rs.length := by rw [HN.out]; exact hlt
      obtain ⟨b, o, rfl, hbs, a', cap', k0, k1, k2, k3, k4, k5, k6, k7, _⟩ := HR.out.at i hir
      replace k0 := keepcell (btrans HB00.out HBW.out) k0
      replace k1 := keepcell (btrans HB00.out HBW.out) k1
      replace k2 := keepcell (btrans HB00.out HBW.out) k2
      replace k3 := keepcell (btrans HB00.out HBW.out) k3
      replace k4 := keepcell (btrans HB00.out HBW.out) k4
      have hbx : Below wr.heap.size wr (wr.alloc (.cells #[.int .i64 rs[i].1, .int .i64 rs[i].2.1, .int .i64 rs[i].2.2.1, .int .i64 rs[i].2.2.2.1, .slice a' rs[i].2.2.2.2.length cap'] 61)) := balloc (Below.refl _ _) _
      have HT := hid (fun (W : World) (hb : Below wr.heap.size wr W) => there_1 rs[i] a' cap' t p W (keepcell (btrans HBW.out hb) HC.out))
      have HNO : Hid (thr (tr rs[i]) t = false → KT0 w0 t rs (i + 1) xs) := hid (fun e => ⟨by have := HK.out.1; omega, by rw [ids_next hir, if_neg (by rw [e]; simp)]; exact HK.out.2.1, HK.out.2.2⟩)
      have HYE : Hid (thr (tr rs[i]) t = true → KT0 w0 t rs (i + 1) (xs ++ [(rs[i].1, rs[i].2.1, rs[i].2.2.1, rs[i].2.2.2.1, a', rs[i].2.2.2.2.length, cap')])) := hid (fun e => by
        refine ⟨by have := HK.out.1; simp; omega, by rw [ids_next hir, if_pos e, List.map_append, HK.out.2.1]; rfl, fun x hx => ?_⟩
        rcases List.mem_append.1 hx with hx | hx
        · exact HK.out.2.2 x hx
        · simp at hx
          subst hx
          exact ⟨i, hir, e, rfl, rfl, rfl, rfl, rfl, k5, k6, k7⟩)
      have hxl := HK.out.1
      clear k5 k6 k7
      unfold rwv at HT
      generalize thr (tr rs[i]) t = q2 at *
      generalize rs[i].1 = id2 at *
      generalize rs[i].2.1 = fr at *
      generalize rs[i].2.2.1 = te at *
      generalize rs[i].2.2.2.1 = kd at *
      generalize rs[i].2.2.2.2.length = np at *
      obtain ⟨g, c, rfl, hgl, hown⟩ := HV.out
      have HO := hid hown
      clear hown HV
      go_upto_region 5 with fail
      have gx := new_alloc wr wr.heap.size (.cells #[.int .i64 id2, .int .i64 fr, .int .i64 te, .int .i64 kd, .slice a' np cap'] 61) rfl
      have HI1 := hid ((show ERow w.heap.size wr _ xs from ⟨g, c, rfl, hgl, HO.out⟩).below hbx)
      have HB1 := hid (btrans HBW.out hbx)
      have HT1 := hid (HT.out _ hbx)
      clear k0 k1 k2 k3 k4 HT hbx HO hgl
      generalize wr.alloc (.cells #[.int .i64 id2, .int .i64 fr, .int .i64 te, .int .i64 kd, .slice a' np cap'] 61) = W1 at *
      generalize wr.heap.size = X at *
      obtain ⟨⟨x0, x1, x2, x3, x4⟩, _⟩ := cell5g gx
      clear gx
      go_wp2_with fail
      refine HT1.out.mono ?_
      rintro e z ⟨rfl, hz⟩
      have HBz := hid (btrans HB1.out hz)
      have HIz := hid (HI1.out.below hz)
      clear hz x0 x1 x2 x3 x4 HT1 HI1 HB1
      cases q2
      · have HK2 := hid (HNO.out rfl)
        go_wp2_with fail
        have hal : Below z.heap.size z (z.alloc (.cells #[.int .i64 id2, .int .i64 fr, .int .i64 te, .int .i64 kd, .slice a' np cap'] 61)) := balloc (Below.refl _ _) _
        have HV2 := hid (HIz.out.below hal)
        have HBa := hid (btrans HBz.out hal)
        clear hal
        go_roundw
        case rel => exact ⟨i + 1, xs, by go_num, by omega, HK2, HV2, HBa⟩
        case measure => simp [intOf]; omega
      · have HK2 := hid (HYE.out rfl)
        clear HNO HYE HK
        go_upto_region 7 with fail
        have hal : Below z.heap.size z (z.alloc (.cells #[.int .i64 id2, .int .i64 fr, .int .i64 te, .int .i64 kd, .slice a' np cap'] 61)) := balloc (Below.refl _ _) _
        have gy := new_alloc z z.heap.size (.cells #[.int .i64 id2, .int .i64 fr, .int .i64 te, .int .i64 kd, .slice a' np cap'] 61) rfl
        have HIa := hid (HIz.out.below hal)
        have HBa := hid (btrans HBz.out hal)
        clear hal HIz HBz
        generalize z.alloc (.cells #[.int .i64 id2, .int .i64 fr, .int .i64 te, .int .i64 kd, .slice a' np cap'] 61) = Z at *
        obtain ⟨⟨x0, x1, x2, x3, x4⟩, _⟩ := cell5g gy
        clear gy
        obtain ⟨g', c', e', hgl', hownZ⟩ := HIa.out
        cases e'
        have hwZ := HBa.out.size
        go_wp2_with (at_builtin; (refine wpList_append_lies _ rfl (.tmp 26) (.tmp 28) 30 rfl w.heap.size 61 i0 _ 5 56 Tryz.underlying30 hi0 hz0 hz1 hz2 rfl (by decide) (.slice (some ⟨g, 0, none⟩) xs.length c) xs.length (flat5 xs) rfl (hownZ.alloc _) ⟨Z.heap.size, 0, none⟩ 1 1 (ev (id2, fr, te, kd, a', np, cap')) rfl rfl (World.news_of_block (cs := #[.int .i64 id2, .int .i64 fr, .int .i64 te, .int .i64 kd, .slice a' np cap']) (t := 61) (fr := (0, 0)) (heap_alloc_new Z _)) (by simp [ev, Value.oneCell']) (by omega) (by unfold maxLen; omega) (by omega) (by simp; omega) (Z.heap.size + 1) (by simp) ?_; intro gg cq w2 hown2 hgrow hat hlt2))
        have hb2 : Below w.heap.size w w2 := Below.grown (balloc HBa.out _) hgrow (by simp; omega) (fun k e => (hownZ.lt k e).1)
        have hgg : gg < w2.heap.size := by
          rcases hown2.2 with ⟨q, _⟩ | ⟨g9, c9, cur9, e9, _, q9, _⟩
          · cases q
          · cases e9; exact lt_of_block q9
        have HSN2 : Hid (ERow w.heap.size w2 (.slice (some ⟨gg, 0, none⟩) (xs.length + 1) cq) (xs ++ [(id2, fr, te, kd, a', np, cap')])) := hid (by
          refine ⟨gg, cq, by simp, hgg, ?_⟩
          rw [flat5_snoc]
          simpa using hown2)
        have HB2 := hid hb2
        clear hb2 hown2 hgrow hownZ
        go_roundw
        case rel => exact ⟨i + 1, _, by go_num, by omega, HK2, HSN2, HB2⟩
        case measure => simp [intOf]; omega
    · have d1 : (n : Int) ≤ (i : Int) := by omega
      have hin : i = n := by omega
      have HF : Hid (KT0 w0 t rs n xs) := hid (by rw [← hin]; exact HK.out)
      clear hin HK
      go_wp2_with fail
      go_ret
      exact ⟨_, xs, rfl, HV.out, HF.out, HBW.out⟩
/-- The cells of what is there under an id. -/
def EL (w : World) (rs : List Rw) (t : Int) (y : El) : Prop := y.2.2.2.1 = raK (rat rs y.1 t) ∧ y.2.2.2.2.2.1 = (raP (rat rs y.1 t)).length ∧ (raP (rat rs y.1 t)).length ≤ y.2.2.2.2.2.2 ∧ (raP (rat rs y.1 t)).length ≤ 1099511627776 ∧ Pts w y.2.2.2.2.1 (raP (rat rs y.1 t)) ∧ shok (raK (rat rs y.1 t)) (raP (rat rs y.1 t)) = true
theorem Elx.el {w : World} {now : Int} {rs : List Rw} {t : Int} {y : El} (hr : rowsb now rs = true) (h : Elx w t rs y) : EL w rs t y := by
  obtain ⟨j, hj, h1, h2, h3, h4, h5, h6, h7, h8, h9⟩ := h
  have e := rat_of hr hj h1
  unfold EL
  rw [h2, e]
  exact ⟨h5, h6, h7, h8, h9, rowsb_sh hr hj⟩
/-- What thereAt tells: the cells of the rows that are there, by their ids. -/
def TA (w0 w : World) (t : Int) (rs : List Rw) (ids : List Int) (e : Ending) (w' : World) : Prop :=
  ∃ g a' cap' ys, e = .returned (.slice a' ys.length cap') ∧ ys.length ≤ cap' ∧ ys.map (fun y => y.1) = ids ∧ (0 < ys.length → a' = some ⟨g, 0, none⟩) ∧ w.heap.size ≤ g ∧ g < w'.heap.size ∧ ElsAt w' g 0 ys ∧ (∀ y ∈ ys, EL w0 rs t y) ∧ Below w.heap.size w w' ∧ (0 < ys.length → ∃ cur fr, w'.heap[g]? = some (.cells cur 61 fr))
theorem map_len_ids {xs : List El} {rs : List Rw} {t : Int} (h : xs.map (fun x => x.1) = idsT rs t) : xs.length ≤ rs.length := by
  have h1 := congrArg List.length h
  rw [List.length_map] at h1
  have := ids_len rs t
  omega
theorem sorted_kind {w : World} {g q : Nat} {d : Array El} {os : Array Obj} {cur : Array Value} {T : TypeId} {fr : Nat × Nat} (h : w.heap[g]? = some (.cells cur T fr)) : ∃ cur' fr', (sortWorldK ev 5 w g 0 q d os).heap[g]? = some (.cells cur' T fr') := by
  unfold sortWorldK putRowK
  have hl := lt_of_block h
  rw [heap_grow_old _ _ (by simpa [putRow, mapBlock, Sort.ahead] using hl)]
  refine ⟨putCells id 0 (flatK ev 5 d) cur, fr, ?_⟩
  simp only [putRow, mapBlock, Sort.ahead, Array.getElem?_modify, if_true, h, Option.map_some]
  rfl
set_option maxHeartbeats 2000000 in
theorem sort_els (B : Nat) (v : Value) (xs : List El) (w : World) (hm : xs.length ≤ 1099511627776) (h : ERow B w v xs) : Calls Tryz.prog 46 #[v, .func (.func 47) #[] #[]] w fun e w' => e = .returned (.tuple #[]) ∧ ∃ ys g cap, v = .slice (some ⟨g, 0, none⟩) xs.length cap ∧ xs.length ≤ cap ∧ B ≤ g ∧ g < w'.heap.size ∧ ElsAt w' g 0 ys ∧ ys.Perm xs ∧ ys.Pairwise lexE ∧ w.grownBy w' (some g) ∧ ∃ cur fr, w'.heap[g]? = some (.cells cur 61 fr) := by
  obtain ⟨g, cap, rfl, hgl, hown⟩ := h
  obtain ⟨cur, hcap, hB, hb, htk⟩ : ∃ cur, xs.length ≤ cap ∧ B ≤ g ∧ w.heap[g]? = some (.cells cur 61 (0, 0)) ∧ cur.toList.take (xs.length * 5) = flat5 xs := by
    rcases hown.2 with ⟨q, _⟩ | ⟨g', c', cur, e, q1, q2, q3, _, _, q4⟩
    · cases q
    · cases e
      exact ⟨cur, q3, q1, q2, q4⟩
  have hH : HoldsK ev 5 w g 0 xs.toArray := holds_of_row (cap := cap) hb htk
  have HS := sort_rows g 0 cap xs.toArray w hH hgl (by simp; omega)
  rw [show xs.toArray.size = xs.length by simp] at HS
  refine HS.mono ?_
  rintro e w2 ⟨rfl, d', q, os, hp, hs, rfl⟩
  have hds : d'.size = xs.length := by have := hp.1; simpa using this
  have hK2 := holdsK_sortWorldK ev 5 w g 0 q xs.toArray d' os hgl hH (by rw [hds]; simp)
  have hgr := grown_sortedK (w := w) (g := g) (n := q) (os := os) d'
  have hperm : d'.toList.Perm xs := by
    have h2 := hp.2.2
    have e1 : d'.extract 0 xs.length = d' := by rw [← hds]; simp
    have e2 : xs.toArray.extract 0 xs.length = xs.toArray := by
      have : xs.length = xs.toArray.size := by simp
      rw [this]; simp
    rw [e1, e2] at h2
    simpa using h2
  exact ⟨rfl, d'.toList, g, cap, rfl, hcap, hB, Nat.lt_of_lt_of_le hgl hgr.size, els_of_holds hK2, hperm, sorted_lex (by rw [hds]; exact hs), hgr, sorted_kind hb⟩
set_option maxRecDepth 100000 in
set_option maxHeartbeats 2000000 in
theorem impl_thereAt {N : Nat → Prop} (now : Int) (a : Option Addr) (cap : Nat) (rs : List Rw) (t : Int) (w0 w : World) (hm : rs.length ≤ 1099511627776) (h : Rws N w0 a rs) (hb0 : Below w0.heap.size w0 w) : Calls Tryz.prog 23 #[.agg #[.int .i64 now, .slice a rs.length cap], .int .i64 t] w fun e w' => TA w0 w t rs (idsb now rs t) e w' := by
  have HOK := hid (fun (W : World) (hb : Below w.heap.size w W) => impl_RowsOk now a cap rs W hm ((h.below hb0).below hb))
  have HKP := hid (fun (W : World) (hb : Below w.heap.size w W) (p : Nat) (c1 : W.cell? ⟨p, 0, none⟩ = some (.int .i64 t)) => kept_there a cap rs t p w0 W hm h (btrans hb0 hb) c1)
  have HEL : Hid (rowsb now rs = true → ∀ y, Elx w0 t rs y → EL w0 rs t y) := hid (fun e y hy => hy.el e)
  clear h
  have HNO : Hid (rowsb now rs = false → idsb now rs t = []) := hid (fun e => by unfold idsb; rw [if_neg (by rw [e]; simp)])
  have HYE : Hid (rowsb now rs = true → idsb now rs t = srt (idsT rs t)) := hid (fun e => by unfold idsb; rw [if_pos e])
  have HL := hid (ids_len rs t)
  have HNN := hid hm
  generalize idsb now rs t = ib at *
  generalize rowsb now rs = ob at *
  obtain ⟨n, hn⟩ : ∃ n, n = rs.length := ⟨_, rfl⟩
  have HN := hid hn.symm
  rw [← hn] at hm HOK HKP HNN HL ⊢
  clear hn
  have hmf : ∀ (fn : Fn) (first cp : Array Value) (w : World), (Instr.makeFunc fn first cp).run Tryz.prog w = .ok (.func fn first cp) w := fun _ _ _ _ => rfl
  go_enter Tryz.func23, Tryz.ntmps23
  go_upto_region 1 with fail
  have hBx : Below w.heap.size w ((w.alloc (.cells #[.int .i64 now, .slice a n cap] 32)).alloc (.cells #[.int .i64 t] 3)) := balloc (balloc (Below.refl _ _) _) _
  have g0 := old_alloc (o' := .cells #[.int .i64 t] 3) (new_alloc w w.heap.size (.cells #[.int .i64 now, .slice a n cap] 32) rfl)
  have g1 := new_alloc (w.alloc (.cells #[.int .i64 now, .slice a n cap] 32)) (w.heap.size + 1) (.cells #[.int .i64 t] 3) (by simp)
  generalize (w.alloc (.cells #[.int .i64 now, .slice a n cap] 32)).alloc (.cells #[.int .i64 t] 3) = W0 at *
  obtain ⟨d0, d1, _, _⟩ := cell2r g0
  go_wp2_with fail
  refine (HOK.out _ hBx).mono ?_
  rintro e W ⟨rfl, hz⟩
  replace g0 := keepheap2 hz g0
  replace g1 := keepheap2 hz g1
  have hB := btrans hBx hz
  clear hBx hz d0 d1 HOK
  cases ob
  · have HF := hid (HNO.out rfl)
    have HB := hid hB
    have HWL := hid (lt_of_block g0)
    clear HNO HYE HKP g0 g1 hB
    go_wp2_with fail
    go_ret
    rw [HF.out]
    exact ⟨w.heap.size, none, 0, [], rfl, Nat.le_refl _, rfl, fun h => absurd h (by simp), Nat.le_refl _, HWL.out, fun j hj => absurd hj (by simp), fun y hy => absurd hy (by simp), HB.out, fun h => absurd h (by simp)⟩
  have HF := hid (HYE.out rfl)
  have c1 : W.cell? ⟨w.heap.size + 1, 0, none⟩ = some (.int .i64 t) := by simp [World.cell?, g1]
  have KP := hid (HKP.out W hB (w.heap.size + 1) c1)
  have HB := hid hB
  clear HNO HYE HKP c1 g1 hB
  obtain ⟨d0, d1, _, _⟩ := cell2r g0
  go_wp2_with fail
  refine KP.out.mono ?_
  rintro e y ⟨v, xs, rfl, hI, hK, hy⟩
  have hxl : xs.length ≤ n := hK.1
  have hid2 : xs.map (fun x => x.1) = idsT rs t := by have := hK.2.1; rw [← HN.out, List.take_length] at this; exact this
  have HS := hid (sort_els W.heap.size v xs y (by have := HNN.out; omega) hI)
  have HBy := hid (btrans HB.out hy)
  have HXY : Hid (∀ x ∈ xs, EL w0 rs t x) := hid (fun x hx => HEL.out (by first | rfl | trivial) x (hK.2.2 x hx))
  have HWs := hid HB.out.size
  have HYs := hid HBy.out.size
  have HID2 := hid hid2
  obtain ⟨g0', c0', hv, _, _⟩ := hI
  clear hy d0 d1 KP g0 hK hid2
  subst hv
  go_wp2_with fail
  refine HS.out.mono ?_
  rintro e u ⟨rfl, ys, g, cp, ev0, hcap, hgB, hgu, hE, hP, hL, hgr, hkd⟩
  cases ev0
  have HBu : Hid (Below w.heap.size w u) := hid (Below.grown HBy.out hgr HBy.out.size (fun k e => by cases e; have := HWs.out; omega))
  have HXU : Hid (∀ x ∈ ys, EL w0 rs t x) := hid (fun x hx => HXY.out x (hP.mem_iff.1 hx))
  have HCAP := hid hcap
  have HKD := hid hkd
  have HALL := hid (show _ ∧ _ ∧ _ from ⟨hP.length_eq, hE, hgu⟩)
  have HIDS : Hid (ys.map (fun y => y.1) = ib) := hid (by
    rw [HF.out, ← HID2.out]
    exact srt_of (hP.map _) (List.pairwise_map.2 (hL.imp (fun h => by unfold lexE at h; omega))))
  clear hgr HS hE hP hL hkd
  go_wp2_with fail
  go_ret
  exact ⟨g0', some ⟨g0', 0, none⟩, c0', ys, by rw [HALL.out.1]; rfl, by rw [HALL.out.1]; exact HCAP.out, HIDS.out, fun _ => rfl, by have := HWs.out; omega, HALL.out.2.2, HALL.out.2.1, HXU.out, HBu.out, fun _ => HKD.out⟩
end Go.Proofs.YtnaobljoopjhgaaGreat
namespace Go.Proofs.YtnaobljoopjhgaaGreat
open Go.RowKit
set_option linter.unusedSimpArgs false
set_option linter.unusedVariables false
set_option maxRecDepth 100000 in
set_option maxHeartbeats 2000000 in
theorem impl_rowbox (id fr te kd : Int) (a : Option Addr) (cap : Nat) (ps : List (Int × Int)) (w : World) (hm : ps.length ≤ 1099511627776) (hc : ps.length ≤ cap) (h : Pts w a ps) : Calls Tryz.prog 25 #[.agg #[.int .i64 id, .int .i64 fr, .int .i64 te, .int .i64 kd, .slice a ps.length cap]] w fun e w' => e = .returned (.agg #[.int .i64 (aX ps), .int .i64 (aY ps), .int .i64 (bX ps), .int .i64 (bY' ps)]) ∧ Below w.heap.size w w' := by
  have HB := hid (fun (W : World) (hb : Below w.heap.size w W) => impl_BoxAround a cap ps W hm hc (h.below hb))
  clear h
  generalize aX ps = r0 at *
  generalize aY ps = r1 at *
  generalize bX ps = r2 at *
  generalize bY' ps = r3 at *
  generalize aok ps = r4 at *
  generalize ps.length = n at *
  go_enter Tryz.func25, Tryz.ntmps25
  go_upto_region 1 with fail
  have hBx : Below w.heap.size w ((w.alloc (.cells #[.int .i64 id, .int .i64 fr, .int .i64 te, .int .i64 kd, .slice a n cap] 61)).alloc (.cells #[.int .i64 0, .int .i64 0, .int .i64 0, .int .i64 0] 51)) := balloc (balloc (Below.refl _ _) _) _
  have g0 := old_alloc (o' := .cells #[.int .i64 0, .int .i64 0, .int .i64 0, .int .i64 0] 51) (new_alloc w w.heap.size (.cells #[.int .i64 id, .int .i64 fr, .int .i64 te, .int .i64 kd, .slice a n cap] 61) rfl)
  have g1 := new_alloc (w.alloc (.cells #[.int .i64 id, .int .i64 fr, .int .i64 te, .int .i64 kd, .slice a n cap] 61)) (w.heap.size + 1) (.cells #[.int .i64 0, .int .i64 0, .int .i64 0, .int .i64 0] 51) (by simp)
  generalize (w.alloc (.cells #[.int .i64 id, .int .i64 fr, .int .i64 te, .int .i64 kd, .slice a n cap] 61)).alloc (.cells #[.int .i64 0, .int .i64 0, .int .i64 0, .int .i64 0] 51) = W at *
  obtain ⟨⟨x0, x1, x2, x3, x4⟩, _⟩ := cell5g g0
  go_wp2_with fail
  refine (HB.out _ hBx).mono ?_
  rintro e z ⟨rfl, hz⟩
  replace g1 := keepheap2 hz g1
  have hBz := btrans hBx hz
  clear hz hBx x0 x1 x2 x3 x4 g0 HB
  go_upto_region 2 with fail
  have hal : Below z.heap.size z (z.alloc (.cells #[.int .i64 r0, .int .i64 r1, .int .i64 r2, .int .i64 r3] 51)) := balloc (Below.refl _ _) _
  have gN := new_alloc z z.heap.size (.cells #[.int .i64 r0, .int .i64 r1, .int .i64 r2, .int .i64 r3] 51) rfl
  replace g1 := keepheap2 hal g1
  replace hBz := btrans hBz hal
  clear hal
  generalize z.alloc (.cells #[.int .i64 r0, .int .i64 r1, .int .i64 r2, .int .i64 r3] 51) = Z at *
  generalize z.heap.size = zb at *
  obtain ⟨p0, p1, p2, p3, _, _, _, _⟩ := cell4 gN
  obtain ⟨v0, v1, v2, v3, u0, u1, u2, u3⟩ := cell4 g1
  obtain ⟨gF, bF⟩ := set4 g1 hBz (by omega) (.int .i64 r0) (.int .i64 r1) (.int .i64 r2) (.int .i64 r3)
  go_wp2_with fail
  generalize (((Z.setCell ⟨w.heap.size + 1, 0, none⟩ (.int .i64 r0)).setCell ⟨w.heap.size + 1, 1, none⟩ (.int .i64 r1)).setCell ⟨w.heap.size + 1, 2, none⟩ (.int .i64 r2)).setCell ⟨w.heap.size + 1, 3, none⟩ (.int .i64 r3) = wf at *
  obtain ⟨z0, z1, z2, z3, _, _, _, _⟩ := cell4 gF
  exact bodyPost_ret (v := .agg #[.int .i64 r0, .int .i64 r1, .int .i64 r2, .int .i64 r3]) (by simp [results, Tryz.results25, go_sem, z0, z1, z2, z3]) rfl ⟨rfl, bF⟩
end Go.Proofs.YtnaobljoopjhgaaGreat
namespace Go.Proofs.YtnaobljoopjhgaaGreat
open Go.RowKit
set_option linter.unusedSimpArgs false
set_option linter.unusedVariables false
def sv (f : List (Int × Int) → Int) (k : Int) (ps : List (Int × Int)) : Int := if shok k ps = true then f ps else 0
def hasv (a b c d e f g h : Int) : Bool := bok a b c d && bok e f g h && hasbx a b c d e f g h
set_option maxHeartbeats 1000000 in
theorem spec_ShapeBox (k : Int) (a : Option Addr) (cap : Nat) (ps : List (Int × Int)) (w : World) (hm : ps.length ≤ 1099511627776) (hc : ps.length ≤ cap) (h : Pts w a ps) : Calls Tryz.prog 19 #[shv k a ps.length cap] w fun e w' => e = .returned (.tuple #[.agg #[.int .i64 (sv aX k ps), .int .i64 (sv aY k ps), .int .i64 (sv bX k ps), .int .i64 (sv bY' k ps)], .bool (shok k ps && aok ps)]) ∧ Below w.heap.size w w' := by
  have hok := fun w' (hw : Pts w' a ps) => spec_ShapeOk k a cap ps w' hm hc hw
  have hba := fun w' (hw : Pts w' a ps) => spec_BoxAround a cap ps w' hm hc hw
  have Hh := hid h
  clear h
  cases hs : shok k ps
  · have v : ∀ f : List (Int × Int) → Int, sv f k ps = 0 := by intro f; unfold sv; rw [hs]; rfl
    rw [v aX, v aY, v bX, v bY']
    rw [hs] at hok
    have Hok := hid hok
    clear hok hba v hs
    go_enter Tryz.func19, Tryz.ntmps19
    go_wp2_with fail
    refine (Hok.out _ (Hh.out.below ?_)).mono ?_
    · (repeat (first | with_reducible exact Below.refl _ _ | with_reducible assumption | (with_reducible refine btrans ?_ (by with_reducible assumption)) | with_reducible refine bdrew ?_ | with_reducible refine balloc ?_ _))
    rintro e w1 ⟨rfl, hb1⟩
    have gz : w1.heap[w.heap.size + 1]? = some (.cells #[.int .i64 0, .int .i64 0, .int .i64 0, .int .i64 0] 51 (0, 0)) := by (repeat (first | with_reducible assumption | (refine new_alloc _ _ _ ?_; simp; done) | refine keepheap2 (by with_reducible assumption) ?_ | refine keephdrew2 ?_ | refine old_alloc ?_))
    obtain ⟨i0, i1, i2, i3, j0, j1, j2, j3⟩ := cell4 gz
    have Gz := hid gz
    clear gz
    go_wp2_with fail
    obtain ⟨gF, hbF⟩ := set4 (w := w) Gz.out (by (repeat (first | with_reducible exact Below.refl _ _ | with_reducible assumption | (with_reducible refine btrans ?_ (by with_reducible assumption)) | with_reducible refine bdrew ?_ | with_reducible refine balloc ?_ _))) (show w.heap.size ≤ w.heap.size + 1 by omega) (.int .i64 0) (.int .i64 0) (.int .i64 0) (.int .i64 0)
    generalize ((((w1.setCell ⟨w.heap.size + 1, 0, none⟩ (.int .i64 0)).setCell ⟨w.heap.size + 1, 1, none⟩ (.int .i64 0)).setCell ⟨w.heap.size + 1, 2, none⟩ (.int .i64 0)).setCell ⟨w.heap.size + 1, 3, none⟩ (.int .i64 0)) = wf at gF hbF ⊢
    obtain ⟨z0, z1, z2, z3, _, _, _, _⟩ := cell4 gF
    exact bodyPost_ret (v := .tuple #[.agg #[.int .i64 0, .int .i64 0, .int .i64 0, .int .i64 0], .bool false]) (by simp [results, Tryz.results19, go_sem, z0, z1, z2, z3]) rfl ⟨rfl, hbF⟩
  have v : ∀ f : List (Int × Int) → Int, sv f k ps = f ps := by intro f; unfold sv; rw [hs]; rfl
  rw [v aX, v aY, v bX, v bY', Bool.true_and]
  rw [hs] at hok
  generalize aX ps = m1 at *
  generalize aY ps = m2 at *
  generalize bX ps = m3 at *
  generalize bY' ps = m4 at *
  generalize aok ps = ok at *
  have Hok := hid hok
  have Hba := hid hba
  clear hok hba v hs
  go_enter Tryz.func19, Tryz.ntmps19
  go_wp2_with fail
  refine (Hok.out _ (Hh.out.below ?_)).mono ?_
  · (repeat (first | with_reducible exact Below.refl _ _ | with_reducible assumption | (with_reducible refine btrans ?_ (by with_reducible assumption)) | with_reducible refine bdrew ?_ | with_reducible refine balloc ?_ _))
  rintro e w1 ⟨rfl, hb1⟩
  have q0 : w1.cell? ⟨w.heap.size, 0, none⟩ = some (.int .i64 k) := by (repeat (first | with_reducible assumption | (refine newcell _ _ _ _ _ _ ?_ rfl; simp; done) | refine keepcell (by with_reducible assumption) ?_ | refine keepdrew ?_ | refine keepalloc ?_ _))
  have q1 : w1.cell? ⟨w.heap.size, 1, none⟩ = some (.slice a ps.length cap) := by (repeat (first | with_reducible assumption | (refine newcell _ _ _ _ _ _ ?_ rfl; simp; done) | refine keepcell (by with_reducible assumption) ?_ | refine keepdrew ?_ | refine keepalloc ?_ _))
  have gz : w1.heap[w.heap.size + 1]? = some (.cells #[.int .i64 0, .int .i64 0, .int .i64 0, .int .i64 0] 51 (0, 0)) := by (repeat (first | with_reducible assumption | (refine new_alloc _ _ _ ?_; simp; done) | refine keepheap2 (by with_reducible assumption) ?_ | refine keephdrew2 ?_ | refine old_alloc ?_))
  have Gz1 := hid gz
  clear gz
  go_wp2_with fail
  refine (Hba.out _ (Hh.out.below ?_)).mono ?_
  · (repeat (first | with_reducible exact Below.refl _ _ | with_reducible assumption | (with_reducible refine btrans ?_ (by with_reducible assumption)) | with_reducible refine bdrew ?_ | with_reducible refine balloc ?_ _))
  rintro e w2 ⟨rfl, hb2⟩
  have gz := keepheap2 hb2 Gz1.out
  obtain ⟨i0, i1, i2, i3, j0, j1, j2, j3⟩ := cell4 gz
  have Gz := hid gz
  clear gz
  go_wp2_with fail
  obtain ⟨gF, hbF⟩ := set4 (w := w) Gz.out (by (repeat (first | with_reducible exact Below.refl _ _ | with_reducible assumption | (with_reducible refine btrans ?_ (by with_reducible assumption)) | with_reducible refine bdrew ?_ | with_reducible refine balloc ?_ _))) (show w.heap.size ≤ w.heap.size + 1 by omega) (.int .i64 m1) (.int .i64 m2) (.int .i64 m3) (.int .i64 m4)
  generalize ((((w2.setCell ⟨w.heap.size + 1, 0, none⟩ (.int .i64 m1)).setCell ⟨w.heap.size + 1, 1, none⟩ (.int .i64 m2)).setCell ⟨w.heap.size + 1, 2, none⟩ (.int .i64 m3)).setCell ⟨w.heap.size + 1, 3, none⟩ (.int .i64 m4)) = wf at gF hbF ⊢
  obtain ⟨z0, z1, z2, z3, _, _, _, _⟩ := cell4 gF
  exact bodyPost_ret (v := .tuple #[.agg #[.int .i64 m1, .int .i64 m2, .int .i64 m3, .int .i64 m4], .bool ok]) (by simp [results, Tryz.results19, go_sem, z0, z1, z2, z3]) rfl ⟨rfl, hbF⟩
end Go.Proofs.YtnaobljoopjhgaaGreat
namespace Go.Proofs.YtnaobljoopjhgaaGreat
open Go.RowKit
set_option linter.unusedSimpArgs false
set_option linter.unusedVariables false
theorem foldl_min (f : Int × Int → Int) : ∀ (qs : List (Int × Int)) (m k : Int), qs.foldl (fun x p => min x (f p)) (min m k) = min m (qs.foldl (fun x p => min x (f p)) k)
  | [], m, k => rfl
  | q :: qs, m, k => by
    simp only [List.foldl_cons]
    rw [show min (min m k) (f q) = min m (min k (f q)) by omega]
    exact foldl_min f qs m _
theorem foldl_max (f : Int × Int → Int) : ∀ (qs : List (Int × Int)) (m k : Int), qs.foldl (fun x p => max x (f p)) (max m k) = max m (qs.foldl (fun x p => max x (f p)) k)
  | [], m, k => rfl
  | q :: qs, m, k => by
    simp only [List.foldl_cons]
    rw [show max (max m k) (f q) = max m (max k (f q)) by omega]
    exact foldl_max f qs m _
theorem aok_app {ps qs : List (Int × Int)} (h1 : aok ps = true) (h2 : aok qs = true) : aok (ps ++ qs) = true := by
  unfold aok allok at *
  cases ps with
  | nil => simp at h1
  | cons p ps =>
    simp only [List.isEmpty_cons, Bool.not_false, Bool.true_and, List.cons_append, List.all_cons, List.all_append, Bool.and_eq_true] at h1 h2 ⊢
    exact ⟨h1.1, h1.2, h2.2⟩
theorem box_app {ps qs : List (Int × Int)} (h1 : aok ps = true) (h2 : aok qs = true) : aX (ps ++ qs) = min (aX ps) (aX qs) ∧ aY (ps ++ qs) = min (aY ps) (aY qs) ∧ bX (ps ++ qs) = max (bX ps) (bX qs) ∧ bY' (ps ++ qs) = max (bY' ps) (bY' qs) := by
  have h3 := aok_app h1 h2
  unfold aX aY bX bY'
  rw [if_pos h1, if_pos h2, if_pos h3, if_pos h1, if_pos h2, if_pos h3, if_pos h1, if_pos h2, if_pos h3, if_pos h1, if_pos h2, if_pos h3]
  cases ps with
  | nil => simp [aok] at h1
  | cons p ps =>
    cases qs with
    | nil => simp [aok] at h2
    | cons q qs =>
      simp only [List.cons_append, List.tail_cons, List.getD_cons_zero, List.foldl_append, List.foldl_cons]
      exact ⟨foldl_min (fun p => p.1) qs _ _, foldl_min (fun p => p.2) qs _ _, foldl_max (fun p => p.1) qs _ _, foldl_max (fun p => p.2) qs _ _⟩
theorem shok_aok {k : Int} {ps : List (Int × Int)} (h : shok k ps = true) : aok ps = true ∧ 0 < ps.length ∧ ps.length ≤ 60 := by
  cases ha : allok ps
  · rw [shok_no ha] at h; cases h
  have hl : 0 < ps.length ∧ ps.length ≤ 60 := by
    unfold shok at h
    split at h
    · simp only [Bool.and_eq_true, decide_eq_true_eq] at h; omega
    split at h
    · simp only [lineb, Bool.and_eq_true, decide_eq_true_eq] at h; omega
    split at h
    · simp only [rectb, Bool.and_eq_true, decide_eq_true_eq] at h; omega
    split at h
    · simp only [ringOk, Bool.and_eq_true, decide_eq_true_eq] at h; omega
    · cases h
  refine ⟨?_, hl⟩
  unfold aok
  rw [ha, Bool.and_true]
  cases ps with
  | nil => simp at hl
  | cons p ps => rfl
/-- The points of what is there under some ids. -/
def bpts (rs : List Rw) (t : Int) (ids : List Int) : List (Int × Int) := ids.flatMap (fun id => raP (rat rs id t))
theorem bpts_next {rs : List Rw} {t : Int} {ids : List Int} {i : Nat} (hi : i < ids.length) : bpts rs t (ids.take (i + 1)) = bpts rs t (ids.take i) ++ raP (rat rs ids[i] t) := by
  unfold bpts
  rw [List.take_add_one, List.getElem?_eq_getElem hi, List.flatMap_append]
  simp only [Option.toList_some, List.flatMap_cons, List.flatMap_nil, List.append_nil]
theorem bpts_aok {rs : List Rw} {t : Int} {ids : List Int} (h : ∀ id ∈ ids, shok (raK (rat rs id t)) (raP (rat rs id t)) = true) : ∀ i, i ≤ ids.length → (bpts rs t (ids.take i)).length ≤ i * 60 ∧ aok (bpts rs t (ids.take i)) = decide (0 < i)
  | 0, _ => by simp [bpts, aok]
  | i + 1, hi => by
    obtain ⟨h1, h2⟩ := bpts_aok h i (by omega)
    have hl : i < ids.length := by omega
    obtain ⟨q1, q2, q3⟩ := shok_aok (h ids[i] (List.getElem_mem hl))
    rw [bpts_next hl]
    refine ⟨by rw [List.length_append]; omega, ?_⟩
    by_cases e : i = 0
    · subst e
      simp only [List.take_zero]
      rw [show bpts rs t [] = [] from rfl, List.nil_append, q1]
      rfl
    · rw [aok_app (by rw [h2]; simpa using (by omega : 0 < i)) q1]
      simp
def BD (ps : List (Int × Int)) (e : Ending) : Prop := e = .returned (.tuple #[.agg #[.int .i64 (aX ps), .int .i64 (aY ps), .int .i64 (bX ps), .int .i64 (bY' ps)], .bool (aok ps)])
end Go.Proofs.YtnaobljoopjhgaaGreat
namespace Go.Proofs.YtnaobljoopjhgaaGreat
open Go.RowKit
set_option linter.unusedSimpArgs false
set_option linter.unusedVariables false
theorem fmin_in (f : Int × Int → Int) : ∀ (ps : List (Int × Int)) (x : Int), In x → (∀ p ∈ ps, In (f p)) → In (ps.foldl (fun m p => min m (f p)) x) ∧ ps.foldl (fun m p => min m (f p)) x ≤ x
  | [], x, h, _ => ⟨h, Int.le_refl _⟩
  | q :: r, x, h, hp => by
    have ih := fmin_in f r (min x (f q)) (by have := hp q (by simp); unfold In at *; omega) (fun p hp' => hp p (List.mem_cons_of_mem _ hp'))
    simp only [List.foldl_cons]
    exact ⟨ih.1, by have := ih.2; omega⟩
theorem fmax_in (f : Int × Int → Int) : ∀ (ps : List (Int × Int)) (x : Int), In x → (∀ p ∈ ps, In (f p)) → In (ps.foldl (fun m p => max m (f p)) x) ∧ x ≤ ps.foldl (fun m p => max m (f p)) x
  | [], x, h, _ => ⟨h, Int.le_refl _⟩
  | q :: r, x, h, hp => by
    have ih := fmax_in f r (max x (f q)) (by have := hp q (by simp); unfold In at *; omega) (fun p hp' => hp p (List.mem_cons_of_mem _ hp'))
    simp only [List.foldl_cons]
    exact ⟨ih.1, by have := ih.2; omega⟩
theorem bx_bd {ps : List (Int × Int)} (h : aok ps = true) : (In (aX ps) ∧ In (aY ps) ∧ In (bX ps) ∧ In (bY' ps)) ∧ aX ps ≤ bX ps ∧ aY ps ≤ bY' ps := by
  unfold aX aY bX bY'
  rw [if_pos h, if_pos h, if_pos h, if_pos h]
  cases ps with
  | nil => simp [aok] at h
  | cons q r =>
    unfold aok allok at h
    simp only [List.isEmpty_cons, Bool.not_false, Bool.true_and, List.all_cons, Bool.and_eq_true, List.all_eq_true] at h
    have hin : ∀ p : Int × Int, pok p.1 p.2 = true → In p.1 ∧ In p.2 := fun p hp => by
      unfold pok cok at hp
      simp only [Bool.and_eq_true, decide_eq_true_eq] at hp
      unfold In
      omega
    have i0 := hin q h.1
    have m1 := fmin_in (fun p => p.1) r q.1 i0.1 (fun p hp => (hin p (h.2 p hp)).1)
    have m2 := fmin_in (fun p => p.2) r q.2 i0.2 (fun p hp => (hin p (h.2 p hp)).2)
    have m3 := fmax_in (fun p => p.1) r q.1 i0.1 (fun p hp => (hin p (h.2 p hp)).1)
    have m4 := fmax_in (fun p => p.2) r q.2 i0.2 (fun p hp => (hin p (h.2 p hp)).2)
    simp only [List.tail_cons, List.getD_cons_zero]
    exact ⟨⟨m1.1, m2.1, m3.1, m4.1⟩, by have := m1.2; have := m3.2; omega, by have := m2.2; have := m4.2; omega⟩
/-- How far the box around some points is. -/
def fp (px py : Int) (ps : List (Int × Int)) : Int := fb px py (aX ps) (aY ps) (bX ps) (bY' ps)
def cnd (rs : List Rw) (t px py id : Int) : Cn := (id, fp px py (raP (rat rs id t)))
def nrb (now : Int) (rs : List Rw) (t px py most : Int) : List Int := if pok px py = true ∧ 0 ≤ most ∧ most ≤ 300 then near ((idsb now rs t).map (cnd rs t px py)) most.toNat else []
theorem cnd_next {rs : List Rw} {t px py : Int} {ids : List Int} {i : Nat} (hi : i < ids.length) : (ids.take (i + 1)).map (cnd rs t px py) = (ids.take i).map (cnd rs t px py) ++ [cnd rs t px py (ids.getD i 0)] := by
  rw [List.take_add_one, List.getElem?_eq_getElem hi, List.map_append, List.getD_eq_getElem?_getD, List.getElem?_eq_getElem hi]
  rfl
theorem near_min (l : List Cn) (k : Nat) : near l k = near l (min k l.length) := by
  unfold near
  have hl : (srtc l).length = l.length := (List.mergeSort_perm l _).length_eq
  by_cases h : k ≤ l.length
  · rw [Nat.min_eq_left h]
  · rw [Nat.min_eq_right (by omega), List.take_of_length_le (by omega), List.take_of_length_le (by omega)]
theorem near_len (l : List Cn) (k : Nat) : (near l k).length = min k l.length := by
  unfold near
  rw [List.length_map, List.length_take, show (srtc l).length = l.length from (List.mergeSort_perm l leb).length_eq]
theorem make_intsL (n : Nat) (hn : n ≤ 1099511627776) (w : World) : (Instr.makeSlice 28 (.int .i64 n) (.int .i64 n)).run Tryz.prog w = .ok (.slice (some ⟨w.heap.size, 0, none⟩) n n) (w.alloc (.cells (madeCells #[.int .i64 0] n) 3)) := by
  obtain ⟨i0, hi, hz0, hz1, hz2⟩ := info_parts Tryz.infoI
  have := run_make (P := Tryz.prog) w 28 3 i0 _ Tryz.underlying28 hi hz0 .i64 .i64 n n (by omega) (by omega) (by rw [hz2]; omega) (by omega)
  rw [hz1, Nat.mul_one] at this
  exact this
theorem ElsAt.blkN {w w' : World} {b off : Nat} {xs : List El} (h : ElsAt w b off xs) (e : w'.heap[b]? = w.heap[b]?) : ElsAt w' b off xs := fun j hj => by
  have hc : ∀ k, w'.cell? ⟨b, k, none⟩ = w.cell? ⟨b, k, none⟩ := fun k => by simp only [World.cell?, e]
  rw [hc, hc, hc, hc, hc]
  exact h j hj
/-- What stands beside the heap: the rows' cells and the point. -/
def NS (w : World) (g n : Nat) (ys : List El) (px py : Int) (wr : World) : Prop :=
  (0 < n → ∃ cur fr, wr.heap[g]? = some (.cells cur 61 fr)) ∧ (0 < n → ElsAt wr g 0 ys) ∧ wr.heap[w.heap.size + 1]? = some (.cells #[.int .i64 px, .int .i64 py] 34 (0, 0)) ∧ Below w.heap.size w wr
theorem NS.below {w : World} {g n : Nat} {ys : List El} {px py : Int} {wr w' : World} (h : NS w g n ys px py wr) (H : Below wr.heap.size wr w') : NS w g n ys px py w' := by
  obtain ⟨h1, h2, h3, h4⟩ := h
  refine ⟨fun h0 => ?_, fun h0 => ?_, keepheapN H h3, btrans h4 H⟩
  · obtain ⟨cur, fr, e⟩ := h1 h0
    exact ⟨cur, fr, keepheapN H e⟩
  · obtain ⟨cur, fr, e⟩ := h1 h0
    exact (h2 h0).blkN (H.block g (lt_of_block e))
theorem ok_keep {nb k : Nat} {w w' : World} {cs : Array Value} {t : TypeId} {fr : Nat × Nat} (h : OK9 nb w w') (hk : w.heap[k]? = some (.cells cs t fr)) (hne : k ≠ nb) (ht : t ≠ 90) : w'.heap[k]? = some (.cells cs t fr) :=
  h k _ hk (by simp; exact hne) (fun c fz q => by injection q with _ q2; exact absurd q2 ht)
theorem NS.kept {w : World} {g n nb : Nat} {ys : List El} {px py : Int} {wr w' : World} (h : NS w g n ys px py wr) (H : HS w.heap.size nb wr w') (hg : g ≠ nb) (hb : nb ≠ w.heap.size + 1) : NS w g n ys px py w' := by
  obtain ⟨h1, h2, h3, h4⟩ := h
  refine ⟨fun h0 => ?_, fun h0 => ?_, ok_keep H.2 h3 (fun e => hb e.symm) (by decide), h4.trans H.1⟩
  · obtain ⟨cur, fr, e⟩ := h1 h0
    exact ⟨cur, fr, ok_keep H.2 e hg (by decide)⟩
  · obtain ⟨cur, fr, e⟩ := h1 h0
    exact (h2 h0).blkN (by rw [ok_keep H.2 e hg (by decide), e])
theorem near_no {now : Int} {rs : List Rw} {t px py most : Int} (h : ¬ (pok px py = true ∧ 0 ≤ most ∧ most ≤ 300)) : nrb now rs t px py most = [] := by
  unfold nrb
  rw [if_neg h]
theorem ia_nil {w W : World} {e : Ending} (hb : Below w.heap.size w W) (he : e = .returned (.slice (some ⟨W.heap.size, 0, none⟩) 0 0)) : IA w [] e (W.alloc (.cells #[] 3)) :=
  ⟨some ⟨W.heap.size, 0, none⟩, 0, he, .inr ⟨_, rfl, by simp, fun k hk => absurd hk (by simp), fun j hj => absurd hj (by simp)⟩, fun b off e => (by cases e; exact hb.size), balloc hb _⟩
set_option maxRecDepth 100000 in
set_option maxHeartbeats 4000000 in
theorem impl_NearestNo {N : Nat → Prop} (now : Int) (a : Option Addr) (cap : Nat) (rs : List Rw) (t px py most : Int) (w : World) (h : ¬ (pok px py = true ∧ 0 ≤ most ∧ most ≤ 300)) : Calls Tryz.prog 8 #[.agg #[.int .i64 now, .slice a rs.length cap], .int .i64 t, .agg #[.int .i64 px, .int .i64 py], .int .i64 most] w fun e w' => IA w (nrb now rs t px py most) e w' := by
  rw [near_no h]
  generalize rs.length = n0
  have hBx : Below w.heap.size w ((w.alloc (.cells #[.int .i64 now, .slice a n0 cap] 32)).alloc (.cells #[.int .i64 px, .int .i64 py] 34)) := balloc (balloc (Below.refl _ _) _) _
  have g1 := new_alloc (w.alloc (.cells #[.int .i64 now, .slice a n0 cap] 32)) (w.heap.size + 1) (.cells #[.int .i64 px, .int .i64 py] 34) (by simp)
  go_enter Tryz.func8, Tryz.ntmps8
  go_upto_region 1 with fail
  generalize (w.alloc (.cells #[.int .i64 now, .slice a n0 cap] 32)).alloc (.cells #[.int .i64 px, .int .i64 py] 34) = W0 at *
  by_cases h0 : most < 0
  · go_wp2_with fail
    go_ret
    exact ia_nil hBx rfl
  · have h0' : decide (most < 0) = false := by simpa using h0
    by_cases h3 : 300 < most
    · go_wp2_with fail
      go_ret
      exact ia_nil hBx rfl
    · have h3' : decide (300 < most) = false := by simpa using h3
      have hp : pok px py = false := by
        cases e : pok px py
        · rfl
        · exact absurd ⟨e, by omega, by omega⟩ h
      obtain ⟨q0, q1, _, _⟩ := cell2f2 g1
      have HOK := hid (impl_ok px py W0)
      rw [hp] at HOK
      go_wp2_with fail
      refine HOK.out.mono ?_
      rintro e z ⟨rfl, hz⟩
      subst hz
      have hBz := balloc hBx (.cells #[.int .i64 px, .int .i64 py] 34)
      generalize W0.alloc (.cells #[.int .i64 px, .int .i64 py] 34) = Z at *
      go_wp2_with fail
      go_ret
      exact ia_nil hBz rfl
end Go.Proofs.YtnaobljoopjhgaaGreat
