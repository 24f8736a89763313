/- Texts of stores, joined: Ba, ShBox, Bb0, Bi. -/
import Derived.Test.YtfajjnkkablneaaGreatDoorBa0
import Derived.Test.YtfajjnkkablneaaGreatDoorJ1
import Derived.Test.YtfajjnkkablneaaGreatDoorShLaw
import Derived.Test.YtfajjnkkablneaaGreatDoorGeo9
import Derived.Test.YtfajjnkkablneaaGreatDoorText
import Derived.Shelf.Strings.BuilderK
namespace Go.Proofs.YtfajjnkkablneaaGreatDoor
open Go.RowKit Go.Shelf Go.Lib Go.Sort
set_option linter.unusedSimpArgs false
set_option linter.unusedVariables false
theorem make_rowsB (n : Nat) (hn : n ≤ 1099511627776) (w : World) : (Instr.makeSlice 27 (.int .i64 0) (.int .i64 n)).run Tryz.prog w = .ok (.slice (some ⟨w.heap.size, 0, none⟩) 0 n) (w.alloc (.cells (madeCells #[.int .i64 0, .int .i64 0, .int .i64 0, .int .i64 0, .slice none 0 0] (n * 5)) 50)) := by
  obtain ⟨i0, hi, hz0, hz1, hz2⟩ := info_parts Tryz.infoRow
  have := run_make (P := Tryz.prog) w 27 50 i0 _ Tryz.underlying27 hi hz0 .i64 .i64 0 n (by omega) (by omega) (by rw [hz2]; omega) (by omega)
  rw [hz1] at this
  exact this
theorem own_frame0 {w w' : World} {B : Nat} {e : TypeId} {sz : Nat} {v : Value} {n : Nat} {xs : List Value} (h : w.ownsRow B e sz v n xs) (hb : ∀ g, v.ownBlock = some g → w'.heap[g]? = w.heap[g]?) : w'.ownsRow B e sz v n xs := by
  refine ⟨h.1, ?_⟩
  rcases h.2 with q | ⟨g, c, cur, e1, q1, q2, q3⟩
  · exact .inl q
  · refine .inr ⟨g, c, cur, e1, q1, ?_, q3⟩
    rw [hb g (by rw [e1]; rfl)]; exact q2
/-- The cells of a row that is there at a moment, its points in memory of the rows. -/
def Elx (w : World) (t : Int) (rs : List Rw) (x : El) : Prop := ∃ j, ∃ h : j < rs.length, thr (tr rs[j]) t = true ∧ x.1 = rs[j].1 ∧ x.2.1 = rs[j].2.1 ∧ x.2.2.1 = rs[j].2.2.1 ∧ x.2.2.2.1 = rs[j].2.2.2.1 ∧ x.2.2.2.2.2.1 = rs[j].2.2.2.2.length ∧ rs[j].2.2.2.2.length ≤ x.2.2.2.2.2.2 ∧ rs[j].2.2.2.2.length ≤ 1099511627776 ∧ Pts w x.2.2.2.2.1 rs[j].2.2.2.2
def ERow (B : Nat) (w : World) (v : Value) (xs : List El) : Prop := ∃ g cap, v = .slice (some ⟨g, 0, none⟩) xs.length cap ∧ g < w.heap.size ∧ w.ownsRow B 50 5 (.slice (some ⟨g, 0, none⟩) xs.length cap) xs.length (flat5 xs)
theorem ERow.below {B : Nat} {w w' : World} {v : Value} {xs : List El} (h : ERow B w v xs) (H : Below w.heap.size w w') : ERow B w' v xs := by
  obtain ⟨g, cap, rfl, h1, h3⟩ := h
  refine ⟨g, cap, rfl, Nat.lt_of_lt_of_le h1 H.size, h3.1, ?_⟩
  rcases h3.2 with ⟨q, _⟩ | ⟨g', c', cur, e, q1, q2, q3⟩
  · cases q
  · cases e
    exact .inr ⟨g, cap, cur, rfl, q1, by rw [H.block g h1]; exact q2, q3⟩
set_option maxRecDepth 100000 in
set_option maxHeartbeats 2000000 in
theorem there_1 (r : Rw) (a' : Option Addr) (cap' : Nat) (t : Int) (p : Nat) (w : World) (c1 : w.cell? ⟨p, 0, none⟩ = some (.int .i64 t)) : Calls Tryz.prog 31 #[rwv r a' cap', .pointer (some ⟨p, 0, none⟩)] w fun e w' => e = .returned (.tuple #[rwv r a' cap', .bool (thr (tr r) t)]) ∧ Below w.heap.size w w' := by
  have TH := hid (fun w' => impl_there r a' cap' t w')
  generalize thr (tr r) t = q2 at *
  obtain ⟨id2, fr, te, kd, ps⟩ := r
  unfold rwv at *
  simp only at *
  generalize ps.length = np at *
  have hB : Below w.heap.size w ((w.alloc (.cells #[.int .i64 id2, .int .i64 fr, .int .i64 te, .int .i64 kd, .slice a' np cap'] 50)).alloc (.cells #[.int .i64 0, .int .i64 0, .int .i64 0, .int .i64 0, .slice none 0 0] 50)) := balloc (balloc (Below.refl _ _) _) _
  have g0 := old_alloc (o' := .cells #[.int .i64 0, .int .i64 0, .int .i64 0, .int .i64 0, .slice none 0 0] 50) (new_alloc w w.heap.size (.cells #[.int .i64 id2, .int .i64 fr, .int .i64 te, .int .i64 kd, .slice a' np cap'] 50) rfl)
  have g1 := new_alloc (w.alloc (.cells #[.int .i64 id2, .int .i64 fr, .int .i64 te, .int .i64 kd, .slice a' np cap'] 50)) (w.heap.size + 1) (.cells #[.int .i64 0, .int .i64 0, .int .i64 0, .int .i64 0, .slice none 0 0] 50) (by simp)
  have hpn : p < w.heap.size := World.block_lt_of_cell? w _ c1
  replace c1 := keepalloc (keepalloc c1 (.cells #[.int .i64 id2, .int .i64 fr, .int .i64 te, .int .i64 kd, .slice a' np cap'] 50)) (.cells #[.int .i64 0, .int .i64 0, .int .i64 0, .int .i64 0, .slice none 0 0] 50)
  go_enter Tryz.func31, Tryz.ntmps31
  go_upto_region 1 with fail
  generalize (w.alloc (.cells #[.int .i64 id2, .int .i64 fr, .int .i64 te, .int .i64 kd, .slice a' np cap'] 50)).alloc (.cells #[.int .i64 0, .int .i64 0, .int .i64 0, .int .i64 0, .slice none 0 0] 50) = W at *
  obtain ⟨⟨x0, x1, x2, x3, x4⟩, _⟩ := cell5g g0
  have hWs := lt_of_block g1
  have HG1 := hid g1
  have HB := hid hB
  have hdr : W.drew.heap.size = W.heap.size := rfl
  clear g0 g1 hB
  go_region_held3 (fun w' => w'.cell? ⟨w.heap.size, 0, none⟩ = some (.int .i64 id2) ∧ w'.cell? ⟨w.heap.size, 1, none⟩ = some (.int .i64 fr) ∧ w'.cell? ⟨w.heap.size, 2, none⟩ = some (.int .i64 te) ∧ w'.cell? ⟨w.heap.size, 3, none⟩ = some (.int .i64 kd) ∧ w'.cell? ⟨w.heap.size, 4, none⟩ = some (.slice a' np cap') ∧ w'.cell? ⟨p, 0, none⟩ = some (.int .i64 t)) ((go_split_ands; (repeat' apply And.intro) <;> (repeat (first | with_reducible assumption | with_reducible refine keepset3 ?_ (by dsimp only; omega) | with_reducible refine keepdrew ?_ | with_reducible refine keepcell (by with_reducible assumption) ?_ | with_reducible refine keepalloc ?_ _))))
    (first
      | (go_at_call 32; refine (TH.out _).mono ?_; rintro e y2 ⟨rfl, hy2⟩; replace HB := hid (btrans (bdrew HB.out) hy2); have g1 := keepheap2 hy2 (show W.drew.heap[w.heap.size + 1]? = _ from HG1.out); obtain ⟨⟨v0, v1, v2, v3, v4⟩, u0, u1, u2, u3, u4⟩ := cell5g g1))
  go_wp2_with fail
  have gF := set5 g1 (.int .i64 id2) (.int .i64 fr) (.int .i64 te) (.int .i64 kd) (.slice a' np cap')
  have bF := bset (bset (bset (bset (bset HB.out (q := w.heap.size + 1) (k := 0) (by omega) (.int .i64 id2)) (q := w.heap.size + 1) (k := 1) (by omega) (.int .i64 fr)) (q := w.heap.size + 1) (k := 2) (by omega) (.int .i64 te)) (q := w.heap.size + 1) (k := 3) (by omega) (.int .i64 kd)) (q := w.heap.size + 1) (k := 4) (by omega) (.slice a' np cap')
  generalize (((((y2.setCell ⟨w.heap.size + 1, 0, none⟩ (.int .i64 id2)).setCell ⟨w.heap.size + 1, 1, none⟩ (.int .i64 fr)).setCell ⟨w.heap.size + 1, 2, none⟩ (.int .i64 te)).setCell ⟨w.heap.size + 1, 3, none⟩ (.int .i64 kd)).setCell ⟨w.heap.size + 1, 4, none⟩ (.slice a' np cap')) = wf at *
  obtain ⟨⟨z0, z1, z2, z3, z4⟩, _⟩ := cell5g gF
  exact bodyPost_ret (v := .tuple #[.agg #[.int .i64 id2, .int .i64 fr, .int .i64 te, .int .i64 kd, .slice a' np cap'], .bool q2]) (by simp [results, Tryz.results31, go_sem, z0, z1, z2, z3, z4]) rfl ⟨rfl, bF⟩
def KT0 (w : World) (t : Int) (rs : List Rw) (i : Nat) (xs : List El) : Prop := xs.length ≤ i ∧ xs.map (fun x => x.1) = idsT (rs.take i) t ∧ ∀ x ∈ xs, Elx w t rs x
set_option maxRecDepth 100000 in
set_option maxHeartbeats 2000000 in
theorem kept_there {N : Nat → Prop} (a : Option Addr) (cap : Nat) (rs : List Rw) (t : Int) (p : Nat) (w0 w : World) (hm : rs.length ≤ 1099511627776) (h : Rws N w0 a rs) (hb0 : Below w0.heap.size w0 w) (c1 : w.cell? ⟨p, 0, none⟩ = some (.int .i64 t)) : Calls Tryz.prog 30 #[.slice a rs.length cap, .func (.func 31) #[] #[.pointer (some ⟨p, 0, none⟩)]] w fun e w' => ∃ v xs, e = .returned v ∧ ERow w.heap.size w' v xs ∧ KT0 w0 t rs rs.length xs ∧ Below w.heap.size w w' := by
  obtain ⟨i0, hi0, hz0, hz1, hz2⟩ := info_parts Tryz.infoRow
  have HR := hid h
  have HB00 := hid hb0
  have HC := hid c1
  clear h c1 hb0
  have hmk := make_rowsB rs.length hm
  obtain ⟨n, hn⟩ : ∃ n, n = rs.length := ⟨_, rfl⟩
  have HN := hid hn.symm
  rw [← hn] at hm hmk ⊢
  clear hn
  have hB0 : Below w.heap.size w (w.alloc (.cells (madeCells #[.int .i64 0, .int .i64 0, .int .i64 0, .int .i64 0, .slice none 0 0] (n * 5)) 50)) := balloc (Below.refl _ _) _
  have HI : Hid (ERow w.heap.size (w.alloc (.cells (madeCells #[.int .i64 0, .int .i64 0, .int .i64 0, .int .i64 0, .slice none 0 0] (n * 5)) 50)) (.slice (some ⟨w.heap.size, 0, none⟩) 0 n) []) := hid (by
    have := World.ownsRow_made (base := w.heap.size) (e := 50) (size := 5) w (madeCells #[.int .i64 0, .int .i64 0, .int .i64 0, .int .i64 0, .slice none 0 0] (n * 5)) n (Nat.le_refl _) (by unfold maxLen; omega) (size_madeCells _ _)
    exact ⟨w.heap.size, n, rfl, by simp, by simpa [flat5] using this⟩)
  go_enter Tryz.func30, Tryz.ntmps30
  go_upto_region 2 with fail
  generalize w.alloc (.cells (madeCells #[.int .i64 0, .int .i64 0, .int .i64 0, .int .i64 0, .slice none 0 0] (n * 5)) 50) = W0 at *
  clear hmk
  go_wp2_with fail
  go_loopw [5, 15] (fun tv ti wr => ∃ i : Nat, ∃ xs : List El, ti = .int .i64 i ∧ i ≤ n ∧ Hid (KT0 w0 t rs i xs) ∧ Hid (ERow w.heap.size wr tv xs) ∧ Hid (Below w.heap.size w wr)) (fun _ ti _ => n - (intOf ti).toNat)
  case atStart => exact ⟨0, [], rfl, Nat.zero_le _, hid ⟨Nat.le_refl _, by simp [idsT], fun x hx => absurd hx (by simp)⟩, HI, hid hB0⟩
  case round =>
    clear HI hB0
    obtain ⟨i, xs, rfl, hi, HK, HV, HBW⟩ := hrel
    have hwX := HBW.out.size
    by_cases hlt : i < n
    · have d1 : (i : Int) < (n : Int) := by omega
      have hir : i < rs.length := by rw [HN.out]; exact hlt
      obtain ⟨b, o, rfl, hbs, a', cap', k0, k1, k2, k3, k4, k5, k6, k7, _⟩ := HR.out.at i hir
      replace k0 := keepcell (btrans HB00.out HBW.out) k0
      replace k1 := keepcell (btrans HB00.out HBW.out) k1
      replace k2 := keepcell (btrans HB00.out HBW.out) k2
      replace k3 := keepcell (btrans HB00.out HBW.out) k3
      replace k4 := keepcell (btrans HB00.out HBW.out) k4
      have hbx : Below wr.heap.size wr (wr.alloc (.cells #[.int .i64 rs[i].1, .int .i64 rs[i].2.1, .int .i64 rs[i].2.2.1, .int .i64 rs[i].2.2.2.1, .slice a' rs[i].2.2.2.2.length cap'] 50)) := balloc (Below.refl _ _) _
      have HT := hid (fun (W : World) (hb : Below wr.heap.size wr W) => there_1 rs[i] a' cap' t p W (keepcell (btrans HBW.out hb) HC.out))
      have HNO : Hid (thr (tr rs[i]) t = false → KT0 w0 t rs (i + 1) xs) := hid (fun e => ⟨by have := HK.out.1; omega, by rw [ids_next hir, if_neg (by rw [e]; simp)]; exact HK.out.2.1, HK.out.2.2⟩)
      have HYE : Hid (thr (tr rs[i]) t = true → KT0 w0 t rs (i + 1) (xs ++ [(rs[i].1, rs[i].2.1, rs[i].2.2.1, rs[i].2.2.2.1, a', rs[i].2.2.2.2.length, cap')])) := hid (fun e => by
        refine ⟨by have := HK.out.1; simp; omega, by rw [ids_next hir, if_pos e, List.map_append, HK.out.2.1]; rfl, fun x hx => ?_⟩
        rcases List.mem_append.1 hx with hx | hx
        · exact HK.out.2.2 x hx
        · simp at hx
          subst hx
          exact ⟨i, hir, e, rfl, rfl, rfl, rfl, rfl, k5, k6, k7⟩)
      have hxl := HK.out.1
      clear k5 k6 k7
      unfold rwv at HT
      generalize thr (tr rs[i]) t = q2 at *
      generalize rs[i].1 = id2 at *
      generalize rs[i].2.1 = fr at *
      generalize rs[i].2.2.1 = te at *
      generalize rs[i].2.2.2.1 = kd at *
      generalize rs[i].2.2.2.2.length = np at *
      obtain ⟨g, c, rfl, hgl, hown⟩ := HV.out
      have HO := hid hown
      clear hown HV
      go_upto_region 5 with fail
      have gx := new_alloc wr wr.heap.size (.cells #[.int .i64 id2, .int .i64 fr, .int .i64 te, .int .i64 kd, .slice a' np cap'] 50) rfl
      have HI1 := hid ((show ERow w.heap.size wr _ xs from ⟨g, c, rfl, hgl, HO.out⟩).below hbx)
      have HB1 := hid (btrans HBW.out hbx)
      have HT1 := hid (HT.out _ hbx)
      clear k0 k1 k2 k3 k4 HT hbx HO hgl
      generalize wr.alloc (.cells #[.int .i64 id2, .int .i64 fr, .int .i64 te, .int .i64 kd, .slice a' np cap'] 50) = W1 at *
      generalize wr.heap.size = X at *
      obtain ⟨⟨x0, x1, x2, x3, x4⟩, _⟩ := cell5g gx
      clear gx
      go_wp2_with fail
      refine HT1.out.mono ?_
      rintro e z ⟨rfl, hz⟩
      have HBz := hid (btrans HB1.out hz)
      have HIz := hid (HI1.out.below hz)
      clear hz x0 x1 x2 x3 x4 HT1 HI1 HB1
      cases q2
      · have HK2 := hid (HNO.out rfl)
        go_wp2_with fail
        have hal : Below z.heap.size z (z.alloc (.cells #[.int .i64 id2, .int .i64 fr, .int .i64 te, .int .i64 kd, .slice a' np cap'] 50)) := balloc (Below.refl _ _) _
        have HV2 := hid (HIz.out.below hal)
        have HBa := hid (btrans HBz.out hal)
        clear hal
        go_roundw
        case rel => exact ⟨i + 1, xs, by go_num, by omega, HK2, HV2, HBa⟩
        case measure => simp [intOf]; omega
      · have HK2 := hid (HYE.out rfl)
        clear HNO HYE HK
        go_upto_region 7 with fail
        have hal : Below z.heap.size z (z.alloc (.cells #[.int .i64 id2, .int .i64 fr, .int .i64 te, .int .i64 kd, .slice a' np cap'] 50)) := balloc (Below.refl _ _) _
        have gy := new_alloc z z.heap.size (.cells #[.int .i64 id2, .int .i64 fr, .int .i64 te, .int .i64 kd, .slice a' np cap'] 50) rfl
        have HIa := hid (HIz.out.below hal)
        have HBa := hid (btrans HBz.out hal)
        clear hal HIz HBz
        generalize z.alloc (.cells #[.int .i64 id2, .int .i64 fr, .int .i64 te, .int .i64 kd, .slice a' np cap'] 50) = Z at *
        obtain ⟨⟨x0, x1, x2, x3, x4⟩, _⟩ := cell5g gy
        clear gy
        obtain ⟨g', c', e', hgl', hownZ⟩ := HIa.out
        cases e'
        have hwZ := HBa.out.size
        go_wp2_with (at_builtin; (refine wpList_append_lies _ rfl (.tmp 26) (.tmp 28) 27 rfl w.heap.size 50 i0 _ 5 56 Tryz.underlying27 hi0 hz0 hz1 hz2 rfl (by decide) (.slice (some ⟨g, 0, none⟩) xs.length c) xs.length (flat5 xs) rfl (hownZ.alloc _) ⟨Z.heap.size, 0, none⟩ 1 1 (ev (id2, fr, te, kd, a', np, cap')) rfl rfl (World.news_of_block (cs := #[.int .i64 id2, .int .i64 fr, .int .i64 te, .int .i64 kd, .slice a' np cap']) (t := 50) (fr := (0, 0)) (heap_alloc_new Z _)) (by simp [ev, Value.oneCell']) (by omega) (by unfold maxLen; omega) (by omega) (by simp; omega) (Z.heap.size + 1) (by simp) ?_; intro gg cq w2 hown2 hgrow hat hlt2))
        have hb2 : Below w.heap.size w w2 := Below.grown (balloc HBa.out _) hgrow (by simp; omega) (fun k e => (hownZ.lt k e).1)
        have hgg : gg < w2.heap.size := by
          rcases hown2.2 with ⟨q, _⟩ | ⟨g9, c9, cur9, e9, _, q9, _⟩
          · cases q
          · cases e9; exact lt_of_block q9
        have HSN2 : Hid (ERow w.heap.size w2 (.slice (some ⟨gg, 0, none⟩) (xs.length + 1) cq) (xs ++ [(id2, fr, te, kd, a', np, cap')])) := hid (by
          refine ⟨gg, cq, by simp, hgg, ?_⟩
          rw [flat5_snoc]
          simpa using hown2)
        have HB2 := hid hb2
        clear hb2 hown2 hgrow hownZ
        go_roundw
        case rel => exact ⟨i + 1, _, by go_num, by omega, HK2, HSN2, HB2⟩
        case measure => simp [intOf]; omega
    · have d1 : (n : Int) ≤ (i : Int) := by omega
      have hin : i = n := by omega
      have HF : Hid (KT0 w0 t rs n xs) := hid (by rw [← hin]; exact HK.out)
      clear hin HK
      go_wp2_with fail
      go_ret
      exact ⟨_, xs, rfl, HV.out, HF.out, HBW.out⟩
/-- The cells of what is there under an id. -/
def EL (w : World) (rs : List Rw) (t : Int) (y : El) : Prop := y.2.2.2.1 = raK (rat rs y.1 t) ∧ y.2.2.2.2.2.1 = (raP (rat rs y.1 t)).length ∧ (raP (rat rs y.1 t)).length ≤ y.2.2.2.2.2.2 ∧ (raP (rat rs y.1 t)).length ≤ 1099511627776 ∧ Pts w y.2.2.2.2.1 (raP (rat rs y.1 t)) ∧ shok (raK (rat rs y.1 t)) (raP (rat rs y.1 t)) = true
theorem Elx.el {w : World} {now : Int} {rs : List Rw} {t : Int} {y : El} (hr : rowsb now rs = true) (h : Elx w t rs y) : EL w rs t y := by
  obtain ⟨j, hj, h1, h2, h3, h4, h5, h6, h7, h8, h9⟩ := h
  have e := rat_of hr hj h1
  unfold EL
  rw [h2, e]
  exact ⟨h5, h6, h7, h8, h9, rowsb_sh hr hj⟩
/-- What thereAt tells: the cells of the rows that are there, by their ids. -/
def TA (w0 w : World) (t : Int) (rs : List Rw) (ids : List Int) (e : Ending) (w' : World) : Prop :=
  ∃ g a' cap' ys, e = .returned (.slice a' ys.length cap') ∧ ys.length ≤ cap' ∧ ys.map (fun y => y.1) = ids ∧ (0 < ys.length → a' = some ⟨g, 0, none⟩) ∧ w.heap.size ≤ g ∧ g < w'.heap.size ∧ ElsAt w' g 0 ys ∧ (∀ y ∈ ys, EL w0 rs t y) ∧ Below w.heap.size w w' ∧ (0 < ys.length → ∃ cur fr, w'.heap[g]? = some (.cells cur 50 fr))
theorem map_len_ids {xs : List El} {rs : List Rw} {t : Int} (h : xs.map (fun x => x.1) = idsT rs t) : xs.length ≤ rs.length := by
  have h1 := congrArg List.length h
  rw [List.length_map] at h1
  have := ids_len rs t
  omega
theorem sorted_kind {w : World} {g q : Nat} {d : Array El} {os : Array Obj} {cur : Array Value} {T : TypeId} {fr : Nat × Nat} (h : w.heap[g]? = some (.cells cur T fr)) : ∃ cur' fr', (sortWorldK ev 5 w g 0 q d os).heap[g]? = some (.cells cur' T fr') := by
  unfold sortWorldK putRowK
  have hl := lt_of_block h
  rw [heap_grow_old _ _ (by simpa [putRow, mapBlock, Sort.ahead] using hl)]
  refine ⟨putCells id 0 (flatK ev 5 d) cur, fr, ?_⟩
  simp only [putRow, mapBlock, Sort.ahead, Array.getElem?_modify, if_true, h, Option.map_some]
  rfl
set_option maxHeartbeats 2000000 in
theorem sort_els (B : Nat) (v : Value) (xs : List El) (w : World) (hm : xs.length ≤ 1099511627776) (h : ERow B w v xs) : Calls Tryz.prog 33 #[v, .func (.func 34) #[] #[]] w fun e w' => e = .returned (.tuple #[]) ∧ ∃ ys g cap, v = .slice (some ⟨g, 0, none⟩) xs.length cap ∧ xs.length ≤ cap ∧ B ≤ g ∧ g < w'.heap.size ∧ ElsAt w' g 0 ys ∧ ys.Perm xs ∧ ys.Pairwise lexE ∧ w.grownBy w' (some g) ∧ ∃ cur fr, w'.heap[g]? = some (.cells cur 50 fr) := by
  obtain ⟨g, cap, rfl, hgl, hown⟩ := h
  obtain ⟨cur, hcap, hB, hb, htk⟩ : ∃ cur, xs.length ≤ cap ∧ B ≤ g ∧ w.heap[g]? = some (.cells cur 50 (0, 0)) ∧ cur.toList.take (xs.length * 5) = flat5 xs := by
    rcases hown.2 with ⟨q, _⟩ | ⟨g', c', cur, e, q1, q2, q3, _, _, q4⟩
    · cases q
    · cases e
      exact ⟨cur, q3, q1, q2, q4⟩
  have hH : HoldsK ev 5 w g 0 xs.toArray := holds_of_row (cap := cap) hb htk
  have HS := sort_rows g 0 cap xs.toArray w hH hgl (by simp; omega)
  rw [show xs.toArray.size = xs.length by simp] at HS
  refine HS.mono ?_
  rintro e w2 ⟨rfl, d', q, os, hp, hs, rfl⟩
  have hds : d'.size = xs.length := by have := hp.1; simpa using this
  have hK2 := holdsK_sortWorldK ev 5 w g 0 q xs.toArray d' os hgl hH (by rw [hds]; simp)
  have hgr := grown_sortedK (w := w) (g := g) (n := q) (os := os) d'
  have hperm : d'.toList.Perm xs := by
    have h2 := hp.2.2
    have e1 : d'.extract 0 xs.length = d' := by rw [← hds]; simp
    have e2 : xs.toArray.extract 0 xs.length = xs.toArray := by
      have : xs.length = xs.toArray.size := by simp
      rw [this]; simp
    rw [e1, e2] at h2
    simpa using h2
  exact ⟨rfl, d'.toList, g, cap, rfl, hcap, hB, Nat.lt_of_lt_of_le hgl hgr.size, els_of_holds hK2, hperm, sorted_lex (by rw [hds]; exact hs), hgr, sorted_kind hb⟩
set_option maxRecDepth 100000 in
set_option maxHeartbeats 2000000 in
theorem impl_thereAt {N : Nat → Prop} (now : Int) (a : Option Addr) (cap : Nat) (rs : List Rw) (t : Int) (w0 w : World) (hm : rs.length ≤ 1099511627776) (h : Rws N w0 a rs) (hb0 : Below w0.heap.size w0 w) : Calls Tryz.prog 15 #[.agg #[.int .i64 now, .slice a rs.length cap], .int .i64 t] w fun e w' => TA w0 w t rs (idsb now rs t) e w' := by
  have HOK := hid (fun (W : World) (hb : Below w.heap.size w W) => impl_RowsOk now a cap rs W hm ((h.below hb0).below hb))
  have HKP := hid (fun (W : World) (hb : Below w.heap.size w W) (p : Nat) (c1 : W.cell? ⟨p, 0, none⟩ = some (.int .i64 t)) => kept_there a cap rs t p w0 W hm h (btrans hb0 hb) c1)
  have HEL : Hid (rowsb now rs = true → ∀ y, Elx w0 t rs y → EL w0 rs t y) := hid (fun e y hy => hy.el e)
  clear h
  have HNO : Hid (rowsb now rs = false → idsb now rs t = []) := hid (fun e => by unfold idsb; rw [if_neg (by rw [e]; simp)])
  have HYE : Hid (rowsb now rs = true → idsb now rs t = srt (idsT rs t)) := hid (fun e => by unfold idsb; rw [if_pos e])
  have HL := hid (ids_len rs t)
  have HNN := hid hm
  generalize idsb now rs t = ib at *
  generalize rowsb now rs = ob at *
  obtain ⟨n, hn⟩ : ∃ n, n = rs.length := ⟨_, rfl⟩
  have HN := hid hn.symm
  rw [← hn] at hm HOK HKP HNN HL ⊢
  clear hn
  have hmf : ∀ (fn : Fn) (first cp : Array Value) (w : World), (Instr.makeFunc fn first cp).run Tryz.prog w = .ok (.func fn first cp) w := fun _ _ _ _ => rfl
  go_enter Tryz.func15, Tryz.ntmps15
  go_upto_region 1 with fail
  have hBx : Below w.heap.size w ((w.alloc (.cells #[.int .i64 now, .slice a n cap] 29)).alloc (.cells #[.int .i64 t] 3)) := balloc (balloc (Below.refl _ _) _) _
  have g0 := old_alloc (o' := .cells #[.int .i64 t] 3) (new_alloc w w.heap.size (.cells #[.int .i64 now, .slice a n cap] 29) rfl)
  have g1 := new_alloc (w.alloc (.cells #[.int .i64 now, .slice a n cap] 29)) (w.heap.size + 1) (.cells #[.int .i64 t] 3) (by simp)
  generalize (w.alloc (.cells #[.int .i64 now, .slice a n cap] 29)).alloc (.cells #[.int .i64 t] 3) = W0 at *
  obtain ⟨d0, d1, _, _⟩ := cell2r g0
  go_wp2_with fail
  refine (HOK.out _ hBx).mono ?_
  rintro e W ⟨rfl, hz⟩
  replace g0 := keepheap2 hz g0
  replace g1 := keepheap2 hz g1
  have hB := btrans hBx hz
  clear hBx hz d0 d1 HOK
  cases ob
  · have HF := hid (HNO.out rfl)
    have HB := hid hB
    have HWL := hid (lt_of_block g0)
    clear HNO HYE HKP g0 g1 hB
    go_wp2_with fail
    go_ret
    rw [HF.out]
    exact ⟨w.heap.size, none, 0, [], rfl, Nat.le_refl _, rfl, fun h => absurd h (by simp), Nat.le_refl _, HWL.out, fun j hj => absurd hj (by simp), fun y hy => absurd hy (by simp), HB.out, fun h => absurd h (by simp)⟩
  have HF := hid (HYE.out rfl)
  have c1 : W.cell? ⟨w.heap.size + 1, 0, none⟩ = some (.int .i64 t) := by simp [World.cell?, g1]
  have KP := hid (HKP.out W hB (w.heap.size + 1) c1)
  have HB := hid hB
  clear HNO HYE HKP c1 g1 hB
  obtain ⟨d0, d1, _, _⟩ := cell2r g0
  go_wp2_with fail
  refine KP.out.mono ?_
  rintro e y ⟨v, xs, rfl, hI, hK, hy⟩
  have hxl : xs.length ≤ n := hK.1
  have hid2 : xs.map (fun x => x.1) = idsT rs t := by have := hK.2.1; rw [← HN.out, List.take_length] at this; exact this
  have HS := hid (sort_els W.heap.size v xs y (by have := HNN.out; omega) hI)
  have HBy := hid (btrans HB.out hy)
  have HXY : Hid (∀ x ∈ xs, EL w0 rs t x) := hid (fun x hx => HEL.out (by first | rfl | trivial) x (hK.2.2 x hx))
  have HWs := hid HB.out.size
  have HYs := hid HBy.out.size
  have HID2 := hid hid2
  obtain ⟨g0', c0', hv, _, _⟩ := hI
  clear hy d0 d1 KP g0 hK hid2
  subst hv
  go_wp2_with fail
  refine HS.out.mono ?_
  rintro e u ⟨rfl, ys, g, cp, ev0, hcap, hgB, hgu, hE, hP, hL, hgr, hkd⟩
  cases ev0
  have HBu : Hid (Below w.heap.size w u) := hid (Below.grown HBy.out hgr HBy.out.size (fun k e => by cases e; have := HWs.out; omega))
  have HXU : Hid (∀ x ∈ ys, EL w0 rs t x) := hid (fun x hx => HXY.out x (hP.mem_iff.1 hx))
  have HCAP := hid hcap
  have HKD := hid hkd
  have HALL := hid (show _ ∧ _ ∧ _ from ⟨hP.length_eq, hE, hgu⟩)
  have HIDS : Hid (ys.map (fun y => y.1) = ib) := hid (by
    rw [HF.out, ← HID2.out]
    exact srt_of (hP.map _) (List.pairwise_map.2 (hL.imp (fun h => by unfold lexE at h; omega))))
  clear hgr HS hE hP hL hkd
  go_wp2_with fail
  go_ret
  exact ⟨g0', some ⟨g0', 0, none⟩, c0', ys, by rw [HALL.out.1]; rfl, by rw [HALL.out.1]; exact HCAP.out, HIDS.out, fun _ => rfl, by have := HWs.out; omega, HALL.out.2.2, HALL.out.2.1, HXU.out, HBu.out, fun _ => HKD.out⟩
end Go.Proofs.YtfajjnkkablneaaGreatDoor
namespace Go.Proofs.YtfajjnkkablneaaGreatDoor
open Go.RowKit
set_option linter.unusedSimpArgs false
set_option linter.unusedVariables false
def sv (f : List (Int × Int) → Int) (k : Int) (ps : List (Int × Int)) : Int := if shok k ps = true then f ps else 0
def hasv (a b c d e f g h : Int) : Bool := bok a b c d && bok e f g h && hasbx a b c d e f g h
end Go.Proofs.YtfajjnkkablneaaGreatDoor
namespace Go.Proofs.YtfajjnkkablneaaGreatDoor
open Go.RowKit
set_option linter.unusedSimpArgs false
set_option linter.unusedVariables false
theorem foldl_min (f : Int × Int → Int) : ∀ (qs : List (Int × Int)) (m k : Int), qs.foldl (fun x p => min x (f p)) (min m k) = min m (qs.foldl (fun x p => min x (f p)) k)
  | [], m, k => rfl
  | q :: qs, m, k => by
    simp only [List.foldl_cons]
    rw [show min (min m k) (f q) = min m (min k (f q)) by omega]
    exact foldl_min f qs m _
theorem foldl_max (f : Int × Int → Int) : ∀ (qs : List (Int × Int)) (m k : Int), qs.foldl (fun x p => max x (f p)) (max m k) = max m (qs.foldl (fun x p => max x (f p)) k)
  | [], m, k => rfl
  | q :: qs, m, k => by
    simp only [List.foldl_cons]
    rw [show max (max m k) (f q) = max m (max k (f q)) by omega]
    exact foldl_max f qs m _
theorem aok_app {ps qs : List (Int × Int)} (h1 : aok ps = true) (h2 : aok qs = true) : aok (ps ++ qs) = true := by
  unfold aok allok at *
  cases ps with
  | nil => simp at h1
  | cons p ps =>
    simp only [List.isEmpty_cons, Bool.not_false, Bool.true_and, List.cons_append, List.all_cons, List.all_append, Bool.and_eq_true] at h1 h2 ⊢
    exact ⟨h1.1, h1.2, h2.2⟩
theorem box_app {ps qs : List (Int × Int)} (h1 : aok ps = true) (h2 : aok qs = true) : aX (ps ++ qs) = min (aX ps) (aX qs) ∧ aY (ps ++ qs) = min (aY ps) (aY qs) ∧ bX (ps ++ qs) = max (bX ps) (bX qs) ∧ bY' (ps ++ qs) = max (bY' ps) (bY' qs) := by
  have h3 := aok_app h1 h2
  unfold aX aY bX bY'
  rw [if_pos h1, if_pos h2, if_pos h3, if_pos h1, if_pos h2, if_pos h3, if_pos h1, if_pos h2, if_pos h3, if_pos h1, if_pos h2, if_pos h3]
  cases ps with
  | nil => simp [aok] at h1
  | cons p ps =>
    cases qs with
    | nil => simp [aok] at h2
    | cons q qs =>
      simp only [List.cons_append, List.tail_cons, List.getD_cons_zero, List.foldl_append, List.foldl_cons]
      exact ⟨foldl_min (fun p => p.1) qs _ _, foldl_min (fun p => p.2) qs _ _, foldl_max (fun p => p.1) qs _ _, foldl_max (fun p => p.2) qs _ _⟩
theorem shok_aok {k : Int} {ps : List (Int × Int)} (h : shok k ps = true) : aok ps = true ∧ 0 < ps.length ∧ ps.length ≤ 60 := by
  cases ha : allok ps
  · rw [shok_no ha] at h; cases h
  have hl : 0 < ps.length ∧ ps.length ≤ 60 := by
    unfold shok at h
    split at h
    · simp only [Bool.and_eq_true, decide_eq_true_eq] at h; omega
    split at h
    · simp only [lineb, Bool.and_eq_true, decide_eq_true_eq] at h; omega
    split at h
    · simp only [rectb, Bool.and_eq_true, decide_eq_true_eq] at h; omega
    split at h
    · simp only [ringOk, Bool.and_eq_true, decide_eq_true_eq] at h; omega
    · cases h
  refine ⟨?_, hl⟩
  unfold aok
  rw [ha, Bool.and_true]
  cases ps with
  | nil => simp at hl
  | cons p ps => rfl
/-- The points of what is there under some ids. -/
def bpts (rs : List Rw) (t : Int) (ids : List Int) : List (Int × Int) := ids.flatMap (fun id => raP (rat rs id t))
theorem bpts_next {rs : List Rw} {t : Int} {ids : List Int} {i : Nat} (hi : i < ids.length) : bpts rs t (ids.take (i + 1)) = bpts rs t (ids.take i) ++ raP (rat rs ids[i] t) := by
  unfold bpts
  rw [List.take_add_one, List.getElem?_eq_getElem hi, List.flatMap_append]
  simp only [Option.toList_some, List.flatMap_cons, List.flatMap_nil, List.append_nil]
theorem bpts_aok {rs : List Rw} {t : Int} {ids : List Int} (h : ∀ id ∈ ids, shok (raK (rat rs id t)) (raP (rat rs id t)) = true) : ∀ i, i ≤ ids.length → (bpts rs t (ids.take i)).length ≤ i * 60 ∧ aok (bpts rs t (ids.take i)) = decide (0 < i)
  | 0, _ => by simp [bpts, aok]
  | i + 1, hi => by
    obtain ⟨h1, h2⟩ := bpts_aok h i (by omega)
    have hl : i < ids.length := by omega
    obtain ⟨q1, q2, q3⟩ := shok_aok (h ids[i] (List.getElem_mem hl))
    rw [bpts_next hl]
    refine ⟨by rw [List.length_append]; omega, ?_⟩
    by_cases e : i = 0
    · subst e
      simp only [List.take_zero]
      rw [show bpts rs t [] = [] from rfl, List.nil_append, q1]
      rfl
    · rw [aok_app (by rw [h2]; simpa using (by omega : 0 < i)) q1]
      simp
def BD (ps : List (Int × Int)) (e : Ending) : Prop := e = .returned (.tuple #[.agg #[.int .i64 (aX ps), .int .i64 (aY ps), .int .i64 (bX ps), .int .i64 (bY' ps)], .bool (aok ps)])
end Go.Proofs.YtfajjnkkablneaaGreatDoor
namespace Go.Proofs.YtfajjnkkablneaaGreatDoor
open Go.RowKit Go.Shelf
set_option linter.unusedSimpArgs false
set_option linter.unusedVariables false
def nlT : ByteArray := ⟨#[10]⟩
/-- The lines of the first i ids. -/
def dmT (rs : List Rw) (t : Int) (ids : List Int) : Nat → ByteArray
  | 0 => ⟨#[]⟩
  | i + 1 => dmT rs t ids i ++ ia (ids.getD i 0) ++ spc ++ txv (raK (rat rs (ids.getD i 0) t)) (raP (rat rs (ids.getD i 0) t)) ++ nlT
theorem idsb_id {now : Int} {rs : List Rw} {t id : Int} (h : id ∈ idsb now rs t) : 1 ≤ id ∧ id ≤ 999999999 := by
  unfold idsb at h
  split at h
  · rename_i hr
    have h2 : id ∈ idsT rs t := (List.mergeSort_perm (idsT rs t) _).mem_iff.1 h
    unfold idsT at h2
    obtain ⟨r, h3, rfl⟩ := List.mem_map.1 h2
    have h4 := (List.mem_filter.1 h3).1
    unfold rowsb at hr
    simp only [Bool.and_eq_true, List.all_eq_true] at hr
    have h5 := hr.2.1 r h4
    unfold rowb rwb idb at h5
    simp only [Bool.and_eq_true, decide_eq_true_eq] at h5
    omega
  · simp at h
theorem ia_sizeA {n : Int} (h0 : -9223372036854775808 ≤ n) (h1 : n ≤ 9223372036854775807) : (ia n).size ≤ 21 := by
  have := Lib.itoa_length_le n h0 h1
  simpa [ia, ByteArray.size] using this
theorem txv_size (k : Int) (ps : List (Int × Int)) : (txv k ps).size ≤ 2645 := by
  unfold txv
  split
  · rename_i h
    obtain ⟨m, rfl, _, h6, ha⟩ := kind_nat h
    have := stx_size (k := (m : Int).toNat) (fun i hi => in_at ha i hi) ps.length (Nat.le_refl _)
    omega
  · decide
theorem dmT_size {rs : List Rw} {t : Int} {ids : List Int} (h : ∀ id ∈ ids, 1 ≤ id ∧ id ≤ 999999999) : ∀ i, i ≤ ids.length → (dmT rs t ids i).size ≤ i * 2668
  | 0, _ => by show (ByteArray.mk #[]).size ≤ 0 * 2668; decide
  | i + 1, hi => by
    have ih := dmT_size (rs := rs) (t := t) h i (by omega)
    have hl : i < ids.length := by omega
    have hg : ids.getD i 0 ∈ ids := by
      rw [List.getD_eq_getElem?_getD, List.getElem?_eq_getElem hl]
      exact List.getElem_mem hl
    have a := ia_sizeA (n := ids.getD i 0) (by have := h _ hg; omega) (by have := h _ hg; omega)
    have b := txv_size (raK (rat rs (ids.getD i 0) t)) (raP (rat rs (ids.getD i 0) t))
    have c : spc.size = 1 := rfl
    have d : nlT.size = 1 := rfl
    simp only [dmT, ByteArray.size_append]
    omega
/-- The library's Itoa answers at every int. -/
def ItoaA (w : World) : Prop := ∀ w', Below w.heap.size w w' → ∀ n : Int, -9223372036854775808 ≤ n → n ≤ 9223372036854775807 → Calls Tryz.prog 36 #[.int .i64 n] w' fun e w'' => e = .returned (.string (ia n)) ∧ Below w'.heap.size w' w''
theorem ItoaA.below {w w' : World} (h : ItoaA w) (hb : Below w.heap.size w w') : ItoaA w' := fun w'' h'' => h w'' (btrans hb h'')
theorem ItoaA.ok {w : World} (h : ItoaA w) : ItoaOk w := fun w' hb n hn => h w' hb n (by unfold In at hn; omega) (by unfold In at hn; omega)
theorem impl_decA (n : Int) (h0 : -9223372036854775808 ≤ n) (h1 : n ≤ 9223372036854775807) (w : World) (h : ItoaA w) : Calls Tryz.prog 17 #[.int .i64 n] w fun e w' => e = .returned (.string (ia n)) ∧ Below w.heap.size w w' := by
  have HI := hid (h w (Below.refl _ _) n h0 h1)
  clear h
  generalize ia n = s at *
  go_enter Tryz.func17, Tryz.ntmps17
  go_wp2_with fail
  refine HI.out.mono ?_
  rintro e w' ⟨rfl, hb⟩
  go_wp2_with fail
  go_ret
  exact ⟨rfl, hb⟩
theorem laysW : Go.Proofs.Lays.n166 Tryz.prog Tryz.lays156_ren := { Tryz.lays156 with }
theorem laysS : Go.Proofs.Lays.n169 Tryz.prog Tryz.lays156_ren := { Tryz.lays156 with }
/-- A builder that holds some bytes. -/
abbrev Bu (B b : Nat) (l : List UInt8) (w : World) : Prop := Lib.IsBuilderF 47 5 B b (Lib.byteCells l) w
theorem write_s (B b : Nat) (l : List UInt8) (s : ByteArray) (w : World) (h : Bu B b l w) (hlen : l.length + s.size ≤ 140737488355328) (hBw : B ≤ w.heap.size) : Calls Tryz.prog 16 #[.pointer (some ⟨b, 0, none⟩), .string s] w fun e w' => e = .returned (.tuple #[.int .i64 s.size, .nilIface]) ∧ Bu B b (l ++ s.data.toList) w' ∧ Below B w w' ∧ Lib.OthersKept 5 (some b) w w' := by
  have hc := Any.Builder_WriteString_k laysW Tryz.Builder_Extra_156 B b (Lib.byteCells l) s w h (by rw [Lib.byteCells_length]; exact hlen) hBw
  refine hc.mono ?_
  rintro e w' ⟨h1, h2, h3, h4⟩
  refine ⟨h1, .inr ?_, h3, h4⟩
  have e1 : Lib.byteCells (l ++ s.data.toList) = Lib.byteCells l ++ Lib.strCells s := by simp [Lib.byteCells, Lib.strCells]
  rw [e1]
  exact h2
theorem string_s (B b : Nat) (l : List UInt8) (w : World) (h : Bu B b l w) (hBw : B ≤ w.heap.size) : Calls Tryz.prog 19 #[.pointer (some ⟨b, 0, none⟩)] w fun e w' => e = .returned (.string ⟨l.toArray⟩) ∧ Below B w w' := by
  have hc := Any.Builder_String_any_k laysS Tryz.Builder_Extra_156 B b l w h hBw
  refine hc.mono ?_
  rintro e w' ⟨h1, _, h3, _⟩
  exact ⟨h1, h3⟩
theorem Bu.below {B b : Nat} {l : List UInt8} {w w' : World} (h : Bu B b l w) (H : Below w.heap.size w w') : Bu B b l w' := by
  have one : ∀ p, Lib.BuilderAtF 47 5 B b p (Lib.byteCells l) w → Lib.BuilderAtF 47 5 B b p (Lib.byteCells l) w' := by
    intro p hp
    obtain ⟨h1, v, h2, h3, h4⟩ := hp
    refine ⟨h1, v, keepheap2 H h2, ⟨h3.1, ?_⟩, h4⟩
    rcases h3.2 with q | ⟨g, cap, cur, fz, q1, q2, q3, q4⟩
    · exact .inl q
    · exact .inr ⟨g, cap, cur, fz, q1, q2, keepheap2 H q3, q4⟩
  rcases h with h | h
  · exact .inl (one _ h)
  · exact .inr (one _ h)
theorem Bu.lt {B b : Nat} {l : List UInt8} {w : World} (h : Bu B b l w) : b < w.heap.size := by
  rcases h with h | h
  · exact h.lt
  · exact h.lt
/-- Where the walk of Dump stands. -/
def DW (w : World) (g : Nat) (ys : List El) (l : List UInt8) (wr : World) : Prop :=
  Bu w.heap.size (w.heap.size + 1) l wr ∧ (∃ cur fr, wr.heap[g]? = some (.cells cur 50 fr)) ∧ ElsAt wr g 0 ys ∧ Below w.heap.size w wr
theorem ElsAt.blkD {w w' : World} {b off : Nat} {xs : List El} (h : ElsAt w b off xs) (e : w'.heap[b]? = w.heap[b]?) : ElsAt w' b off xs := fun j hj => by
  have hc : ∀ k, w'.cell? ⟨b, k, none⟩ = w.cell? ⟨b, k, none⟩ := fun k => by simp only [World.cell?, e]
  rw [hc, hc, hc, hc, hc]
  exact h j hj
theorem DW.below {w : World} {g : Nat} {ys : List El} {l : List UInt8} {wr w' : World} (h : DW w g ys l wr) (H : Below wr.heap.size wr w') : DW w g ys l w' := by
  obtain ⟨h1, ⟨cur, fr, h2⟩, h3, h4⟩ := h
  exact ⟨h1.below H, ⟨cur, fr, keepheap2 H h2⟩, h3.blkD (H.block g (lt_of_block h2)), btrans h4 H⟩
theorem DW.write {w : World} {g : Nat} {ys : List El} {l l' : List UInt8} {wr w' : World} (h : DW w g ys l wr) (hg : g ≠ w.heap.size + 1) (h1 : Bu w.heap.size (w.heap.size + 1) l' w') (h2 : Below w.heap.size wr w') (h3 : Lib.OthersKept 5 (some (w.heap.size + 1)) wr w') : DW w g ys l' w' := by
  obtain ⟨_, ⟨cur, fr, k2⟩, k3, k4⟩ := h
  have e := h3 g _ k2 (by simp; exact hg) (fun c fz q => by injection q with _ q2; exact absurd q2 (by decide))
  exact ⟨h1, ⟨cur, fr, e⟩, k3.blkD (by rw [e, k2]), k4.trans h2⟩
theorem row_kept {w : World} {b k : Nat} {wr w' : World} {cs : Array Value} {fr : Nat × Nat} (h3 : Lib.OthersKept 5 (some b) wr w') (hk : wr.heap[k]? = some (.cells cs 50 fr)) (hne : k ≠ b) : w'.heap[k]? = some (.cells cs 50 fr) :=
  h3 k _ hk (by simp; exact hne) (fun c fz q => by injection q with _ q2; exact absurd q2 (by decide))
theorem dmT_next (rs : List Rw) (t : Int) (ids : List Int) (i : Nat) : (dmT rs t ids (i + 1)).data.toList = (dmT rs t ids i).data.toList ++ (ia (ids.getD i 0)).data.toList ++ spc.data.toList ++ (txv (raK (rat rs (ids.getD i 0) t)) (raP (rat rs (ids.getD i 0) t))).data.toList ++ nlT.data.toList := by
  simp only [dmT, ba_list]
set_option maxRecDepth 100000 in
set_option maxHeartbeats 4000000 in
theorem impl_Dump {N : Nat → Prop} (now : Int) (a : Option Addr) (cap : Nat) (rs : List Rw) (t : Int) (w : World) (hm : rs.length ≤ 1099511627776) (h : Rws N w a rs) (hit : ItoaA w) (hkw : KW w) : Calls Tryz.prog 7 #[.agg #[.int .i64 now, .slice a rs.length cap], .int .i64 t] w fun e w' => e = .returned (.string (dmT rs t (idsb now rs t) (idsb now rs t).length)) ∧ Below w.heap.size w w' := by
  have HTA := hid (fun (W : World) (hb : Below w.heap.size w W) => impl_thereAt now a cap rs t w W hm h hb)
  have HIL := hid (idsb_len now rs t)
  have HID := hid (fun (id : Int) (h : id ∈ idsb now rs t) => idsb_id h)
  have HIT := hid hit
  have HKW := hid hkw
  clear h hit hkw
  generalize idsb now rs t = ids at *
  generalize rs.length = n0 at *
  obtain ⟨res, hres⟩ : ∃ res, res = dmT rs t ids ids.length := ⟨_, rfl⟩
  rw [← hres]
  have HRES := hid hres
  clear hres
  go_enter Tryz.func7, Tryz.ntmps7
  go_upto_region 2 with fail
  have hBx : Below w.heap.size w ((w.alloc (.cells #[.int .i64 now, .slice a n0 cap] 29)).alloc (.cells #[.pointer none, .slice none 0 0] 47)) := balloc (balloc (Below.refl _ _) _) _
  have g0 := old_alloc (o' := .cells #[.pointer none, .slice none 0 0] 47) (new_alloc w w.heap.size (.cells #[.int .i64 now, .slice a n0 cap] 29) rfl)
  have g1 := new_alloc (w.alloc (.cells #[.int .i64 now, .slice a n0 cap] 29)) (w.heap.size + 1) (.cells #[.pointer none, .slice none 0 0] 47) (by simp)
  have hs0 : ((w.alloc (.cells #[.int .i64 now, .slice a n0 cap] 29)).alloc (.cells #[.pointer none, .slice none 0 0] 47)).heap.size = w.heap.size + 2 := by simp
  generalize (w.alloc (.cells #[.int .i64 now, .slice a n0 cap] 29)).alloc (.cells #[.pointer none, .slice none 0 0] 47) = W0 at *
  have HB0 : Hid (Bu w.heap.size (w.heap.size + 1) [] W0) := hid (.inl ⟨by omega, .slice none 0 0, g1, ⟨by simp [Lib.byteCells], .inl ⟨rfl, rfl⟩⟩, by simp [Value.ownBlock]⟩)
  obtain ⟨d0, d1, _, _⟩ := cell2r g0
  clear g0 g1
  go_wp2_with fail
  refine (HTA.out _ hBx).mono ?_
  rintro e W ⟨g, a', cap', ys, rfl, hcap, hids, ha', hgW, hgs, hE, hEL, hBW, hkd⟩
  have HBW := hid (HB0.out.below hBW)
  have HB1 := hid (btrans hBx hBW)
  have HKD := hid hkd
  have HE := hid hE
  have HEL := hid hEL
  have HIDS := hid hids
  have HA := hid ha'
  have hg1 : g ≠ w.heap.size + 1 := by omega
  clear hids ha' hE hEL hBW d0 d1 hBx HTA HB0 hkd hs0
  obtain ⟨n, hn⟩ : ∃ n, n = ys.length := ⟨_, rfl⟩
  have HN := hid hn.symm
  rw [← hn] at HA hcap HKD ⊢
  clear hn
  have hlen : n = ids.length := by have := congrArg List.length HIDS.out; rw [List.length_map, HN.out] at this; exact this
  have hnm : n ≤ 300 := by rw [hlen]; exact HIL.out
  have HLEN := hid hlen
  clear hlen
  have HDS := hid (fun i (hi : i ≤ ids.length) => dmT_size (rs := rs) (t := t) HID.out i hi)
  go_wp2_with fail
  go_loopw [12] (fun ti wr => ∃ i : Nat, ti = .int .i64 i ∧ i ≤ n ∧ Hid (Bu w.heap.size (w.heap.size + 1) (dmT rs t ids i).data.toList wr) ∧ Hid (0 < n → ∃ cur fr, wr.heap[g]? = some (.cells cur 50 fr)) ∧ Hid (0 < n → ElsAt wr g 0 ys) ∧ Hid (Below w.heap.size w wr)) (fun ti _ => n - (intOf ti).toNat)
  case atStart => exact ⟨0, rfl, Nat.zero_le _, HBW, HKD, hid (fun _ => HE.out), HB1⟩
  case round =>
    clear HBW HKD HE HB1
    obtain ⟨i, rfl, hi, HBU, HKD, HE, HB⟩ := hrel
    by_cases hlt : i < n
    · have c1 : (i : Int) < (n : Int) := by omega
      have hiy : i < ys.length := by rw [HN.out]; exact hlt
      have hii : i < ids.length := by rw [← HLEN.out]; exact hlt
      have ea := HA.out (by omega)
      subst ea
      have HD : Hid (DW w g ys (dmT rs t ids i).data.toList wr) := hid ⟨HBU.out, HKD.out (by omega), HE.out (by omega), HB.out⟩
      obtain ⟨y0, y1, y2, y3, y4⟩ := HD.out.2.2.1 i hiy
      obtain ⟨e1, e2, e3, e4, e5, e6⟩ := HEL.out ys[i] (List.getElem_mem hiy)
      have eid : ys[i].1 = ids.getD i 0 := by have := HIDS.out; subst this; simp [hiy]
      have hidm : ids.getD i 0 ∈ ids := by
        rw [List.getD_eq_getElem?_getD, List.getElem?_eq_getElem hii]
        exact List.getElem_mem hii
      have hid1 := HID.out _ hidm
      rw [eid] at e1 e2 e3 e4 e5 e6 y0
      simp only [Nat.zero_add] at y0 y1 y2 y3 y4
      rw [e2] at y4
      rw [e1] at y3
      have HNX := hid (dmT_next rs t ids i)
      have hds : (dmT rs t ids i).data.toList.length ≤ i * 2668 := Nat.le_trans (Nat.le_of_eq Array.length_toList) (HDS.out i (by omega))
      have HTX := hid (fun (W : World) (hb : Below w.heap.size w W) => impl_ShapeText (raK (rat rs (ids.getD i 0) t)) ys[i].2.2.2.2.1 ys[i].2.2.2.2.2.2 (raP (rat rs (ids.getD i 0) t)) W e4 e3 (e5.below hb) (HIT.out.below hb).ok (HKW.out.below hb))
      have HDC := hid (fun (W : World) (hb : Below w.heap.size w W) => impl_decA (ids.getD i 0) (by omega) (by omega) W (HIT.out.below hb))
      have hia := ia_sizeA (n := ids.getD i 0) (by omega) (by omega)
      have htx := txv_size (raK (rat rs (ids.getD i 0) t)) (raP (rat rs (ids.getD i 0) t))
      unfold shv at HTX
      clear e1 e2 e3 e4 e5 e6 eid hidm hid1 HBU HKD HE HB
      generalize txv (raK (rat rs (ids.getD i 0) t)) (raP (rat rs (ids.getD i 0) t)) = tx at *
      generalize (raP (rat rs (ids.getD i 0) t)).length = np at *
      generalize raK (rat rs (ids.getD i 0) t) = kd at *
      generalize ia (ids.getD i 0) = ix at *
      generalize ids.getD i 0 = id1 at *
      generalize ys[i].2.1 = fr at *
      generalize ys[i].2.2.1 = te at *
      generalize ys[i].2.2.2.2.1 = a1 at *
      generalize ys[i].2.2.2.2.2.2 = cp at *
      generalize (dmT rs t ids i).data.toList = l0 at *
      go_upto_region 5 with fail
      have hal : Below wr.heap.size wr (wr.alloc (.cells #[.int .i64 id1, .int .i64 fr, .int .i64 te, .int .i64 kd, .slice a1 np cp] 50)) := balloc (Below.refl _ _) _
      have gx := new_alloc wr wr.heap.size (.cells #[.int .i64 id1, .int .i64 fr, .int .i64 te, .int .i64 kd, .slice a1 np cp] 50) rfl
      have hxb : wr.heap.size ≠ w.heap.size + 1 := by have := HD.out.1.lt; omega
      replace HD := hid (HD.out.below hal)
      clear hal y0 y1 y2 y3 y4
      generalize wr.alloc (.cells #[.int .i64 id1, .int .i64 fr, .int .i64 te, .int .i64 kd, .slice a1 np cp] 50) = Z at *
      generalize wr.heap.size = xb at *
      obtain ⟨⟨x0, x1, x2, x3, x4⟩, _⟩ := cell5g gx
      go_wp2_with fail
      refine (HDC.out _ HD.out.2.2.2).mono ?_
      rintro e z1 ⟨rfl, hz⟩
      replace HD := hid (HD.out.below hz)
      replace gx := keepheap2 hz gx
      clear hz x0 x1 x2 x3 x4
      have hBs := HD.out.2.2.2.size
      go_wp2_with fail
      refine (write_s w.heap.size (w.heap.size + 1) l0 ix _ HD.out.1 (by omega) hBs).mono ?_
      rintro e z2 ⟨rfl, hb2, hw2, ho2⟩
      replace HD := hid (HD.out.write hg1 hb2 hw2 ho2)
      replace gx := row_kept (w := w) ho2 gx hxb
      clear hb2 hw2 ho2 hBs
      have hBs := HD.out.2.2.2.size
      go_wp2_with fail
      refine (write_s w.heap.size (w.heap.size + 1) _ spc _ HD.out.1 (by simp; have : spc.size = 1 := rfl; have : spc.data.size = 1 := rfl; have : nlT.size = 1 := rfl; have : nlT.data.size = 1 := rfl; have : ix.data.size = ix.size := rfl; have : tx.data.size = tx.size := rfl; omega) hBs).mono ?_
      rintro e z3 ⟨rfl, hb2, hw2, ho2⟩
      replace HD := hid (HD.out.write hg1 hb2 hw2 ho2)
      replace gx := row_kept (w := w) ho2 gx hxb
      clear hb2 hw2 ho2 hBs
      obtain ⟨⟨x0, x1, x2, x3, x4⟩, _⟩ := cell5g gx
      go_wp2_with fail
      refine (HTX.out _ HD.out.2.2.2).mono ?_
      rintro e z4 ⟨rfl, hz⟩
      replace HD := hid (HD.out.below hz)
      clear hz x0 x1 x2 x3 x4 gx
      have hBs := HD.out.2.2.2.size
      go_wp2_with fail
      refine (write_s w.heap.size (w.heap.size + 1) _ tx _ HD.out.1 (by simp; have : spc.size = 1 := rfl; have : spc.data.size = 1 := rfl; have : nlT.size = 1 := rfl; have : nlT.data.size = 1 := rfl; have : ix.data.size = ix.size := rfl; have : tx.data.size = tx.size := rfl; omega) hBs).mono ?_
      rintro e z5 ⟨rfl, hb2, hw2, ho2⟩
      replace HD := hid (HD.out.write hg1 hb2 hw2 ho2)
      clear hb2 hw2 ho2 hBs
      have hBs := HD.out.2.2.2.size
      go_wp2_with fail
      refine (write_s w.heap.size (w.heap.size + 1) _ nlT _ HD.out.1 (by simp; have : spc.size = 1 := rfl; have : spc.data.size = 1 := rfl; have : nlT.size = 1 := rfl; have : nlT.data.size = 1 := rfl; have : ix.data.size = ix.size := rfl; have : tx.data.size = tx.size := rfl; omega) hBs).mono ?_
      rintro e z6 ⟨rfl, hb2, hw2, ho2⟩
      replace HD := hid (HD.out.write hg1 hb2 hw2 ho2)
      clear hb2 hw2 ho2 hBs
      rw [← HNX.out] at HD
      go_wp2_with fail
      go_roundw
      case rel => exact ⟨i + 1, by go_num, by omega, hid HD.out.1, hid (fun _ => HD.out.2.1), hid (fun _ => HD.out.2.2.1), hid HD.out.2.2.2⟩
      case measure => simp [intOf]; omega
    · have c1 : (n : Int) ≤ (i : Int) := by omega
      have hin : i = ids.length := by have := HLEN.out; omega
      have HF : Hid ((⟨(dmT rs t ids i).data.toList.toArray⟩ : ByteArray) = res) := hid (by rw [HRES.out, hin])
      clear hin
      have hBs := HB.out.size
      go_wp2_with fail
      refine (string_s w.heap.size (w.heap.size + 1) _ _ HBU.out hBs).mono ?_
      rintro e z ⟨rfl, hz⟩
      rw [HF.out]
      go_wp2_with fail
      go_ret
      exact ⟨rfl, HB.out.trans hz⟩
end Go.Proofs.YtfajjnkkablneaaGreatDoor
