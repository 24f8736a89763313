/- Texts of stores, joined: Ba, ShBox, Bb0, Dec. -/
import Derived.Test.YtenlhgnobfadgaaGreatDoorJ16
import Derived.Test.YtenlhgnobfadgaaGreatDoorJ14
import Derived.WalkKit
import Derived.WalkSpells
import Derived.Handy
import Derived.Lib.ItoaMem
set_option maxRecDepth 100000
set_option maxHeartbeats 2000000
set_option linter.unusedSimpArgs false
set_option linter.unusedVariables false
namespace Go.Proofs.YtenlhgnobfadgaaGreatDoor
open Go.RowKit Go.Shelf Go.Lib Go.Sort
theorem make_rowsB (n : Nat) (hn : n ≤ 1099511627776) (w : World) : (Instr.makeSlice 30 (.int .i64 0) (.int .i64 n)).run Tryz.prog w = .ok (.slice (some ⟨w.heap.size, 0, none⟩) 0 n) (w.alloc (.cells (madeCells #[.int .i64 0, .int .i64 0, .int .i64 0, .int .i64 0, .slice none 0 0] (n * 5)) 65)) := by
 obtain ⟨i0, hi, hz0, hz1, hz2⟩ := info_parts Tryz.infoRow
 have := run_make (P := Tryz.prog) w 30 65 i0 _ Tryz.underlying30 hi hz0 .i64 .i64 0 n (by omega) (by omega) (by rw [hz2]; omega) (by omega)
 rw [hz1] at this
 exact this
def Elx (w : World) (t : Int) (rs : List Rw) (x : El) : Prop := ∃ j, ∃ h : j < rs.length, thr (tr rs[j]) t = true ∧ x.1 = rs[j].1 ∧ x.2.1 = rs[j].2.1 ∧ x.2.2.1 = rs[j].2.2.1 ∧ x.2.2.2.1 = rs[j].2.2.2.1 ∧ x.2.2.2.2.2.1 = rs[j].2.2.2.2.length ∧ rs[j].2.2.2.2.length ≤ x.2.2.2.2.2.2 ∧ rs[j].2.2.2.2.length ≤ 1099511627776 ∧ Pts w x.2.2.2.2.1 rs[j].2.2.2.2
def ERow (B : Nat) (w : World) (v : Value) (xs : List El) : Prop := ∃ g cap, v = .slice (some ⟨g, 0, none⟩) xs.length cap ∧ g < w.heap.size ∧ w.ownsRow B 65 5 (.slice (some ⟨g, 0, none⟩) xs.length cap) xs.length (flat5 xs)
theorem ERow.below {B : Nat} {w w' : World} {v : Value} {xs : List El} (h : ERow B w v xs) (H : Below w.heap.size w w') : ERow B w' v xs := by
 obtain ⟨g, cap, rfl, h1, h3⟩ := h
 refine ⟨g, cap, rfl, Nat.lt_of_lt_of_le h1 H.size, h3.1, ?_⟩
 rcases h3.2 with ⟨q, _⟩ | ⟨g', c', cur, e, q1, q2, q3⟩
 ·cases q
 ·cases e
  exact .inr ⟨g, cap, cur, rfl, q1, by rw [H.block g h1]; exact q2, q3⟩
theorem there_1 (r : Rw) (a' : Option Addr) (cap' : Nat) (t : Int) (p : Nat) (w : World) (c1 : w.cell? ⟨p, 0, none⟩ = some (.int .i64 t)) : Calls Tryz.prog 63 #[rwv r a' cap', .pointer (some ⟨p, 0, none⟩)] w fun e w' => e = .returned (.tuple #[rwv r a' cap', .bool (thr (tr r) t)]) ∧ Below w.heap.size w w' := by
 have TH := hid (fun w' => impl_there r a' cap' t w')
 generalize thr (tr r) t = q2 at *
 obtain ⟨id2, fr, te, kd, ps⟩ := r
 unfold rwv at *
 simp only at *
 generalize ps.length = np at *
 have hB : Below w.heap.size w ((w.alloc (.cells #[.int .i64 id2, .int .i64 fr, .int .i64 te, .int .i64 kd, .slice a' np cap'] 65)).alloc (.cells #[.int .i64 0, .int .i64 0, .int .i64 0, .int .i64 0, .slice none 0 0] 65)) := balloc (balloc (Below.refl _ _) _) _
 have g0 := old_alloc (o' := .cells #[.int .i64 0, .int .i64 0, .int .i64 0, .int .i64 0, .slice none 0 0] 65) (new_alloc w w.heap.size (.cells #[.int .i64 id2, .int .i64 fr, .int .i64 te, .int .i64 kd, .slice a' np cap'] 65) rfl)
 have g1 := new_alloc (w.alloc (.cells #[.int .i64 id2, .int .i64 fr, .int .i64 te, .int .i64 kd, .slice a' np cap'] 65)) (w.heap.size + 1) (.cells #[.int .i64 0, .int .i64 0, .int .i64 0, .int .i64 0, .slice none 0 0] 65) (by simp)
 have hpn : p < w.heap.size := World.block_lt_of_cell? w _ c1
 replace c1 := keepalloc (keepalloc c1 (.cells #[.int .i64 id2, .int .i64 fr, .int .i64 te, .int .i64 kd, .slice a' np cap'] 65)) (.cells #[.int .i64 0, .int .i64 0, .int .i64 0, .int .i64 0, .slice none 0 0] 65)
 go_enter Tryz.func63, Tryz.ntmps63
 go_upto_region 1 with fail
 generalize (w.alloc (.cells #[.int .i64 id2, .int .i64 fr, .int .i64 te, .int .i64 kd, .slice a' np cap'] 65)).alloc (.cells #[.int .i64 0, .int .i64 0, .int .i64 0, .int .i64 0, .slice none 0 0] 65) = W at *
 obtain ⟨⟨x0, x1, x2, x3, x4⟩, _⟩ := cell5g g0
 have hWs := lt_of_block g1
 have HG1 := hid g1
 have HB := hid hB
 have hdr : W.drew.heap.size = W.heap.size := rfl
 clear g0 g1 hB
 go_region_held3 (fun w' => w'.cell? ⟨w.heap.size, 0, none⟩ = some (.int .i64 id2) ∧ w'.cell? ⟨w.heap.size, 1, none⟩ = some (.int .i64 fr) ∧ w'.cell? ⟨w.heap.size, 2, none⟩ = some (.int .i64 te) ∧ w'.cell? ⟨w.heap.size, 3, none⟩ = some (.int .i64 kd) ∧ w'.cell? ⟨w.heap.size, 4, none⟩ = some (.slice a' np cap') ∧ w'.cell? ⟨p, 0, none⟩ = some (.int .i64 t)) ((go_split_ands; (repeat' apply And.intro) <;> (with_reducible repeat (first | assumption | refine keepset3 ?_ (by dsimp only; omega) | refine keepdrew ?_ | refine keepcell (by assumption) ?_ | refine keepalloc ?_ _))))
  (first
   | (go_at_call 48; refine (TH.out _).mono ?_; rintro e y2 ⟨rfl, hy2⟩; replace HB := hid (btrans (bdrew HB.out) hy2); have g1 := keepheap2 hy2 (show W.drew.heap[w.heap.size + 1]? = _ from HG1.out); obtain ⟨⟨v0, v1, v2, v3, v4⟩, u0, u1, u2, u3, u4⟩ := cell5g g1))
 go_wp2_with fail
 have gF := set5 g1 (.int .i64 id2) (.int .i64 fr) (.int .i64 te) (.int .i64 kd) (.slice a' np cap')
 have bF := bset (bset (bset (bset (bset HB.out (q := w.heap.size + 1) (k := 0) (by omega) (.int .i64 id2)) (q := w.heap.size + 1) (k := 1) (by omega) (.int .i64 fr)) (q := w.heap.size + 1) (k := 2) (by omega) (.int .i64 te)) (q := w.heap.size + 1) (k := 3) (by omega) (.int .i64 kd)) (q := w.heap.size + 1) (k := 4) (by omega) (.slice a' np cap')
 generalize (((((y2.setCell ⟨w.heap.size + 1, 0, none⟩ (.int .i64 id2)).setCell ⟨w.heap.size + 1, 1, none⟩ (.int .i64 fr)).setCell ⟨w.heap.size + 1, 2, none⟩ (.int .i64 te)).setCell ⟨w.heap.size + 1, 3, none⟩ (.int .i64 kd)).setCell ⟨w.heap.size + 1, 4, none⟩ (.slice a' np cap')) = wf at *
 obtain ⟨⟨z0, z1, z2, z3, z4⟩, _⟩ := cell5g gF
 exact bodyPost_ret (v := .tuple #[.agg #[.int .i64 id2, .int .i64 fr, .int .i64 te, .int .i64 kd, .slice a' np cap'], .bool q2]) (by simp [results, Tryz.results63, go_sem, z0, z1, z2, z3, z4]) rfl ⟨rfl, bF⟩
def KT0 (w : World) (t : Int) (rs : List Rw) (i : Nat) (xs : List El) : Prop := xs.length ≤ i ∧ xs.map (fun x => x.1) = idsT (rs.take i) t ∧ ∀ x ∈ xs, Elx w t rs x
theorem kept_there {N : Nat → Prop} (a : Option Addr) (cap : Nat) (rs : List Rw) (t : Int) (p : Nat) (w0 w : World) (hm : rs.length ≤ 1099511627776) (h : Rws N w0 a rs) (hb0 : Below w0.heap.size w0 w) (c1 : w.cell? ⟨p, 0, none⟩ = some (.int .i64 t)) : Calls Tryz.prog 62 #[.slice a rs.length cap, .func (.func 63) #[] #[.pointer (some ⟨p, 0, none⟩)]] w fun e w' => ∃ v xs, e = .returned v ∧ ERow w.heap.size w' v xs ∧ KT0 w0 t rs rs.length xs ∧ Below w.heap.size w w' := by
 obtain ⟨i0, hi0, hz0, hz1, hz2⟩ := info_parts Tryz.infoRow
 have HR := hid h
 have HB00 := hid hb0
 have HC := hid c1
 clear h c1 hb0
 have hmk := make_rowsB rs.length hm
 obtain ⟨n, hn⟩ : ∃ n, n = rs.length := ⟨_, rfl⟩
 have HN := hid hn.symm
 rw [← hn] at hm hmk ⊢
 clear hn
 have hB0 : Below w.heap.size w (w.alloc (.cells (madeCells #[.int .i64 0, .int .i64 0, .int .i64 0, .int .i64 0, .slice none 0 0] (n * 5)) 65)) := balloc (Below.refl _ _) _
 have HI : Hid (ERow w.heap.size (w.alloc (.cells (madeCells #[.int .i64 0, .int .i64 0, .int .i64 0, .int .i64 0, .slice none 0 0] (n * 5)) 65)) (.slice (some ⟨w.heap.size, 0, none⟩) 0 n) []) := hid (by
  have := World.ownsRow_made (base := w.heap.size) (e := 65) (size := 5) w (madeCells #[.int .i64 0, .int .i64 0, .int .i64 0, .int .i64 0, .slice none 0 0] (n * 5)) n (Nat.le_refl _) (by unfold maxLen; omega) (size_madeCells _ _)
  exact ⟨w.heap.size, n, rfl, by simp, by simpa [flat5] using this⟩)
 go_enter Tryz.func62, Tryz.ntmps62
 go_upto_region 2 with fail
 generalize w.alloc (.cells (madeCells #[.int .i64 0, .int .i64 0, .int .i64 0, .int .i64 0, .slice none 0 0] (n * 5)) 65) = W0 at *
 clear hmk
 go_wp2_with fail
 go_loopw [5, 15] (fun tv ti wr => ∃ i : Nat, ∃ xs : List El, ti = .int .i64 i ∧ i ≤ n ∧ Hid (KT0 w0 t rs i xs) ∧ Hid (ERow w.heap.size wr tv xs) ∧ Hid (Below w.heap.size w wr)) (fun _ ti _ => n - (intOf ti).toNat)
 case atStart => exact ⟨0, [], rfl, Nat.zero_le _, hid ⟨Nat.le_refl _, by simp [idsT], fun x hx => absurd hx (by simp)⟩, HI, hid hB0⟩
 case round =>
  clear HI hB0
  obtain ⟨i, xs, rfl, hi, HK, HV, HBW⟩ := hrel
  have hwX := HBW.out.size
  by_cases hlt : i < n
  ·have d1 : (i : Int) < (n : Int) := by omega
   have hir : i < rs.length := by rw [HN.out]; exact hlt
   obtain ⟨b, o, rfl, hbs, a', cap', k0, k1, k2, k3, k4, k5, k6, k7, _⟩ := HR.out.at i hir
   replace k0 := keepcell (btrans HB00.out HBW.out) k0
   replace k1 := keepcell (btrans HB00.out HBW.out) k1
   replace k2 := keepcell (btrans HB00.out HBW.out) k2
   replace k3 := keepcell (btrans HB00.out HBW.out) k3
   replace k4 := keepcell (btrans HB00.out HBW.out) k4
   have hbx : Below wr.heap.size wr (wr.alloc (.cells #[.int .i64 rs[i].1, .int .i64 rs[i].2.1, .int .i64 rs[i].2.2.1, .int .i64 rs[i].2.2.2.1, .slice a' rs[i].2.2.2.2.length cap'] 65)) := balloc (Below.refl _ _) _
   have HT := hid (fun (W : World) (hb : Below wr.heap.size wr W) => there_1 rs[i] a' cap' t p W (keepcell (btrans HBW.out hb) HC.out))
   have HNO : Hid (thr (tr rs[i]) t = false → KT0 w0 t rs (i + 1) xs) := hid (fun e => ⟨by have := HK.out.1; omega, by rw [ids_next hir, if_neg (by rw [e]; simp)]; exact HK.out.2.1, HK.out.2.2⟩)
   have HYE : Hid (thr (tr rs[i]) t = true → KT0 w0 t rs (i + 1) (xs ++ [(rs[i].1, rs[i].2.1, rs[i].2.2.1, rs[i].2.2.2.1, a', rs[i].2.2.2.2.length, cap')])) := hid (fun e => by
    refine ⟨by have := HK.out.1; simp; omega, by rw [ids_next hir, if_pos e, List.map_append, HK.out.2.1]; rfl, fun x hx => ?_⟩
    rcases List.mem_append.1 hx with hx | hx
    ·exact HK.out.2.2 x hx
    ·simp at hx
     subst hx
     exact ⟨i, hir, e, rfl, rfl, rfl, rfl, rfl, k5, k6, k7⟩)
   have hxl := HK.out.1
   clear k5 k6 k7
   unfold rwv at HT
   generalize thr (tr rs[i]) t = q2 at *
   generalize rs[i].1 = id2 at *
   generalize rs[i].2.1 = fr at *
   generalize rs[i].2.2.1 = te at *
   generalize rs[i].2.2.2.1 = kd at *
   generalize rs[i].2.2.2.2.length = np at *
   obtain ⟨g, c, rfl, hgl, hown⟩ := HV.out
   have HO := hid hown
   clear hown HV
   go_upto_region 5 with fail
   have gx := new_alloc wr wr.heap.size (.cells #[.int .i64 id2, .int .i64 fr, .int .i64 te, .int .i64 kd, .slice a' np cap'] 65) rfl
   have HI1 := hid ((show ERow w.heap.size wr _ xs from ⟨g, c, rfl, hgl, HO.out⟩).below hbx)
   have HB1 := hid (btrans HBW.out hbx)
   have HT1 := hid (HT.out _ hbx)
   clear k0 k1 k2 k3 k4 HT hbx HO hgl
   generalize wr.alloc (.cells #[.int .i64 id2, .int .i64 fr, .int .i64 te, .int .i64 kd, .slice a' np cap'] 65) = W1 at *
   generalize wr.heap.size = X at *
   obtain ⟨⟨x0, x1, x2, x3, x4⟩, _⟩ := cell5g gx
   clear gx
   go_wp2_with fail
   refine HT1.out.mono ?_
   rintro e z ⟨rfl, hz⟩
   have HBz := hid (btrans HB1.out hz)
   have HIz := hid (HI1.out.below hz)
   clear hz x0 x1 x2 x3 x4 HT1 HI1 HB1
   cases q2
   ·have HK2 := hid (HNO.out rfl)
    go_wp2_with fail
    have hal : Below z.heap.size z (z.alloc (.cells #[.int .i64 id2, .int .i64 fr, .int .i64 te, .int .i64 kd, .slice a' np cap'] 65)) := balloc (Below.refl _ _) _
    have HV2 := hid (HIz.out.below hal)
    have HBa := hid (btrans HBz.out hal)
    clear hal
    go_roundw
    case rel => exact ⟨i + 1, xs, by go_num, by omega, HK2, HV2, HBa⟩
    case measure => simp [intOf]; omega
   ·have HK2 := hid (HYE.out rfl)
    clear HNO HYE HK
    go_upto_region 7 with fail
    have hal : Below z.heap.size z (z.alloc (.cells #[.int .i64 id2, .int .i64 fr, .int .i64 te, .int .i64 kd, .slice a' np cap'] 65)) := balloc (Below.refl _ _) _
    have gy := new_alloc z z.heap.size (.cells #[.int .i64 id2, .int .i64 fr, .int .i64 te, .int .i64 kd, .slice a' np cap'] 65) rfl
    have HIa := hid (HIz.out.below hal)
    have HBa := hid (btrans HBz.out hal)
    clear hal HIz HBz
    generalize z.alloc (.cells #[.int .i64 id2, .int .i64 fr, .int .i64 te, .int .i64 kd, .slice a' np cap'] 65) = Z at *
    obtain ⟨⟨x0, x1, x2, x3, x4⟩, _⟩ := cell5g gy
    clear gy
    obtain ⟨g', c', e', hgl', hownZ⟩ := HIa.out
    cases e'
    have hwZ := HBa.out.size
    go_wp2_with (at_builtin; (refine wpList_append_lies _ rfl (.tmp 26) (.tmp 28) 30 rfl w.heap.size 65 i0 _ 5 56 Tryz.underlying30 hi0 hz0 hz1 hz2 rfl (by decide) (.slice (some ⟨g, 0, none⟩) xs.length c) xs.length (flat5 xs) rfl (hownZ.alloc _) ⟨Z.heap.size, 0, none⟩ 1 1 (ev (id2, fr, te, kd, a', np, cap')) rfl rfl (World.news_of_block (cs := #[.int .i64 id2, .int .i64 fr, .int .i64 te, .int .i64 kd, .slice a' np cap']) (t := 65) (fr := (0, 0)) (heap_alloc_new Z _)) (by simp [ev, Value.oneCell']) (by omega) (by unfold maxLen; omega) (by omega) (by simp; omega) (Z.heap.size + 1) (by simp) ?_; intro gg cq w2 hown2 hgrow hat hlt2))
    have hb2 : Below w.heap.size w w2 := Below.grown (balloc HBa.out _) hgrow (by simp; omega) (fun k e => (hownZ.lt k e).1)
    have hgg : gg < w2.heap.size := by
     rcases hown2.2 with ⟨q, _⟩ | ⟨g9, c9, cur9, e9, _, q9, _⟩
     ·cases q
     ·cases e9; exact lt_of_block q9
    have HSN2 : Hid (ERow w.heap.size w2 (.slice (some ⟨gg, 0, none⟩) (xs.length + 1) cq) (xs ++ [(id2, fr, te, kd, a', np, cap')])) := hid (by
     refine ⟨gg, cq, by simp, hgg, ?_⟩
     rw [flat5_snoc]
     simpa using hown2)
    have HB2 := hid hb2
    clear hb2 hown2 hgrow hownZ
    go_roundw
    case rel => exact ⟨i + 1, _, by go_num, by omega, HK2, HSN2, HB2⟩
    case measure => simp [intOf]; omega
  ·have d1 : (n : Int) ≤ (i : Int) := by omega
   have hin : i = n := by omega
   have HF : Hid (KT0 w0 t rs n xs) := hid (by rw [← hin]; exact HK.out)
   clear hin HK
   go_wp2_with fail
   go_ret
   exact ⟨_, xs, rfl, HV.out, HF.out, HBW.out⟩
def EL (w : World) (rs : List Rw) (t : Int) (y : El) : Prop := y.2.2.2.1 = raK (rat rs y.1 t) ∧ y.2.2.2.2.2.1 = (raP (rat rs y.1 t)).length ∧ (raP (rat rs y.1 t)).length ≤ y.2.2.2.2.2.2 ∧ (raP (rat rs y.1 t)).length ≤ 1099511627776 ∧ Pts w y.2.2.2.2.1 (raP (rat rs y.1 t)) ∧ shok (raK (rat rs y.1 t)) (raP (rat rs y.1 t)) = true
theorem Elx.el {w : World} {now : Int} {rs : List Rw} {t : Int} {y : El} (hr : rowsb now rs = true) (h : Elx w t rs y) : EL w rs t y := by
 obtain ⟨j, hj, h1, h2, h3, h4, h5, h6, h7, h8, h9⟩ := h
 have e := rat_of hr hj h1
 unfold EL
 rw [h2, e]
 exact ⟨h5, h6, h7, h8, h9, rowsb_sh hr hj⟩
def TA (w0 w : World) (t : Int) (rs : List Rw) (ids : List Int) (e : Ending) (w' : World) : Prop :=
 ∃ g a' cap' ys, e = .returned (.slice a' ys.length cap') ∧ ys.length ≤ cap' ∧ ys.map (fun y => y.1) = ids ∧ (0 < ys.length → a' = some ⟨g, 0, none⟩) ∧ w.heap.size ≤ g ∧ g < w'.heap.size ∧ ElsAt w' g 0 ys ∧ (∀ y ∈ ys, EL w0 rs t y) ∧ Below w.heap.size w w' ∧ (0 < ys.length → ∃ cur fr, w'.heap[g]? = some (.cells cur 65 fr))
theorem sorted_kind {w : World} {g q : Nat} {d : Array El} {os : Array Obj} {cur : Array Value} {T : TypeId} {fr : Nat × Nat} (h : w.heap[g]? = some (.cells cur T fr)) : ∃ cur' fr', (sortWorldK ev 5 w g 0 q d os).heap[g]? = some (.cells cur' T fr') := by
 unfold sortWorldK putRowK
 have hl := lt_of_block h
 rw [heap_grow_old _ _ (by simpa [putRow, mapBlock, Sort.ahead] using hl)]
 refine ⟨putCells id 0 (flatK ev 5 d) cur, fr, ?_⟩
 simp only [putRow, mapBlock, Sort.ahead, Array.getElem?_modify, if_true, h, Option.map_some]
 rfl
theorem sort_els (B : Nat) (v : Value) (xs : List El) (w : World) (hm : xs.length ≤ 1099511627776) (h : ERow B w v xs) : Calls Tryz.prog 64 #[v, .func (.func 65) #[] #[]] w fun e w' => e = .returned (.tuple #[]) ∧ ∃ ys g cap, v = .slice (some ⟨g, 0, none⟩) xs.length cap ∧ xs.length ≤ cap ∧ B ≤ g ∧ g < w'.heap.size ∧ ElsAt w' g 0 ys ∧ ys.Perm xs ∧ ys.Pairwise lexE ∧ w.grownBy w' (some g) ∧ ∃ cur fr, w'.heap[g]? = some (.cells cur 65 fr) := by
 obtain ⟨g, cap, rfl, hgl, hown⟩ := h
 obtain ⟨cur, hcap, hB, hb, htk⟩ : ∃ cur, xs.length ≤ cap ∧ B ≤ g ∧ w.heap[g]? = some (.cells cur 65 (0, 0)) ∧ cur.toList.take (xs.length * 5) = flat5 xs := by
  rcases hown.2 with ⟨q, _⟩ | ⟨g', c', cur, e, q1, q2, q3, _, _, q4⟩
  ·cases q
  ·cases e
   exact ⟨cur, q3, q1, q2, q4⟩
 have hH : HoldsK ev 5 w g 0 xs.toArray := holds_of_row (cap := cap) hb htk
 have HS := sort_rows g 0 cap xs.toArray w hH hgl (by simp; omega)
 rw [show xs.toArray.size = xs.length by simp] at HS
 refine HS.mono ?_
 rintro e w2 ⟨rfl, d', q, os, hp, hs, rfl⟩
 have hds : d'.size = xs.length := by have := hp.1; simpa using this
 have hK2 := holdsK_sortWorldK ev 5 w g 0 q xs.toArray d' os hgl hH (by rw [hds]; simp)
 have hgr := grown_sortedK (w := w) (g := g) (n := q) (os := os) d'
 have hperm : d'.toList.Perm xs := by
  have h2 := hp.2.2
  have e1 : d'.extract 0 xs.length = d' := by rw [← hds]; simp
  have e2 : xs.toArray.extract 0 xs.length = xs.toArray := by
   have : xs.length = xs.toArray.size := by simp
   rw [this]; simp
  rw [e1, e2] at h2
  simpa using h2
 exact ⟨rfl, d'.toList, g, cap, rfl, hcap, hB, Nat.lt_of_lt_of_le hgl hgr.size, els_of_holds hK2, hperm, sorted_lex (by rw [hds]; exact hs), hgr, sorted_kind hb⟩
theorem impl_thereAt {N : Nat → Prop} (now : Int) (a : Option Addr) (cap : Nat) (rs : List Rw) (t : Int) (w0 w : World) (hm : rs.length ≤ 1099511627776) (h : Rws N w0 a rs) (hb0 : Below w0.heap.size w0 w) : Calls Tryz.prog 29 #[.agg #[.int .i64 now, .slice a rs.length cap], .int .i64 t] w fun e w' => TA w0 w t rs (idsb now rs t) e w' := by
 have HOK := hid (fun (W : World) (hb : Below w.heap.size w W) => impl_RowsOk now a cap rs W hm ((h.below hb0).below hb))
 have HKP := hid (fun (W : World) (hb : Below w.heap.size w W) (p : Nat) (c1 : W.cell? ⟨p, 0, none⟩ = some (.int .i64 t)) => kept_there a cap rs t p w0 W hm h (btrans hb0 hb) c1)
 have HEL : Hid (rowsb now rs = true → ∀ y, Elx w0 t rs y → EL w0 rs t y) := hid (fun e y hy => hy.el e)
 clear h
 have HNO : Hid (rowsb now rs = false → idsb now rs t = []) := hid (fun e => by unfold idsb; rw [if_neg (by rw [e]; simp)])
 have HYE : Hid (rowsb now rs = true → idsb now rs t = srt (idsT rs t)) := hid (fun e => by unfold idsb; rw [if_pos e])
 have HL := hid (ids_len rs t)
 have HNN := hid hm
 generalize idsb now rs t = ib at *
 generalize rowsb now rs = ob at *
 obtain ⟨n, hn⟩ : ∃ n, n = rs.length := ⟨_, rfl⟩
 have HN := hid hn.symm
 rw [← hn] at hm HOK HKP HNN HL ⊢
 clear hn
 have hmf : ∀ (fn : Fn) (first cp : Array Value) (w : World), (Instr.makeFunc fn first cp).run Tryz.prog w = .ok (.func fn first cp) w := fun _ _ _ _ => rfl
 go_enter Tryz.func29, Tryz.ntmps29
 go_upto_region 1 with fail
 have hBx : Below w.heap.size w ((w.alloc (.cells #[.int .i64 now, .slice a n cap] 32)).alloc (.cells #[.int .i64 t] 3)) := balloc (balloc (Below.refl _ _) _) _
 have g0 := old_alloc (o' := .cells #[.int .i64 t] 3) (new_alloc w w.heap.size (.cells #[.int .i64 now, .slice a n cap] 32) rfl)
 have g1 := new_alloc (w.alloc (.cells #[.int .i64 now, .slice a n cap] 32)) (w.heap.size + 1) (.cells #[.int .i64 t] 3) (by simp)
 generalize (w.alloc (.cells #[.int .i64 now, .slice a n cap] 32)).alloc (.cells #[.int .i64 t] 3) = W0 at *
 obtain ⟨d0, d1, _, _⟩ := cell2r g0
 go_wp2_with fail
 refine (HOK.out _ hBx).mono ?_
 rintro e W ⟨rfl, hz⟩
 replace g0 := keepheap2 hz g0
 replace g1 := keepheap2 hz g1
 have hB := btrans hBx hz
 clear hBx hz d0 d1 HOK
 cases ob
 ·have HF := hid (HNO.out rfl)
  have HB := hid hB
  have HWL := hid (lt_of_block g0)
  clear HNO HYE HKP g0 g1 hB
  go_wp2_with fail
  go_ret
  rw [HF.out]
  exact ⟨w.heap.size, none, 0, [], rfl, Nat.le_refl _, rfl, fun h => absurd h (by simp), Nat.le_refl _, HWL.out, fun j hj => absurd hj (by simp), fun y hy => absurd hy (by simp), HB.out, fun h => absurd h (by simp)⟩
 have HF := hid (HYE.out rfl)
 have c1 : W.cell? ⟨w.heap.size + 1, 0, none⟩ = some (.int .i64 t) := by simp [World.cell?, g1]
 have KP := hid (HKP.out W hB (w.heap.size + 1) c1)
 have HB := hid hB
 clear HNO HYE HKP c1 g1 hB
 obtain ⟨d0, d1, _, _⟩ := cell2r g0
 go_wp2_with fail
 refine KP.out.mono ?_
 rintro e y ⟨v, xs, rfl, hI, hK, hy⟩
 have hxl : xs.length ≤ n := hK.1
 have hid2 : xs.map (fun x => x.1) = idsT rs t := by have := hK.2.1; rw [← HN.out, List.take_length] at this; exact this
 have HS := hid (sort_els W.heap.size v xs y (by have := HNN.out; omega) hI)
 have HBy := hid (btrans HB.out hy)
 have HXY : Hid (∀ x ∈ xs, EL w0 rs t x) := hid (fun x hx => HEL.out (by first | rfl | trivial) x (hK.2.2 x hx))
 have HWs := hid HB.out.size
 have HYs := hid HBy.out.size
 have HID2 := hid hid2
 obtain ⟨g0', c0', hv, _, _⟩ := hI
 clear hy d0 d1 KP g0 hK hid2
 subst hv
 go_wp2_with fail
 refine HS.out.mono ?_
 rintro e u ⟨rfl, ys, g, cp, ev0, hcap, hgB, hgu, hE, hP, hL, hgr, hkd⟩
 cases ev0
 have HBu : Hid (Below w.heap.size w u) := hid (Below.grown HBy.out hgr HBy.out.size (fun k e => by cases e; have := HWs.out; omega))
 have HXU : Hid (∀ x ∈ ys, EL w0 rs t x) := hid (fun x hx => HXY.out x (hP.mem_iff.1 hx))
 have HCAP := hid hcap
 have HKD := hid hkd
 have HALL := hid (show _ ∧ _ ∧ _ from ⟨hP.length_eq, hE, hgu⟩)
 have HIDS : Hid (ys.map (fun y => y.1) = ib) := hid (by
  rw [HF.out, ← HID2.out]
  exact srt_of (hP.map _) (List.pairwise_map.2 (hL.imp (fun h => by unfold lexE at h; omega))))
 clear hgr HS hE hP hL hkd
 go_wp2_with fail
 go_ret
 exact ⟨g0', some ⟨g0', 0, none⟩, c0', ys, by rw [HALL.out.1]; rfl, by rw [HALL.out.1]; exact HCAP.out, HIDS.out, fun _ => rfl, by have := HWs.out; omega, HALL.out.2.2, HALL.out.2.1, HXU.out, HBu.out, fun _ => HKD.out⟩
end Go.Proofs.YtenlhgnobfadgaaGreatDoor
namespace Go.Proofs.YtenlhgnobfadgaaGreatDoor
open Go.RowKit
def sv (f : List (Int × Int) → Int) (k : Int) (ps : List (Int × Int)) : Int := if shok k ps = true then f ps else 0
theorem shok_aok {k : Int} {ps : List (Int × Int)} (h : shok k ps = true) : aok ps = true ∧ 0 < ps.length ∧ ps.length ≤ 60 := by
 cases ha : allok ps
 ·rw [shok_no ha] at h; cases h
 have hl : 0 < ps.length ∧ ps.length ≤ 60 := by
  unfold shok at h
  split at h
  ·simp only [Bool.and_eq_true, decide_eq_true_eq] at h; omega
  split at h
  ·simp only [lineb, Bool.and_eq_true, decide_eq_true_eq] at h; omega
  split at h
  ·simp only [rectb, Bool.and_eq_true, decide_eq_true_eq] at h; omega
  split at h
  ·simp only [ringOk, Bool.and_eq_true, decide_eq_true_eq] at h; omega
  ·cases h
 refine ⟨?_, hl⟩
 unfold aok
 rw [ha, Bool.and_true]
 cases ps with
 | nil => simp at hl
 | cons p ps => rfl
theorem hidd {p : Prop} (h : p) : Hid p := h
theorem cut_digit (d : Nat) (h : d < 10) : (⟨#[48, 49, 50, 51, 52, 53, 54, 55, 56, 57]⟩ : ByteArray).extract d (d + 1) = ⟨#[UInt8.ofNat (48 + d)]⟩ := by
 have : d = 0 ∨ d = 1 ∨ d = 2 ∨ d = 3 ∨ d = 4 ∨ d = 5 ∨ d = 6 ∨ d = 7 ∨ d = 8 ∨ d = 9 := by omega
 rcases this with rfl | rfl | rfl | rfl | rfl | rfl | rfl | rfl | rfl | rfl <;> rfl
theorem put_front (b : UInt8) (l : List UInt8) : (⟨#[b]⟩ : ByteArray) ++ ⟨l.toArray⟩ = ⟨(b :: l).toArray⟩ := by
 apply ByteArray.ext
 rw [ByteArray.data_append]
 simp
theorem dec_step (n u : Nat) (l : List UInt8) (_hu : u ≠ 0) (h : Lib.decDigits n = Lib.decDigits u ++ l) :
  (u / 10 = 0 → Lib.decDigits n = UInt8.ofNat (48 + u % 10) :: l) ∧ (0 < u / 10 → Lib.decDigits n = Lib.decDigits (u / 10) ++ UInt8.ofNat (48 + u % 10) :: l) := by
 constructor
 ·intro h0
  rw [h, Lib.decDigits_one (show u < 10 by omega), show u % 10 = u by omega]; rfl
 ·intro h0
  rw [h, Lib.decDigits, dif_neg (by omega)]; simp
theorem len_le (u n : Nat) (k : Nat) (hu : u ≠ 0) (h : u * 10 ^ k ≤ n) (hn : n ≤ 9223372036854775808) : k ≤ 18 := by
 rcases Nat.lt_or_ge 18 k with hk | hk
 ·have h2 : 10 ^ 19 ≤ 10 ^ k := Nat.pow_le_pow_right (by omega) hk
  have h3 : 1 * 10 ^ k ≤ u * 10 ^ k := Nat.mul_le_mul (by omega) (Nat.le_refl _)
  omega
 ·exact hk
theorem down_le (u n k : Nat) (h : u * 10 ^ k ≤ n) : u / 10 * 10 ^ (k + 1) ≤ n := by
 have h1 : u / 10 * 10 * 10 ^ k ≤ u * 10 ^ k := Nat.mul_le_mul (by omega) (Nat.le_refl _)
 rw [Nat.pow_succ, Nat.mul_comm (10 ^ k) 10, ← Nat.mul_assoc]; omega
theorem spec_dec_pos (n : Nat) (h0 : 1 ≤ n) (h1 : n ≤ 9223372036854775807) (w : World) : Calls Tryz.prog 39 #[.int .i64 n] w fun e w' => e = .returned (.string ⟨(Lib.decDigits n).toArray⟩) ∧ w' = w := by
 have hz : ((n : Int) == 0) = false := by rw [beq_eq_false_iff_ne]; omega
 go_enter Tryz.func39, Tryz.ntmps39
 go_wp2
 go_loop [3, 4] (fun tout tm => ∃ u : Nat, ∃ l : List UInt8, tout = .string ⟨l.toArray⟩ ∧ tm = .int .i64 u ∧ u ≤ 9223372036854775807 ∧ l.length ≤ 64 ∧ Hid (u * 10 ^ l.length ≤ n) ∧ Hid ((u = 0 → Lib.decDigits n = l) ∧ (0 < u → Lib.decDigits n = Lib.decDigits u ++ l))) (fun _ tm => (intOf tm).toNat)
 case atStart => exact ⟨n, [], rfl, rfl, h1, by simp, by simp [Hid], by omega, by simp⟩
 case round =>
  obtain ⟨u, l, rfl, rfl, hu, hl, HL, H⟩ := hrel
  by_cases hu0 : u = 0
  ·subst hu0
   have hfin := H.out.1 rfl
   have Hf := hidd hfin
   clear hfin H HL
   go_wp2
   go_ret
   exact ⟨by rw [Hf.out]; rfl, rfl⟩
  ·have hb : ((u : Int) != 0) = true := by rw [bne_iff_ne]; omega
   have b1 : 0 ≤ (u : Int) % 10 := by omega
   have b2 : (u : Int) % 10 + 1 ≤ 10 := by omega
   have b3 : 0 ≤ (u : Int) % 10 + 1 := by omega
   have b4 : (u : Int) % 10 ≤ (u : Int) % 10 + 1 := by omega
   have hst := dec_step n u l hu0 (H.out.2 (by omega))
   have hk := len_le u n l.length hu0 HL.out (by omega)
   have hdn := down_le u n l.length HL.out
   have Hst := hidd hst
   have Hdn := hidd hdn
   clear hst H HL hdn
   go_wp2
   go_round
   case rel => exact ⟨u / 10, UInt8.ofNat (48 + u % 10) :: l, by rw [cut_digit _ (by omega), put_front], by go_num, by omega, by simp; omega, by simpa using Hdn, Hst⟩
   case measure => simp [intOf]; omega
theorem tmod_neg (u : Nat) : (-(u : Int)).tmod 10 = -((u % 10 : Nat) : Int) := by rw [Int.neg_tmod]; congr 1
theorem tdiv_neg (u : Nat) : (-(u : Int)).tdiv 10 = -((u / 10 : Nat) : Int) := by rw [Int.neg_tdiv]; congr 1
theorem neg_front (l : List UInt8) : (⟨#[45]⟩ : ByteArray) ++ ⟨l.toArray⟩ = ⟨(45 :: l).toArray⟩ := put_front 45 l
theorem spec_dec_neg (n : Nat) (h0 : 1 ≤ n) (h1 : n ≤ 9223372036854775808) (w : World) : Calls Tryz.prog 39 #[.int .i64 (-(n : Int))] w fun e w' => e = .returned (.string ⟨(45 :: Lib.decDigits n).toArray⟩) ∧ w' = w := by
 have hz : (-(n : Int) == 0) = false := by rw [beq_eq_false_iff_ne]; omega
 have hneg : -(n : Int) < 0 := by omega
 go_enter Tryz.func39, Tryz.ntmps39
 go_wp2
 go_loop [3, 4] (fun tout tm => ∃ u : Nat, ∃ l : List UInt8, tout = .string ⟨l.toArray⟩ ∧ tm = .int .i64 (-(u : Int)) ∧ u ≤ 9223372036854775808 ∧ l.length ≤ 64 ∧ Hid (u * 10 ^ l.length ≤ n) ∧ Hid ((u = 0 → Lib.decDigits n = l) ∧ (0 < u → Lib.decDigits n = Lib.decDigits u ++ l))) (fun _ tm => (-(intOf tm)).toNat)
 case atStart => exact ⟨n, [], rfl, rfl, h1, by simp, by simp [Hid], by omega, by simp⟩
 case round =>
  obtain ⟨u, l, rfl, rfl, hu, hl, HL, H⟩ := hrel
  by_cases hu0 : u = 0
  ·subst hu0
   have hfin := H.out.1 rfl
   have Hf := hidd hfin
   clear hfin H HL
   go_wp2
   go_ret
   exact ⟨by rw [Hf.out, ← neg_front]; rfl, rfl⟩
  ·have hb : (-(u : Int) != 0) = true := by rw [bne_iff_ne]; omega
   have hst := dec_step n u l hu0 (H.out.2 (by omega))
   have hk := len_le u n l.length hu0 HL.out (by omega)
   have hdn := down_le u n l.length HL.out
   have Hst := hidd hst
   have Hdn := hidd hdn
   clear hst H HL hdn
   have ed := tdiv_neg u
   obtain ⟨d, hd⟩ : ∃ d, d = u % 10 := ⟨_, rfl⟩
   obtain ⟨q, hq⟩ : ∃ q, q = u / 10 := ⟨_, rfl⟩
   have em := tmod_neg u
   have ed := tdiv_neg u
   rw [← hd] at em
   rw [← hq] at ed
   have hd10 : d < 10 := by omega
   have hq1 : q ≤ 922337203685477580 := by omega
   have hqu : q < u := by omega
   have Hd := hidd hd
   have Hq := hidd hq
   clear hd hq
   by_cases hd0 : d = 0
   ·subst hd0
    go_wp2
    go_round
    case rel => exact ⟨u / 10, UInt8.ofNat (48 + u % 10) :: l, by rw [show u % 10 = 0 from Hd.out.symm]; exact congrArg Value.string ((congrArg (· ++ _) (cut_digit 0 (by omega))).trans (put_front _ _)), by go_num, by omega, by simp; omega, by simpa using Hdn, Hst⟩
    case measure => simp [intOf]; omega
   ·have c1 : -(d : Int) < 0 := by omega
    have b1 : 0 ≤ (d : Int) := by omega
    have b2 : (d : Int) + 1 ≤ 10 := by omega
    have b3 : 0 ≤ (d : Int) + 1 := by omega
    have b4 : (d : Int) ≤ (d : Int) + 1 := by omega
    go_wp2
    go_round
    case rel => exact ⟨u / 10, UInt8.ofNat (48 + u % 10) :: l, by rw [← Hd.out, cut_digit _ hd10, put_front], by go_num, by omega, by simp; omega, by simpa using Hdn, Hst⟩
    case measure => simp [intOf]; omega
theorem spec_dec (n : Int) (h0 : -9223372036854775808 ≤ n) (h1 : n ≤ 9223372036854775807) (w : World) : Calls Tryz.prog 39 #[.int .i64 n] w fun e w' => e = .returned (.string ⟨(Lib.itoa n).toArray⟩) ∧ w' = w := by
 by_cases hp : 1 ≤ n
 ·obtain ⟨u, rfl⟩ := Int.eq_ofNat_of_zero_le (show 0 ≤ n by omega)
  rw [Lib.itoa_nonneg]; exact spec_dec_pos u (by omega) (by omega) w
 ·by_cases hz : n = 0
  ·subst hz
   have e : Lib.itoa 0 = [48] := by have := Lib.itoa_nonneg 0; rw [Lib.decDigits_one (by omega)] at this; exact this
   rw [e]
   go_enter Tryz.func39, Tryz.ntmps39
   go_wp2
   go_ret
   exact ⟨rfl, rfl⟩
  ·obtain ⟨u, hu⟩ := Int.eq_ofNat_of_zero_le (show 0 ≤ -n by omega)
   have hn : n = -(u : Int) := by omega
   subst hn
   rw [Lib.itoa_neg u (by omega)]; exact spec_dec_neg u (by omega) (by omega) w
end Go.Proofs.YtenlhgnobfadgaaGreatDoor
