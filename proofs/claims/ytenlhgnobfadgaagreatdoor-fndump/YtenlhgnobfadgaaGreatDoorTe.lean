import Derived.Test.YtenlhgnobfadgaaGreatDoorTd
set_option maxRecDepth 100000
set_option maxHeartbeats 8000000
set_option linter.unusedSimpArgs false
set_option linter.unusedVariables false
namespace Go.Proofs.YtenlhgnobfadgaaGreatDoor
open Go.RowKit Go.Maps
theorem shok_kindT {k : Int} {ps : List (Int × Int)} (h : shok k ps = true) : (k = 0 ∧ ps.length = 1) ∨ (k = 1 ∧ 2 ≤ ps.length ∧ ps.length ≤ 60) ∨ (k = 2 ∧ ps.length = 2) ∨ (k = 3 ∧ 3 ≤ ps.length ∧ ps.length ≤ 60) := by
 unfold shok at h
 split at h
 ·rename_i e
  simp only [Bool.and_eq_true, decide_eq_true_eq] at h
  exact .inl ⟨e, h.1⟩
 split at h
 ·rename_i e
  simp only [lineb, Bool.and_eq_true, decide_eq_true_eq] at h
  exact .inr (.inl ⟨e, h.1.1.1, h.1.1.2⟩)
 split at h
 ·rename_i e
  simp only [rectb, Bool.and_eq_true, decide_eq_true_eq] at h
  exact .inr (.inr (.inl ⟨e, h.1.1⟩))
 split at h
 ·rename_i e
  simp only [ringOk, Bool.and_eq_true, decide_eq_true_eq] at h
  exact .inr (.inr (.inr ⟨e, h.1.1.1, h.1.1.2⟩))
 ·cases h
theorem keepsetB {w : World} {b k q j : Nat} {v u : Value} (h : w.cell? ⟨b, k, none⟩ = some v) (hne : q ≠ b) : (w.setCell ⟨q, j, none⟩ u).cell? ⟨b, k, none⟩ = some v := keepset9 h (by intro e; injection e with e _ _; exact hne e.symm)
theorem bgn_take (cs : List Ch) (i : Nat) : bgn (cs.take i) ≤ bgn cs := ((List.take_sublist i cs).filter _).length_le
theorem set0r {w : World} {p : Nat} {o0 o1 : Value} {t : TypeId} (h : w.heap[p]? = some (.cells #[o0, o1] t (0, 0))) (b : Value) : (w.setCell ⟨p, 0, none⟩ b).heap[p]? = some (.cells #[b, o1] t (0, 0)) := set_at h
def CHG (w0 : World) (p base : Nat) (t : Int) (rs : List Rw) (cs : List Ch) (w' : World) : Prop :=
 ∃ v xs, w'.heap[p]? = some (.cells #[.int .i64 t, v] 32 (0, 0)) ∧ RowsX base w'.heap.size w' v (apl t rs cs) xs ∧ Off p v xs ∧ Below w0.heap.size w0 w'
theorem change_c {N : Nat → Prop} (w0 : World) (p base : Nat) (now : Int) (v0 : Value) (rs : List Rw) (xs0 : List El) (a : Option Addr) (cap : Nat) (cs : List Ch) (w : World) (hB0 : Below w0.heap.size w0 w) (hpS : w0.heap.size ≤ p) (hbS : w0.heap.size ≤ base) (hbw : base ≤ w.heap.size) (hm : cs.length ≤ 1099511627776) (hC : Chs N 1099511627776 w0 a cs)
  (gp0 : w.heap[p]? = some (.cells #[.int .i64 now, v0] 32 (0, 0))) (hX0 : RowsX base w.heap.size w v0 rs xs0) (hO0 : Off p v0 xs0) (hr : rowsb now rs = true) (hc : cgs cs = true) (hn : now ≤ 1000000000) (hl : rs.length + bgn cs ≤ 300) :
  Calls Tryz.prog 53 #[.pointer (some ⟨p, 0, none⟩), .slice a cs.length cap] w fun e w' => e = .returned (.tuple #[]) ∧ CHG w0 p base (now + 1) rs cs w' := by
 obtain ⟨i0, hi0, hz0, hz1, hz2⟩ := info_parts Tryz.infoRow
 obtain ⟨hn0, hrl, hrb, _⟩ := rowsb_parts hr
 obtain ⟨hcb, hcd⟩ := cgs_parts hc
 have hw1 : IntKind.i64.wrap (now + 1) = now + 1 := by rw [IntKind.wrap_i64]; omega
 have hidw : IdW rs := fun m h => by
  have := (rowb_iff _ _).1 (hrb _ (List.getElem_mem h))
  unfold i64w
  omega
 have HC := hid hC
 have HEND : Hid (∀ (W : World) (v : Value) (xs : List El), W.heap[p]? = some (.cells #[.int .i64 (now + 1), v] 32 (0, 0)) → RowsX base W.heap.size W v (apl (now + 1) rs (cs.take cs.length)) xs → Off p v xs → Below w0.heap.size w0 W → CHG w0 p base (now + 1) rs cs W) := hid (fun W v xs h1 h2 h3 h4 => ⟨v, xs, h1, by rw [List.take_length] at h2; exact h2, h3, h4⟩)
 have HLN : Hid (∀ i, (apl (now + 1) rs (cs.take i)).length ≤ 300) := hid (fun i => by
  rw [apl_len]
  have := bgn_take cs i
  omega)
 have HCB : Hid (∀ i (h : i < cs.length), cgb cs[i] = true) := hid (fun i h => hcb _ (List.getElem_mem h))
 have HYES : Hid (∀ i j (hi : i < cs.length) (hj : j < rs.length), rs[j].1 = cs[i].1 → rs[j].2.2.1 = 0 → ∃ hl : j < (apl (now + 1) rs (cs.take i)).length, (apl (now + 1) rs (cs.take i)).map (endR (now + 1) cs[i].1) = (apl (now + 1) rs (cs.take i)).set j (rwT (now + 1) (apl (now + 1) rs (cs.take i))[j])) := hid (fun i j hi hj e z => by
  obtain ⟨q1, q2, q3⟩ := map_end_yes (t := now + 1) hr hcd hi hj e z
  exact ⟨q1, by rw [q3, q2]; rfl⟩)
 have HNOO : Hid (∀ i (hi : i < cs.length), (∀ j (hj : j < rs.length), rs[j].1 = cs[i].1 → rs[j].2.2.1 ≠ 0) → (apl (now + 1) rs (cs.take i)).map (endR (now + 1) cs[i].1) = apl (now + 1) rs (cs.take i)) := hid (fun i hi h => map_end_no hcd hi h)
 have HSTP : Hid (∀ i (hi : i < cs.length), apl (now + 1) rs (cs.take (i + 1)) = (apl (now + 1) rs (cs.take i)).map (endR (now + 1) cs[i].1) ++ (if cs[i].2.1 = true then [] else [newR (now + 1) cs[i]])) := hid (fun i hi => apl_next _ _ _ hi)
 clear hC hr hc hcb hcd hrb
 have hpw : p < w.heap.size := lt_of_block gp0
 have gp1 := set0r gp0 (.int .i64 (now + 1))
 have hfar0 : ∀ b, b ≠ p → (w.setCell ⟨p, 0, none⟩ (.int .i64 (now + 1))).heap[b]? = w.heap[b]? := fun b hb => by rw [Below.heap_setCell _ _ _ _ (by dsimp only; omega)]
 have hX1 := (hX0.but hO0 (w' := w.setCell ⟨p, 0, none⟩ (.int .i64 (now + 1))) (fun b _ h2 => hfar0 b h2) (by simp)).mono (hi' := (w.setCell ⟨p, 0, none⟩ (.int .i64 (now + 1))).heap.size) (Nat.le_refl _) (by simp) (Nat.le_refl _)
 have hB1 := bset hB0 (q := p) (k := 0) hpS (.int .i64 (now + 1))
 have hbW0 : base ≤ (w.setCell ⟨p, 0, none⟩ (.int .i64 (now + 1))).heap.size := by simpa using hbw
 obtain ⟨e0, e1, f0, f1⟩ := cell2f gp0
 obtain ⟨m, hmm⟩ : ∃ m, m = cs.length := ⟨_, rfl⟩
 have HM := hid hmm.symm
 rw [← hmm] at hm HEND ⊢
 clear hmm
 go_enter Tryz.func53, Tryz.ntmps53
 go_upto_region 1 with fail
 clear e0 e1 f0 f1 gp0 hX0 hfar0
 generalize w.setCell ⟨p, 0, none⟩ (.int .i64 (now + 1)) = W0 at *
 obtain ⟨ra, rc, rfl⟩ := kept_form hX1
 have HPL := hid (places_c ra rc rs W0 (by omega) hidw hX1.rws)
 obtain ⟨e0, e1, _, _⟩ := cell2f gp1
 obtain ⟨rn, hrn⟩ : ∃ rn, rn = rs.length := ⟨_, rfl⟩
 have HRN := hid hrn.symm
 rw [← hrn] at HPL e1 gp1 hX1 hO0
 clear hrn
 have HX1 := hid hX1
 have HO1 := hid hO0
 have HGP1 := hid gp1
 have HB1 := hid hB1
 have hpW : p < W0.heap.size := lt_of_block gp1
 clear hX1 hO0 gp1 hB1 hidw
 go_wp2_with fail
 refine HPL.out.mono ?_
 rintro e W1 ⟨B, nB, D, rfl, hBs, hownB, hMP, hW1⟩
 obtain ⟨es, clock, gB0, hrest⟩ := hownB
 have HOWN : Hid (∀ W : World, W.heap[B]? = some (.map es clock) → W.ownsMap Tryz.prog 123 (plainElem Tryz.prog 3) B nB D) := hid (fun W h => ⟨es, clock, h, hrest⟩)
 have HMP := hid hMP
 have hW1s := hW1.size
 have HX2 := hid ((HX1.out.below hW1).mono (hi' := W1.heap.size) (Nat.le_refl _) hW1s (Nat.le_refl _))
 have HGP2 := hid (keepheap2 hW1 HGP1.out)
 have HB2 := hid (btrans HB1.out hW1)
 have HGB := hid gB0
 clear hrest hMP gB0 hW1 HPL HX1 HGP1 HB1 e0 e1
 generalize (Value.slice ra rn rc) = v1 at *
 obtain ⟨t, ht⟩ : ∃ t, t = now + 1 := ⟨_, rfl⟩
 rw [← ht] at HEND HLN HYES HNOO HSTP HGP2
 have HTE := hid ht
 clear ht hw1
 go_wp2_with fail
 go_loopw [23] (fun ti wr => ∃ i : Nat, ∃ v : Value, ∃ xs : List El, ti = .int .i64 i ∧ i ≤ m ∧ Hid (RowsX base wr.heap.size wr v (apl t rs (cs.take i)) xs) ∧ Hid (Off p v xs) ∧ Hid (wr.heap[p]? = some (.cells #[.int .i64 t, v] 32 (0, 0))) ∧ Hid (wr.heap[B]? = some (.map es clock)) ∧ Hid (base ≤ wr.heap.size) ∧ Hid (Below w0.heap.size w0 wr)) (fun ti _ => m - (intOf ti).toNat)
 case atStart => exact ⟨0, _, _, rfl, Nat.zero_le _, HX2, HO1, HGP2, HGB, hid (Nat.le_trans hbW0 hW1s), HB2⟩
 case round =>
  clear HX2 HO1 HGP2 HGB HB2
  obtain ⟨i, v, xs, rfl, hi, HX0, HOf, HGP, HGB, HBZ, HBl0⟩ := hrel
  by_cases hlt : i < m
  ·have d1 : (i : Int) < (m : Int) := by omega
   have d0 : (0 : Int) ≤ (i : Int) := by omega
   have hir : i < cs.length := by rw [HM.out]; exact hlt
   obtain ⟨b, o, rfl, hbs, a', cap', k0, k1, k2, k3, k5, k6, k7, _⟩ := HC.out.at i hir
   replace k0 := keepcell HBl0.out k0
   replace k1 := keepcell HBl0.out k1
   replace k2 := keepcell HBl0.out k2
   replace k3 := keepcell HBl0.out k3
   have hcgb := HCB.out i hir
   have HY1 := hid (HYES.out i)
   have HN1 := hid (HNOO.out i hir)
   have HS1 := hid (HSTP.out i hir)
   have HLEN := hid (HLN.out i)
   have hMPi := HMP.out.2 (cs[i]'hir).1
   have HYj := hid (fun j (hj : j < rs.length) => HY1.out j hir hj)
   clear HY1
   obtain ⟨zn, hzn⟩ : ∃ zn, zn = apl t rs (cs.take (i + 1)) := ⟨_, rfl⟩
   have HZE := hid hzn
   rw [← hzn] at HS1
   clear hzn
   generalize apl t rs (cs.take i) = z0 at *
   obtain ⟨c, hcc⟩ : ∃ c, c = cs[i] := ⟨_, rfl⟩
   rw [← hcc] at k0 k1 k2 k3 k5 k6 k7 hcgb HN1 HS1 HYj hMPi
   clear hcc
   obtain ⟨id, gone, kd, ps⟩ := c
   simp only at k0 k1 k2 k3 k5 k6 k7 hcgb HN1 HS1 HYj hMPi
   have hidb : i64w id ∧ (gone = false → shok kd ps = true) := by
    unfold cgb at hcgb
    rw [Bool.and_eq_true] at hcgb
    have h1 : 1 ≤ id ∧ id ≤ 999999999 := by simpa [idb] using hcgb.1
    refine ⟨by unfold i64w; omega, fun hg => ?_⟩
    have := hcgb.2
    simp only [hg] at this
    simpa using this
   obtain ⟨hidw, hshk⟩ := hidb
   have HPT : Hid (gone = false → ∃ b' o', a' = some ⟨b', o', none⟩ ∧ b' < w0.heap.size ∧ Pts w0 a' ps) := hid (fun hg => by
    have hpos : 0 < ps.length := by rcases shok_kindT (hshk hg) with h | h | h | h <;> omega
    rcases k7 with h | ⟨b', o', h1, h2, h3⟩
    ·rw [h] at hpos; simp at hpos
    ·exact ⟨b', o', h1, h2, .inr ⟨b', o', h1, h2, h3⟩⟩)
   have HKEY := hid (kyL_is hidw (show i64w 0 from ⟨by omega, by omega⟩))
   obtain ⟨hm1, hm2⟩ := hMPi hidw
   have HM1 := hid hm1
   have HM2 := hid hm2
   clear hMPi hm1 hm2 hcgb hshk k7 hidw
   have hBx : Below wr.heap.size wr (wr.alloc (.cells #[.int .i64 id, .bool gone, .int .i64 kd, .slice a' ps.length cap'] 50)) := balloc (Below.refl _ _) _
   have gX := new_alloc wr wr.heap.size (.cells #[.int .i64 id, .bool gone, .int .i64 kd, .slice a' ps.length cap'] 50) rfl
   go_upto_region 5 with fail
   have hpr : p < wr.heap.size := lt_of_block HGP.out
   have hbz : base ≤ (wr.alloc (.cells #[.int .i64 id, .bool gone, .int .i64 kd, .slice a' ps.length cap'] 50)).heap.size := Nat.le_trans HBZ.out hBx.size
   have gp := keepheap2 hBx HGP.out
   have gB := keepheap2 hBx HGB.out
   have HX := hid (HX0.out.below hBx)
   have HBl := hid (btrans HBl0.out hBx)
   clear k0 k1 k2 k3 hBx HX0 HGP HGB HBl0
   generalize wr.alloc (.cells #[.int .i64 id, .bool gone, .int .i64 kd, .slice a' ps.length cap'] 50) = VV at *
   generalize hXX : wr.heap.size = X at *
   have H_ : ∃ H, H = X := ⟨_, rfl⟩
   obtain ⟨H, hH⟩ := H_
   rw [← hH] at HX
   have hHX : H ≤ X := Nat.le_of_eq hH
   clear hH hXX
   obtain ⟨⟨x0, x1, x2, x3⟩, _⟩ := cellk4 gX
   have hownV := HOWN.out VV gB
   go_wp2_with (first
    | (at_lookup; refine wpList_lookup_own_ok_int _ rfl _ _ 120 rfl 123 3 .i64 Tryz.lawK Tryz.underlying120 Tryz.underlying3 (Tryz.zeroK _) B nB D rfl hownV _ _ rfl HKEY.out ?_)
    | go_in)
   intro kc hat0 hwc
   clear hownV hwc
   generalize has D (kyL id 0) = hb at *
   cases hb
   ·have HE0 := hid (HN1.out (fun j hj e => HM2.out rfl j hj hj e))
    rw [HE0.out] at HS1
    have HZG : Hid (gone = true → zn = z0) := hid (fun h => by rw [HS1.out, h]; simp)
    have HZN : Hid (gone = false → zn = z0 ++ [(id, t, 0, kd, ps)]) := hid (fun h => by rw [HS1.out, h]; rfl)
    clear HE0 HS1 HM1 HM2 HN1 HYj hat0 x0 x1 x2 x3
    generalize z0 = zs at *
    obtain ⟨⟨x0, x1, x2, x3⟩, _⟩ := cellk4 gX
    cases gone
    rotate_left
    ·have HZ1 := hid (HZG.out rfl)
     have HF1 := hid (HX.out.mono (hi' := VV.heap.size) (Nat.le_refl _) HX.out.2.2.2.1 (Nat.le_refl _))
     rw [← HZ1.out, HZE.out] at HF1
     go_wp2_with fail
     go_roundw
     case rel => exact ⟨i + 1, _, _, by go_num, by omega, HF1, HOf, hid gp, hid gB, hid hbz, HBl⟩
     case measure => simp [intOf]; omega
    ·have HZS := hid (HZN.out rfl)
     obtain ⟨b', o', rfl, hb's, hpts⟩ := HPT.out rfl
     have HCP := hid (fun (W : World) (hb : Below VV.drew.heap.size VV.drew W) => impl_copyG kd b' o' cap' ps W k6 (hpts.below (btrans (bdrew HBl.out) hb)) (Nat.lt_of_lt_of_le hb's (btrans (bdrew HBl.out) hb).size))
     unfold CP at HCP
     obtain ⟨r0, r1, _, _⟩ := cell2f gp
     have hvp : some p ≠ v.ownBlock := fun e => HOf.out.1 e.symm
     have hvX : some X ≠ v.ownBlock := fun e => by have := HX.out.2.2.1 X e.symm; omega
     have hvB : some B ≠ v.ownBlock := fun e => by obtain ⟨cs, hcs⟩ := own_kind HX.out.2.1 e.symm; rw [gB] at hcs; cases hcs
     have hXV : X < VV.heap.size := lt_of_block gX
     have hpV : p < VV.heap.size := lt_of_block gp
     have hzl : zs.length ≤ 1099511627776 := by have := HLEN.out; omega
     replace HBl : Hid (Below w0.heap.size w0 VV.drew) := hid (bdrew HBl.out)
     replace HX : Hid (RowsX base H VV.drew v zs xs) := HX
     replace gp : VV.drew.heap[p]? = _ := gp
     replace gX : VV.drew.heap[X]? = _ := gX
     replace gB : VV.drew.heap[B]? = _ := gB
     replace x0 : VV.drew.cell? ⟨X, 0, none⟩ = _ := x0
     replace x2 : VV.drew.cell? ⟨X, 2, none⟩ = _ := x2
     replace x3 : VV.drew.cell? ⟨X, 3, none⟩ = _ := x3
     replace r0 : VV.drew.cell? ⟨p, 0, none⟩ = _ := r0
     replace hbz : base ≤ VV.drew.heap.size := hbz
     replace hXV : X < VV.drew.heap.size := hXV
     replace hpV : p < VV.drew.heap.size := hpV
     go_upto_region 9 with fail
     refine wp_region_held_drew (S := (fun w' => w'.cell? ⟨X, 0, none⟩ = some (.int .i64 id) ∧ w'.cell? ⟨X, 2, none⟩ = some (.int .i64 kd) ∧ w'.cell? ⟨X, 3, none⟩ = some (.slice (some ⟨b', o', none⟩) ps.length cap') ∧ w'.cell? ⟨p, 0, none⟩ = some (.int .i64 t))) (by kernel_rfl) ?_ (fun hHeld => ?_)
     ·(repeat' apply And.intro) <;> (repeat (first | with_reducible assumption | with_reducible refine keepset9 ?_ (by simp; try omega) | with_reducible refine keepdrew ?_ | with_reducible refine keepalloc ?_ _ | with_reducible refine keepcell hy ?_ | (refine hgrow.cell ?_ hvp) | (refine hgrow.cell ?_ hvX)))
     generalize VV.drew = V at *
     refine tkR ?_ 0 rfl (fun _ _ _ h => h) hHeld ?_ ?_
     rotate_left
     ·intro w hSw; (try dsimp only at hSw); go_simp; try (with_reducible rfl)
     try simp only [sq]
     refine tkR ?_ 1 rfl (fun _ _ _ h => h) hHeld ?_ ?_
     rotate_left
     ·intro w hSw; (try dsimp only at hSw); go_simp; try (with_reducible rfl)
     try simp only [sq]
     refine tkR ?_ 2 rfl (fun _ _ _ h => h) hHeld ?_ ?_
     rotate_left
     ·intro w hSw; (try dsimp only at hSw); go_simp; try (with_reducible rfl)
     try simp only [sq]
     refine tkR ?_ 3 rfl (fun _ _ _ h => h) hHeld ?_ ?_
     rotate_left
     ·intro w hSw; (try dsimp only at hSw); go_simp; try (with_reducible rfl)
     try simp only [sq]
     refine tkR ?_ 5 rfl (fun _ _ _ h => h) hHeld ?_ ?_
     rotate_left
     ·intro w hSw; (try dsimp only at hSw); go_simp; try (with_reducible rfl)
     try simp only [sq]
     refine tkR ?_ 6 rfl (fun _ _ _ h => h) hHeld ?_ ?_
     rotate_left
     ·intro w hSw; (try dsimp only at hSw); go_simp; try (with_reducible rfl)
     try simp only [sq]
     refine tkR ?_ 7 rfl (fun _ _ _ h => h) hHeld ?_ ?_
     rotate_left
     ·intro w hSw; (try dsimp only at hSw); go_simp; try (with_reducible rfl)
     try simp only [sq]
     refine tkR ?_ 8 rfl (fun _ _ _ h => h) hHeld ?_ ?_
     rotate_left
     ·intro w hSw; (try dsimp only at hSw); go_simp; try (with_reducible rfl)
     try simp only [sq]
     refine tkR ?_ 9 rfl (fun _ _ _ h => h) hHeld ?_ ?_
     rotate_left
     ·intro w hSw; (try dsimp only at hSw); go_simp; try (with_reducible rfl)
     try simp only [sq]
     refine tkR ?_ 10 rfl (fun _ _ _ h => h) hHeld ?_ ?_
     rotate_left
     ·intro w hSw; (try dsimp only at hSw); go_simp; try (with_reducible rfl)
     try simp only [sq]
     refine tkR ?_ 11 rfl (fun _ _ _ h => h) hHeld ?_ ?_
     rotate_left
     ·intro w hSw; (try dsimp only at hSw); go_simp; try (with_reducible rfl)
     try simp only [sq]
     refine tkR ?_ 12 rfl (fun _ _ _ h => h) hHeld ?_ ?_
     rotate_left
     ·intro w hSw; (try dsimp only at hSw); go_simp; try (with_reducible rfl)
     try simp only [sq]
     refine wpAnyH_ready (rs := [4, 13]) (by kernel_rfl) (by simp) ?_
     refine (AllReadyH.cons rfl (fun K hK => ?_) (AllReadyH.cons rfl (fun K hK => ?_) AllReadyH.nil))
     ·skip
      try simp only [sq]
      obtain ⟨q0, q1, _, _⟩ := cell2f gp
      go_simp
      refine hK.out _ _ ?_ (fun hHeld => ?_)
      ·(repeat' apply And.intro) <;> (repeat (first | with_reducible assumption | with_reducible refine keepset9 ?_ (by simp; try omega) | with_reducible refine keepdrew ?_ | with_reducible refine keepalloc ?_ _ | with_reducible refine keepcell hy ?_ | (refine hgrow.cell ?_ hvp) | (refine hgrow.cell ?_ hvX)))
      clear hK K
      try simp only [sq]
      clear q0 q1
      refine rd1 13 rfl (fun K hK => ?_)
      try simp only [sq]
      go_simp
      go_at_call 91
      refine (HCP.out _ (Below.refl _ _)).mono ?_
      rintro e y ⟨g, cp, rfl, hcp, hgs, ho, hy⟩
      have gpy := keepheap2 hy gp
      go_wp2_with fail
      refine hK.out _ _ ?_ (fun hHeld => ?_)
      ·(repeat' apply And.intro) <;> (repeat (first | with_reducible assumption | with_reducible refine keepset9 ?_ (by simp; try omega) | with_reducible refine keepdrew ?_ | with_reducible refine keepalloc ?_ _ | with_reducible refine keepcell hy ?_ | (refine hgrow.cell ?_ hvp) | (refine hgrow.cell ?_ hvX)))
      clear hK K
      try simp only [sq]
      refine tkR ?_ 14 rfl (fun _ _ _ h => h) hHeld ?_ ?_
      rotate_left
      ·intro w hSw; (try dsimp only at hSw); go_simp; try (with_reducible rfl)
      try simp only [sq]
      refine rd1 15 rfl (fun K hK => ?_)
      try simp only [sq]
      go_simp
      refine hK.out _ _ ?_ (fun hHeld => ?_)
      ·(repeat' apply And.intro) <;> (repeat (first | with_reducible assumption | with_reducible refine keepset9 ?_ (by simp; try omega) | with_reducible refine keepdrew ?_ | with_reducible refine keepalloc ?_ _ | with_reducible refine keepcell hy ?_ | (refine hgrow.cell ?_ hvp) | (refine hgrow.cell ?_ hvX)))
      clear hK K
      try simp only [sq]
      have gpa : (y.alloc (.cells #[.int .i64 id, .int .i64 t, .int .i64 0, .int .i64 kd, .slice (some ⟨g, 0, none⟩) ps.length cp] 65)).heap[p]? = _ := old_alloc gpy
      refine rd1 16 rfl (fun K hK => ?_)
      have HXy := hid (HX.out.below hy)
      have hownY := HXy.out.2.1
      have hys := hy.size
      refine step_append_lies _ (by rfl) _ _ _ (by rfl) base 65 i0 _ 5 56 Tryz.underlying30 hi0 hz0 hz1 hz2 rfl (by omega) v zs.length (flat5 xs) (by rfl) (hownY.alloc _) ⟨y.heap.size, 0, none⟩ 1 1 (ev (elR (id, t, 0, kd, ps) g cp)) (by rfl) (by rfl) (World.news_of_block (cs := #[.int .i64 id, .int .i64 t, .int .i64 0, .int .i64 kd, .slice (some ⟨g, 0, none⟩) ps.length cp]) (t := 65) (fr := (0, 0)) (heap_alloc_new y _)) (by simp [ev, elR, Value.oneCell']) (by omega) (by unfold maxLen; omega) (by omega) (by simp; omega) (y.heap.size + 1) (by simp) ?_
      intro gg cq w2 hown2 hgrow hat hlt2
      refine hK.out _ _ ?_ (fun hHeld => ?_)
      ·(repeat' apply And.intro) <;> (repeat (first | with_reducible assumption | with_reducible refine keepset9 ?_ (by simp; try omega) | with_reducible refine keepdrew ?_ | with_reducible refine keepalloc ?_ _ | with_reducible refine keepcell hy ?_ | (refine hgrow.cell ?_ hvp) | (refine hgrow.cell ?_ hvX)))
      clear hK K
      try simp only [sq]
      have g2 := (hgrow.block p (by simp; omega) hvp).trans gpa
      obtain ⟨t0, t1, s0, s1⟩ := cell2f g2
      refine tkR ?_ 17 rfl (fun _ _ _ h => h) hHeld ?_ ?_
      rotate_left
      ·intro w hSw; (try dsimp only at hSw); go_simp; try (with_reducible rfl)
      try simp only [sq]
      refine tkR ?_ 18 rfl (fun _ _ _ h => h) hHeld ?_ ?_
      rotate_left
      ·intro w hSw; (try dsimp only at hSw); go_simp; try (with_reducible rfl)
      try simp only [sq]
      refine rd1 19 rfl (fun K hK => ?_)
      try simp only [sq]
      go_simp
      refine hK.out _ _ ?_ (fun hHeld => ?_)
      ·(repeat' apply And.intro) <;> (repeat (first | with_reducible assumption | with_reducible refine keepset9 ?_ (by simp; try omega) | with_reducible refine keepdrew ?_ | with_reducible refine keepalloc ?_ _ | with_reducible refine keepcell hy ?_ | (refine hgrow.cell ?_ hvp) | (refine hgrow.cell ?_ hvX)))
      clear hK K
      try simp only [sq]
      refine wpAnyH_done (by kernel_rfl) ?_ _
      have hal : Below y.heap.size y (y.alloc (.cells #[.int .i64 id, .int .i64 t, .int .i64 0, .int .i64 kd, .slice (some ⟨g, 0, none⟩) ps.length cp] 65)) := balloc (Below.refl _ _) _
      have hsn := RowsX.snoc (r := (id, t, 0, kd, ps)) (c := g) (cp := cp) (HXy.out.below hal) (by omega) (by omega) (by simp; have := ho.1; omega) hcp k6 (ho.below hal) hown2 hgrow (by simpa using hat) hlt2
      have hgp : gg ≠ p := by
       rcases hat with q | q
       ·exact fun e => HOf.out.1 (by rw [q, e])
       ·omega
      have hOf2 := HOf.out.snoc (r := (id, t, 0, kd, ps)) (c := g) (cp := cp) (g := gg) (n := zs.length + 1) (cap := cq) (by omega) hgp
      have hw2 := hgrow.size
      have hfar : ∀ b, b ≠ p → (w2.setCell ⟨p, 1, none⟩ (.slice (some ⟨gg, 0, none⟩) (zs.length + 1) cq)).heap[b]? = w2.heap[b]? := fun b hb => by rw [Below.heap_setCell _ _ _ _ (by dsimp only; omega)]
      have HF1 := hid ((hsn.but hOf2 (w' := w2.setCell ⟨p, 1, none⟩ (.slice (some ⟨gg, 0, none⟩) (zs.length + 1) cq)) (fun b _ h2 => hfar b h2) (by simp)).mono (hi' := (w2.setCell ⟨p, 1, none⟩ (.slice (some ⟨gg, 0, none⟩) (zs.length + 1) cq)).heap.size) (Nat.le_refl _) (by simp) (Nat.le_refl _))
      have HF2 := hid hOf2
      have HF3 : Hid ((w2.setCell ⟨p, 1, none⟩ (.slice (some ⟨gg, 0, none⟩) (zs.length + 1) cq)).heap[p]? = some (.cells #[.int .i64 t, (.slice (some ⟨gg, 0, none⟩) (zs.length + 1) cq)] 32 (0, 0))) := hid (set1r g2 _)
      have hb2 : Below w0.heap.size w0 w2 := Below.grown (balloc (btrans HBl.out hy) _) hgrow (by simp; omega) (fun b hb => by have := (hownY.lt b hb).1; omega)
      have HF5 := hid (bset hb2 (q := p) (k := 1) (by omega) (.slice (some ⟨gg, 0, none⟩) (zs.length + 1) cq))
      have HF4 := hid ((hfar B (by omega)).trans ((hgrow.block B (by simp; have := lt_of_block gB; omega) hvB).trans (old_alloc (keepheap2 hy gB))))
      have hs8 : base ≤ (w2.setCell ⟨p, 1, none⟩ (.slice (some ⟨gg, 0, none⟩) (zs.length + 1) cq)).heap.size := by simp at hw2 ⊢; omega
      rw [← HZS.out, HZE.out] at HF1
      clear hsn hown2 hgrow hal hownY hfar g2 t0 t1 s0 s1 hOf2 ho hy gp gpa gpy gX gB hHeld HXy
      go_wp2_with fail
      go_roundw
      case rel => exact ⟨i + 1, _, _, by go_num, by omega, HF1, HF2, HF3, HF4, hid hs8, HF5⟩
      case measure => simp [intOf]; omega
     ·skip
      try simp only [sq]
      go_simp
      go_at_call 91
      refine (HCP.out _ (Below.refl _ _)).mono ?_
      rintro e y ⟨g, cp, rfl, hcp, hgs, ho, hy⟩
      have gpy := keepheap2 hy gp
      go_wp2_with fail
      refine hK.out _ _ ?_ (fun hHeld => ?_)
      ·(repeat' apply And.intro) <;> (repeat (first | with_reducible assumption | with_reducible refine keepset9 ?_ (by simp; try omega) | with_reducible refine keepdrew ?_ | with_reducible refine keepalloc ?_ _ | with_reducible refine keepcell hy ?_ | (refine hgrow.cell ?_ hvp) | (refine hgrow.cell ?_ hvX)))
      clear hK K
      try simp only [sq]
      refine tkR ?_ 14 rfl (fun _ _ _ h => h) hHeld ?_ ?_
      rotate_left
      ·intro w hSw; (try dsimp only at hSw); go_simp; try (with_reducible rfl)
      try simp only [sq]
      refine wpAnyH_ready (rs := [4, 15]) (by kernel_rfl) (by simp) ?_
      refine (AllReadyH.cons rfl (fun K hK => ?_) (AllReadyH.cons rfl (fun K hK => ?_) AllReadyH.nil))
      ·skip
       try simp only [sq]
       obtain ⟨q0, q1, _, _⟩ := cell2f gpy
       go_simp
       refine hK.out _ _ ?_ (fun hHeld => ?_)
       ·(repeat' apply And.intro) <;> (repeat (first | with_reducible assumption | with_reducible refine keepset9 ?_ (by simp; try omega) | with_reducible refine keepdrew ?_ | with_reducible refine keepalloc ?_ _ | with_reducible refine keepcell hy ?_ | (refine hgrow.cell ?_ hvp) | (refine hgrow.cell ?_ hvX)))
       clear hK K
       try simp only [sq]
       clear q0 q1
       refine rd1 15 rfl (fun K hK => ?_)
       try simp only [sq]
       go_simp
       refine hK.out _ _ ?_ (fun hHeld => ?_)
       ·(repeat' apply And.intro) <;> (repeat (first | with_reducible assumption | with_reducible refine keepset9 ?_ (by simp; try omega) | with_reducible refine keepdrew ?_ | with_reducible refine keepalloc ?_ _ | with_reducible refine keepcell hy ?_ | (refine hgrow.cell ?_ hvp) | (refine hgrow.cell ?_ hvX)))
       clear hK K
       try simp only [sq]
       have gpa : (y.alloc (.cells #[.int .i64 id, .int .i64 t, .int .i64 0, .int .i64 kd, .slice (some ⟨g, 0, none⟩) ps.length cp] 65)).heap[p]? = _ := old_alloc gpy
       refine rd1 16 rfl (fun K hK => ?_)
       have HXy := hid (HX.out.below hy)
       have hownY := HXy.out.2.1
       have hys := hy.size
       refine step_append_lies _ (by rfl) _ _ _ (by rfl) base 65 i0 _ 5 56 Tryz.underlying30 hi0 hz0 hz1 hz2 rfl (by omega) v zs.length (flat5 xs) (by rfl) (hownY.alloc _) ⟨y.heap.size, 0, none⟩ 1 1 (ev (elR (id, t, 0, kd, ps) g cp)) (by rfl) (by rfl) (World.news_of_block (cs := #[.int .i64 id, .int .i64 t, .int .i64 0, .int .i64 kd, .slice (some ⟨g, 0, none⟩) ps.length cp]) (t := 65) (fr := (0, 0)) (heap_alloc_new y _)) (by simp [ev, elR, Value.oneCell']) (by omega) (by unfold maxLen; omega) (by omega) (by simp; omega) (y.heap.size + 1) (by simp) ?_
       intro gg cq w2 hown2 hgrow hat hlt2
       refine hK.out _ _ ?_ (fun hHeld => ?_)
       ·(repeat' apply And.intro) <;> (repeat (first | with_reducible assumption | with_reducible refine keepset9 ?_ (by simp; try omega) | with_reducible refine keepdrew ?_ | with_reducible refine keepalloc ?_ _ | with_reducible refine keepcell hy ?_ | (refine hgrow.cell ?_ hvp) | (refine hgrow.cell ?_ hvX)))
       clear hK K
       try simp only [sq]
       have g2 := (hgrow.block p (by simp; omega) hvp).trans gpa
       obtain ⟨t0, t1, s0, s1⟩ := cell2f g2
       refine tkR ?_ 17 rfl (fun _ _ _ h => h) hHeld ?_ ?_
       rotate_left
       ·intro w hSw; (try dsimp only at hSw); go_simp; try (with_reducible rfl)
       try simp only [sq]
       refine tkR ?_ 18 rfl (fun _ _ _ h => h) hHeld ?_ ?_
       rotate_left
       ·intro w hSw; (try dsimp only at hSw); go_simp; try (with_reducible rfl)
       try simp only [sq]
       refine rd1 19 rfl (fun K hK => ?_)
       try simp only [sq]
       go_simp
       refine hK.out _ _ ?_ (fun hHeld => ?_)
       ·(repeat' apply And.intro) <;> (repeat (first | with_reducible assumption | with_reducible refine keepset9 ?_ (by simp; try omega) | with_reducible refine keepdrew ?_ | with_reducible refine keepalloc ?_ _ | with_reducible refine keepcell hy ?_ | (refine hgrow.cell ?_ hvp) | (refine hgrow.cell ?_ hvX)))
       clear hK K
       try simp only [sq]
       refine wpAnyH_done (by kernel_rfl) ?_ _
       have hal : Below y.heap.size y (y.alloc (.cells #[.int .i64 id, .int .i64 t, .int .i64 0, .int .i64 kd, .slice (some ⟨g, 0, none⟩) ps.length cp] 65)) := balloc (Below.refl _ _) _
       have hsn := RowsX.snoc (r := (id, t, 0, kd, ps)) (c := g) (cp := cp) (HXy.out.below hal) (by omega) (by omega) (by simp; have := ho.1; omega) hcp k6 (ho.below hal) hown2 hgrow (by simpa using hat) hlt2
       have hgp : gg ≠ p := by
        rcases hat with q | q
        ·exact fun e => HOf.out.1 (by rw [q, e])
        ·omega
       have hOf2 := HOf.out.snoc (r := (id, t, 0, kd, ps)) (c := g) (cp := cp) (g := gg) (n := zs.length + 1) (cap := cq) (by omega) hgp
       have hw2 := hgrow.size
       have hfar : ∀ b, b ≠ p → (w2.setCell ⟨p, 1, none⟩ (.slice (some ⟨gg, 0, none⟩) (zs.length + 1) cq)).heap[b]? = w2.heap[b]? := fun b hb => by rw [Below.heap_setCell _ _ _ _ (by dsimp only; omega)]
       have HF1 := hid ((hsn.but hOf2 (w' := w2.setCell ⟨p, 1, none⟩ (.slice (some ⟨gg, 0, none⟩) (zs.length + 1) cq)) (fun b _ h2 => hfar b h2) (by simp)).mono (hi' := (w2.setCell ⟨p, 1, none⟩ (.slice (some ⟨gg, 0, none⟩) (zs.length + 1) cq)).heap.size) (Nat.le_refl _) (by simp) (Nat.le_refl _))
       have HF2 := hid hOf2
       have HF3 : Hid ((w2.setCell ⟨p, 1, none⟩ (.slice (some ⟨gg, 0, none⟩) (zs.length + 1) cq)).heap[p]? = some (.cells #[.int .i64 t, (.slice (some ⟨gg, 0, none⟩) (zs.length + 1) cq)] 32 (0, 0))) := hid (set1r g2 _)
       have hb2 : Below w0.heap.size w0 w2 := Below.grown (balloc (btrans HBl.out hy) _) hgrow (by simp; omega) (fun b hb => by have := (hownY.lt b hb).1; omega)
       have HF5 := hid (bset hb2 (q := p) (k := 1) (by omega) (.slice (some ⟨gg, 0, none⟩) (zs.length + 1) cq))
       have HF4 := hid ((hfar B (by omega)).trans ((hgrow.block B (by simp; have := lt_of_block gB; omega) hvB).trans (old_alloc (keepheap2 hy gB))))
       have hs8 : base ≤ (w2.setCell ⟨p, 1, none⟩ (.slice (some ⟨gg, 0, none⟩) (zs.length + 1) cq)).heap.size := by simp at hw2 ⊢; omega
       rw [← HZS.out, HZE.out] at HF1
       clear hsn hown2 hgrow hal hownY hfar g2 t0 t1 s0 s1 hOf2 ho hy gp gpa gpy gX gB hHeld HXy
       go_wp2_with fail
       go_roundw
       case rel => exact ⟨i + 1, _, _, by go_num, by omega, HF1, HF2, HF3, HF4, hid hs8, HF5⟩
       case measure => simp [intOf]; omega
      ·skip
       try simp only [sq]
       go_simp
       refine hK.out _ _ ?_ (fun hHeld => ?_)
       ·(repeat' apply And.intro) <;> (repeat (first | with_reducible assumption | with_reducible refine keepset9 ?_ (by simp; try omega) | with_reducible refine keepdrew ?_ | with_reducible refine keepalloc ?_ _ | with_reducible refine keepcell hy ?_ | (refine hgrow.cell ?_ hvp) | (refine hgrow.cell ?_ hvX)))
       clear hK K
       try simp only [sq]
       have gpa : (y.alloc (.cells #[.int .i64 id, .int .i64 t, .int .i64 0, .int .i64 kd, .slice (some ⟨g, 0, none⟩) ps.length cp] 65)).heap[p]? = _ := old_alloc gpy
       refine rd1 4 rfl (fun K hK => ?_)
       try simp only [sq]
       obtain ⟨q0, q1, _, _⟩ := cell2f gpa
       go_simp
       refine hK.out _ _ ?_ (fun hHeld => ?_)
       ·(repeat' apply And.intro) <;> (repeat (first | with_reducible assumption | with_reducible refine keepset9 ?_ (by simp; try omega) | with_reducible refine keepdrew ?_ | with_reducible refine keepalloc ?_ _ | with_reducible refine keepcell hy ?_ | (refine hgrow.cell ?_ hvp) | (refine hgrow.cell ?_ hvX)))
       clear hK K
       try simp only [sq]
       clear q0 q1
       refine rd1 16 rfl (fun K hK => ?_)
       have HXy := hid (HX.out.below hy)
       have hownY := HXy.out.2.1
       have hys := hy.size
       refine step_append_lies _ (by rfl) _ _ _ (by rfl) base 65 i0 _ 5 56 Tryz.underlying30 hi0 hz0 hz1 hz2 rfl (by omega) v zs.length (flat5 xs) (by rfl) (hownY.alloc _) ⟨y.heap.size, 0, none⟩ 1 1 (ev (elR (id, t, 0, kd, ps) g cp)) (by rfl) (by rfl) (World.news_of_block (cs := #[.int .i64 id, .int .i64 t, .int .i64 0, .int .i64 kd, .slice (some ⟨g, 0, none⟩) ps.length cp]) (t := 65) (fr := (0, 0)) (heap_alloc_new y _)) (by simp [ev, elR, Value.oneCell']) (by omega) (by unfold maxLen; omega) (by omega) (by simp; omega) (y.heap.size + 1) (by simp) ?_
       intro gg cq w2 hown2 hgrow hat hlt2
       refine hK.out _ _ ?_ (fun hHeld => ?_)
       ·(repeat' apply And.intro) <;> (repeat (first | with_reducible assumption | with_reducible refine keepset9 ?_ (by simp; try omega) | with_reducible refine keepdrew ?_ | with_reducible refine keepalloc ?_ _ | with_reducible refine keepcell hy ?_ | (refine hgrow.cell ?_ hvp) | (refine hgrow.cell ?_ hvX)))
       clear hK K
       try simp only [sq]
       have g2 := (hgrow.block p (by simp; omega) hvp).trans gpa
       obtain ⟨t0, t1, s0, s1⟩ := cell2f g2
       refine tkR ?_ 17 rfl (fun _ _ _ h => h) hHeld ?_ ?_
       rotate_left
       ·intro w hSw; (try dsimp only at hSw); go_simp; try (with_reducible rfl)
       try simp only [sq]
       refine tkR ?_ 18 rfl (fun _ _ _ h => h) hHeld ?_ ?_
       rotate_left
       ·intro w hSw; (try dsimp only at hSw); go_simp; try (with_reducible rfl)
       try simp only [sq]
       refine rd1 19 rfl (fun K hK => ?_)
       try simp only [sq]
       go_simp
       refine hK.out _ _ ?_ (fun hHeld => ?_)
       ·(repeat' apply And.intro) <;> (repeat (first | with_reducible assumption | with_reducible refine keepset9 ?_ (by simp; try omega) | with_reducible refine keepdrew ?_ | with_reducible refine keepalloc ?_ _ | with_reducible refine keepcell hy ?_ | (refine hgrow.cell ?_ hvp) | (refine hgrow.cell ?_ hvX)))
       clear hK K
       try simp only [sq]
       refine wpAnyH_done (by kernel_rfl) ?_ _
       have hal : Below y.heap.size y (y.alloc (.cells #[.int .i64 id, .int .i64 t, .int .i64 0, .int .i64 kd, .slice (some ⟨g, 0, none⟩) ps.length cp] 65)) := balloc (Below.refl _ _) _
       have hsn := RowsX.snoc (r := (id, t, 0, kd, ps)) (c := g) (cp := cp) (HXy.out.below hal) (by omega) (by omega) (by simp; have := ho.1; omega) hcp k6 (ho.below hal) hown2 hgrow (by simpa using hat) hlt2
       have hgp : gg ≠ p := by
        rcases hat with q | q
        ·exact fun e => HOf.out.1 (by rw [q, e])
        ·omega
       have hOf2 := HOf.out.snoc (r := (id, t, 0, kd, ps)) (c := g) (cp := cp) (g := gg) (n := zs.length + 1) (cap := cq) (by omega) hgp
       have hw2 := hgrow.size
       have hfar : ∀ b, b ≠ p → (w2.setCell ⟨p, 1, none⟩ (.slice (some ⟨gg, 0, none⟩) (zs.length + 1) cq)).heap[b]? = w2.heap[b]? := fun b hb => by rw [Below.heap_setCell _ _ _ _ (by dsimp only; omega)]
       have HF1 := hid ((hsn.but hOf2 (w' := w2.setCell ⟨p, 1, none⟩ (.slice (some ⟨gg, 0, none⟩) (zs.length + 1) cq)) (fun b _ h2 => hfar b h2) (by simp)).mono (hi' := (w2.setCell ⟨p, 1, none⟩ (.slice (some ⟨gg, 0, none⟩) (zs.length + 1) cq)).heap.size) (Nat.le_refl _) (by simp) (Nat.le_refl _))
       have HF2 := hid hOf2
       have HF3 : Hid ((w2.setCell ⟨p, 1, none⟩ (.slice (some ⟨gg, 0, none⟩) (zs.length + 1) cq)).heap[p]? = some (.cells #[.int .i64 t, (.slice (some ⟨gg, 0, none⟩) (zs.length + 1) cq)] 32 (0, 0))) := hid (set1r g2 _)
       have hb2 : Below w0.heap.size w0 w2 := Below.grown (balloc (btrans HBl.out hy) _) hgrow (by simp; omega) (fun b hb => by have := (hownY.lt b hb).1; omega)
       have HF5 := hid (bset hb2 (q := p) (k := 1) (by omega) (.slice (some ⟨gg, 0, none⟩) (zs.length + 1) cq))
       have HF4 := hid ((hfar B (by omega)).trans ((hgrow.block B (by simp; have := lt_of_block gB; omega) hvB).trans (old_alloc (keepheap2 hy gB))))
       have hs8 : base ≤ (w2.setCell ⟨p, 1, none⟩ (.slice (some ⟨gg, 0, none⟩) (zs.length + 1) cq)).heap.size := by simp at hw2 ⊢; omega
       rw [← HZS.out, HZE.out] at HF1
       clear hsn hown2 hgrow hal hownY hfar g2 t0 t1 s0 s1 hOf2 ho hy gp gpa gpy gX gB hHeld HXy
       go_wp2_with fail
       go_roundw
       case rel => exact ⟨i + 1, _, _, by go_num, by omega, HF1, HF2, HF3, HF4, hid hs8, HF5⟩
       case measure => simp [intOf]; omega
   ·obtain ⟨jm, hjm, em1, em2, em3⟩ := HM1.out rfl
    have hkc : kc = (jm : Int) := by rw [hat0] at em3; injection em3 with e; injection e
    subst hkc
    obtain ⟨hlz, hset⟩ := HYj.out jm hjm em1 em2
    rw [hset] at HS1
    have HZG : Hid (gone = true → zn = z0.set jm (rwT t z0[jm])) := hid (fun h => by rw [HS1.out, h]; simp)
    have HZN : Hid (gone = false → zn = z0.set jm (rwT t z0[jm]) ++ [(id, t, 0, kd, ps)]) := hid (fun h => by rw [HS1.out, h]; rfl)
    clear HS1 HM1 HM2 HN1 HYj hat0 x0 x1 x2 x3 em1 em2 em3 hset hjm
    rcases HX.out.rows with ⟨h, _⟩ | ⟨g, vc, hv, hg1, hg2, hg3, hg4, hth, _⟩
    ·rw [h] at hlz; simp at hlz
    subst hv
    have hlx : jm < xs.length := by rw [HX.out.1]; exact hlz
    obtain ⟨hu0, hfz⟩ := hth (jm * 5 + 2) (by omega)
    rw [Nat.zero_add] at hu0 hfz
    obtain ⟨u, hu⟩ := Option.isSome_iff_exists.1 hu0
    have hgp : g ≠ p := fun e => HOf.out.1 (by rw [← e]; rfl)
    have hgX : g ≠ X := by omega
    have hgB : g ≠ B := fun e => by obtain ⟨q, hq⟩ := own_kind HX.out.2.1 (g := g) rfl; rw [e, gB] at hq; cases hq
    have hj0 : (0 : Int) ≤ (jm : Int) := by omega
    have hj1 : (jm : Int) < (z0.length : Int) := by omega
    obtain ⟨r0, r1, _, _⟩ := cell2f gp
    replace r0 : VV.drew.cell? ⟨p, 0, none⟩ = _ := r0
    replace r1 : VV.drew.cell? ⟨p, 1, none⟩ = _ := r1
    replace hu : VV.drew.cell? ⟨g, jm * 5 + 2, none⟩ = _ := hu
    replace hfz : VV.drew.frozen? ⟨g, jm * 5 + 2, none⟩ = false := hfz
    replace HX : Hid (RowsX base H VV.drew _ z0 xs) := HX
    replace HBl : Hid (Below w0.heap.size w0 VV.drew) := hid (bdrew HBl.out)
    replace gp : VV.drew.heap[p]? = _ := gp
    replace gX : VV.drew.heap[X]? = _ := gX
    replace gB : VV.drew.heap[B]? = _ := gB
    replace hbz : base ≤ VV.drew.heap.size := hbz
    clear hth hu0 hg3
    go_upto_region 7 with fail
    refine wp_region_held_drew (S := (fun w' => w'.cell? ⟨p, 0, none⟩ = some (.int .i64 t) ∧ w'.cell? ⟨p, 1, none⟩ = some (.slice (some ⟨g, 0, none⟩) z0.length vc))) (by kernel_rfl) ?_ (fun hHeld => ?_)
    ·(repeat' apply And.intro) <;> (with_reducible repeat (first | assumption | refine keepsetB ?_ hgp | refine keepdrew ?_))
    generalize VV.drew = V at *
    refine tkR ?_ 0 rfl (fun _ _ _ h => h) hHeld ?_ ?_
    rotate_left
    ·intro w hSw; (try dsimp only at hSw); go_simp; try (with_reducible rfl)
    try simp only [sq]
    refine tkR ?_ 1 rfl (fun _ _ _ h => h) hHeld ?_ ?_
    rotate_left
    ·intro w hSw; (try dsimp only at hSw); go_simp; try (with_reducible rfl)
    try simp only [sq]
    refine tkR ?_ 2 rfl (fun _ _ _ h => h) hHeld ?_ ?_
    rotate_left
    ·intro w hSw; (try dsimp only at hSw); go_simp; try (with_reducible rfl)
    try simp only [sq]
    refine tkR ?_ 3 rfl (fun _ _ _ h => h) hHeld ?_ ?_
    rotate_left
    ·intro w hSw; (try dsimp only at hSw); go_simp; try (with_reducible rfl)
    try simp only [sq]
    refine tkR ?_ 4 rfl (fun _ _ _ h => h) hHeld ?_ ?_
    rotate_left
    ·intro w hSw; (try dsimp only at hSw); go_simp; try (with_reducible rfl)
    try simp only [sq]
    refine tkR ?_ 5 rfl (fun _ _ _ h => h) hHeld ?_ ?_
    rotate_left
    ·intro w hSw; (try dsimp only at hSw); go_simp; try (with_reducible rfl)
    try simp only [sq]
    refine tkR ?_ 6 rfl (fun _ _ _ h => h) hHeld ?_ ?_
    rotate_left
    ·intro w hSw; (try dsimp only at hSw); go_simp; try (with_reducible rfl)
    try simp only [sq]
    refine tkR ?_ 7 rfl (fun _ _ _ h => h) hHeld ?_ ?_
    rotate_left
    ·intro w hSw; (try dsimp only at hSw); go_simp; try (with_reducible rfl)
    try simp only [sq]
    refine tkR ?_ 8 rfl (fun _ _ _ h => h) hHeld ?_ ?_
    rotate_left
    ·intro w hSw; (try dsimp only at hSw); go_simp; try (with_reducible rfl)
    try simp only [sq]
    refine tkR ?_ 9 rfl (fun _ _ _ h => h) hHeld ?_ ?_
    rotate_left
    ·intro w hSw; (try dsimp only at hSw); go_simp; try (with_reducible rfl)
    try simp only [sq]
    refine tkR ?_ 10 rfl (fun _ _ _ h => h) hHeld ?_ ?_
    rotate_left
    ·intro w hSw; (try dsimp only at hSw); go_simp; try (with_reducible rfl)
    try simp only [sq]
    refine rd1 11 rfl (fun K hK => ?_)
    try simp only [sq]
    go_simp
    refine hK.out _ _ ?_ (fun hHeld => ?_)
    ·(repeat' apply And.intro) <;> (with_reducible repeat (first | assumption | refine keepsetB ?_ hgp | refine keepdrew ?_))
    clear hK K
    try simp only [sq]
    refine wpAnyH_done (by kernel_rfl) ?_ _
    have hfar : ∀ c, c ≠ g → (V.setCell ⟨g, jm * 5 + 2, none⟩ (.int .i64 t)).heap[c]? = V.heap[c]? := fun c hc => by rw [Below.heap_setCell _ _ _ _ (by dsimp only; omega)]
    replace HX := hid (HX.out.setTo hlz t)
    replace HOf := hid (HOf.out.setTo hlx t)
    replace gp := (hfar p (fun e => hgp e.symm)).trans gp
    replace gX := (hfar X (fun e => hgX e.symm)).trans gX
    replace gB := (hfar B (fun e => hgB e.symm)).trans gB
    replace HBl := hid (bset HBl.out (q := g) (k := jm * 5 + 2) (by omega) (.int .i64 t))
    replace HLEN : Hid ((z0.set jm (rwT t z0[jm])).length ≤ 300) := hid (by rw [List.length_set]; exact HLEN.out)
    replace hbz : base ≤ (V.setCell ⟨g, jm * 5 + 2, none⟩ (.int .i64 t)).heap.size := by simpa using hbz
    clear hfar r0 r1 hu hfz hHeld
    generalize V.setCell ⟨g, jm * 5 + 2, none⟩ (.int .i64 t) = VV at *
    generalize z0.set jm (rwT t z0[jm]) = zs at *
    generalize xs.set jm (elT t xs[jm]) = xs at *
    generalize (Value.slice (some ⟨g, 0, none⟩) z0.length vc) = v at *
    obtain ⟨⟨x0, x1, x2, x3⟩, _⟩ := cellk4 gX
    cases gone
    rotate_left
    ·have HZ1 := hid (HZG.out rfl)
     have HF1 := hid (HX.out.mono (hi' := VV.heap.size) (Nat.le_refl _) HX.out.2.2.2.1 (Nat.le_refl _))
     rw [← HZ1.out, HZE.out] at HF1
     go_wp2_with fail
     go_roundw
     case rel => exact ⟨i + 1, _, _, by go_num, by omega, HF1, HOf, hid gp, hid gB, hid hbz, HBl⟩
     case measure => simp [intOf]; omega
    ·have HZS := hid (HZN.out rfl)
     obtain ⟨b', o', rfl, hb's, hpts⟩ := HPT.out rfl
     have HCP := hid (fun (W : World) (hb : Below VV.drew.heap.size VV.drew W) => impl_copyG kd b' o' cap' ps W k6 (hpts.below (btrans (bdrew HBl.out) hb)) (Nat.lt_of_lt_of_le hb's (btrans (bdrew HBl.out) hb).size))
     unfold CP at HCP
     obtain ⟨r0, r1, _, _⟩ := cell2f gp
     have hvp : some p ≠ v.ownBlock := fun e => HOf.out.1 e.symm
     have hvX : some X ≠ v.ownBlock := fun e => by have := HX.out.2.2.1 X e.symm; omega
     have hvB : some B ≠ v.ownBlock := fun e => by obtain ⟨cs, hcs⟩ := own_kind HX.out.2.1 e.symm; rw [gB] at hcs; cases hcs
     have hXV : X < VV.heap.size := lt_of_block gX
     have hpV : p < VV.heap.size := lt_of_block gp
     have hzl : zs.length ≤ 1099511627776 := by have := HLEN.out; omega
     replace HBl : Hid (Below w0.heap.size w0 VV.drew) := hid (bdrew HBl.out)
     replace HX : Hid (RowsX base H VV.drew v zs xs) := HX
     replace gp : VV.drew.heap[p]? = _ := gp
     replace gX : VV.drew.heap[X]? = _ := gX
     replace gB : VV.drew.heap[B]? = _ := gB
     replace x0 : VV.drew.cell? ⟨X, 0, none⟩ = _ := x0
     replace x2 : VV.drew.cell? ⟨X, 2, none⟩ = _ := x2
     replace x3 : VV.drew.cell? ⟨X, 3, none⟩ = _ := x3
     replace r0 : VV.drew.cell? ⟨p, 0, none⟩ = _ := r0
     replace hbz : base ≤ VV.drew.heap.size := hbz
     replace hXV : X < VV.drew.heap.size := hXV
     replace hpV : p < VV.drew.heap.size := hpV
     go_upto_region 9 with fail
     refine wp_region_held_drew (S := (fun w' => w'.cell? ⟨X, 0, none⟩ = some (.int .i64 id) ∧ w'.cell? ⟨X, 2, none⟩ = some (.int .i64 kd) ∧ w'.cell? ⟨X, 3, none⟩ = some (.slice (some ⟨b', o', none⟩) ps.length cap') ∧ w'.cell? ⟨p, 0, none⟩ = some (.int .i64 t))) (by kernel_rfl) ?_ (fun hHeld => ?_)
     ·(repeat' apply And.intro) <;> (repeat (first | with_reducible assumption | with_reducible refine keepset9 ?_ (by simp; try omega) | with_reducible refine keepdrew ?_ | with_reducible refine keepalloc ?_ _ | with_reducible refine keepcell hy ?_ | (refine hgrow.cell ?_ hvp) | (refine hgrow.cell ?_ hvX)))
     generalize VV.drew = V at *
     refine tkR ?_ 0 rfl (fun _ _ _ h => h) hHeld ?_ ?_
     rotate_left
     ·intro w hSw; (try dsimp only at hSw); go_simp; try (with_reducible rfl)
     try simp only [sq]
     refine tkR ?_ 1 rfl (fun _ _ _ h => h) hHeld ?_ ?_
     rotate_left
     ·intro w hSw; (try dsimp only at hSw); go_simp; try (with_reducible rfl)
     try simp only [sq]
     refine tkR ?_ 2 rfl (fun _ _ _ h => h) hHeld ?_ ?_
     rotate_left
     ·intro w hSw; (try dsimp only at hSw); go_simp; try (with_reducible rfl)
     try simp only [sq]
     refine tkR ?_ 3 rfl (fun _ _ _ h => h) hHeld ?_ ?_
     rotate_left
     ·intro w hSw; (try dsimp only at hSw); go_simp; try (with_reducible rfl)
     try simp only [sq]
     refine tkR ?_ 5 rfl (fun _ _ _ h => h) hHeld ?_ ?_
     rotate_left
     ·intro w hSw; (try dsimp only at hSw); go_simp; try (with_reducible rfl)
     try simp only [sq]
     refine tkR ?_ 6 rfl (fun _ _ _ h => h) hHeld ?_ ?_
     rotate_left
     ·intro w hSw; (try dsimp only at hSw); go_simp; try (with_reducible rfl)
     try simp only [sq]
     refine tkR ?_ 7 rfl (fun _ _ _ h => h) hHeld ?_ ?_
     rotate_left
     ·intro w hSw; (try dsimp only at hSw); go_simp; try (with_reducible rfl)
     try simp only [sq]
     refine tkR ?_ 8 rfl (fun _ _ _ h => h) hHeld ?_ ?_
     rotate_left
     ·intro w hSw; (try dsimp only at hSw); go_simp; try (with_reducible rfl)
     try simp only [sq]
     refine tkR ?_ 9 rfl (fun _ _ _ h => h) hHeld ?_ ?_
     rotate_left
     ·intro w hSw; (try dsimp only at hSw); go_simp; try (with_reducible rfl)
     try simp only [sq]
     refine tkR ?_ 10 rfl (fun _ _ _ h => h) hHeld ?_ ?_
     rotate_left
     ·intro w hSw; (try dsimp only at hSw); go_simp; try (with_reducible rfl)
     try simp only [sq]
     refine tkR ?_ 11 rfl (fun _ _ _ h => h) hHeld ?_ ?_
     rotate_left
     ·intro w hSw; (try dsimp only at hSw); go_simp; try (with_reducible rfl)
     try simp only [sq]
     refine tkR ?_ 12 rfl (fun _ _ _ h => h) hHeld ?_ ?_
     rotate_left
     ·intro w hSw; (try dsimp only at hSw); go_simp; try (with_reducible rfl)
     try simp only [sq]
     refine wpAnyH_ready (rs := [4, 13]) (by kernel_rfl) (by simp) ?_
     refine (AllReadyH.cons rfl (fun K hK => ?_) (AllReadyH.cons rfl (fun K hK => ?_) AllReadyH.nil))
     ·skip
      try simp only [sq]
      obtain ⟨q0, q1, _, _⟩ := cell2f gp
      go_simp
      refine hK.out _ _ ?_ (fun hHeld => ?_)
      ·(repeat' apply And.intro) <;> (repeat (first | with_reducible assumption | with_reducible refine keepset9 ?_ (by simp; try omega) | with_reducible refine keepdrew ?_ | with_reducible refine keepalloc ?_ _ | with_reducible refine keepcell hy ?_ | (refine hgrow.cell ?_ hvp) | (refine hgrow.cell ?_ hvX)))
      clear hK K
      try simp only [sq]
      clear q0 q1
      refine rd1 13 rfl (fun K hK => ?_)
      try simp only [sq]
      go_simp
      go_at_call 91
      refine (HCP.out _ (Below.refl _ _)).mono ?_
      rintro e y ⟨g, cp, rfl, hcp, hgs, ho, hy⟩
      have gpy := keepheap2 hy gp
      go_wp2_with fail
      refine hK.out _ _ ?_ (fun hHeld => ?_)
      ·(repeat' apply And.intro) <;> (repeat (first | with_reducible assumption | with_reducible refine keepset9 ?_ (by simp; try omega) | with_reducible refine keepdrew ?_ | with_reducible refine keepalloc ?_ _ | with_reducible refine keepcell hy ?_ | (refine hgrow.cell ?_ hvp) | (refine hgrow.cell ?_ hvX)))
      clear hK K
      try simp only [sq]
      refine tkR ?_ 14 rfl (fun _ _ _ h => h) hHeld ?_ ?_
      rotate_left
      ·intro w hSw; (try dsimp only at hSw); go_simp; try (with_reducible rfl)
      try simp only [sq]
      refine rd1 15 rfl (fun K hK => ?_)
      try simp only [sq]
      go_simp
      refine hK.out _ _ ?_ (fun hHeld => ?_)
      ·(repeat' apply And.intro) <;> (repeat (first | with_reducible assumption | with_reducible refine keepset9 ?_ (by simp; try omega) | with_reducible refine keepdrew ?_ | with_reducible refine keepalloc ?_ _ | with_reducible refine keepcell hy ?_ | (refine hgrow.cell ?_ hvp) | (refine hgrow.cell ?_ hvX)))
      clear hK K
      try simp only [sq]
      have gpa : (y.alloc (.cells #[.int .i64 id, .int .i64 t, .int .i64 0, .int .i64 kd, .slice (some ⟨g, 0, none⟩) ps.length cp] 65)).heap[p]? = _ := old_alloc gpy
      refine rd1 16 rfl (fun K hK => ?_)
      have HXy := hid (HX.out.below hy)
      have hownY := HXy.out.2.1
      have hys := hy.size
      refine step_append_lies _ (by rfl) _ _ _ (by rfl) base 65 i0 _ 5 56 Tryz.underlying30 hi0 hz0 hz1 hz2 rfl (by omega) v zs.length (flat5 xs) (by rfl) (hownY.alloc _) ⟨y.heap.size, 0, none⟩ 1 1 (ev (elR (id, t, 0, kd, ps) g cp)) (by rfl) (by rfl) (World.news_of_block (cs := #[.int .i64 id, .int .i64 t, .int .i64 0, .int .i64 kd, .slice (some ⟨g, 0, none⟩) ps.length cp]) (t := 65) (fr := (0, 0)) (heap_alloc_new y _)) (by simp [ev, elR, Value.oneCell']) (by omega) (by unfold maxLen; omega) (by omega) (by simp; omega) (y.heap.size + 1) (by simp) ?_
      intro gg cq w2 hown2 hgrow hat hlt2
      refine hK.out _ _ ?_ (fun hHeld => ?_)
      ·(repeat' apply And.intro) <;> (repeat (first | with_reducible assumption | with_reducible refine keepset9 ?_ (by simp; try omega) | with_reducible refine keepdrew ?_ | with_reducible refine keepalloc ?_ _ | with_reducible refine keepcell hy ?_ | (refine hgrow.cell ?_ hvp) | (refine hgrow.cell ?_ hvX)))
      clear hK K
      try simp only [sq]
      have g2 := (hgrow.block p (by simp; omega) hvp).trans gpa
      obtain ⟨t0, t1, s0, s1⟩ := cell2f g2
      refine tkR ?_ 17 rfl (fun _ _ _ h => h) hHeld ?_ ?_
      rotate_left
      ·intro w hSw; (try dsimp only at hSw); go_simp; try (with_reducible rfl)
      try simp only [sq]
      refine tkR ?_ 18 rfl (fun _ _ _ h => h) hHeld ?_ ?_
      rotate_left
      ·intro w hSw; (try dsimp only at hSw); go_simp; try (with_reducible rfl)
      try simp only [sq]
      refine rd1 19 rfl (fun K hK => ?_)
      try simp only [sq]
      go_simp
      refine hK.out _ _ ?_ (fun hHeld => ?_)
      ·(repeat' apply And.intro) <;> (repeat (first | with_reducible assumption | with_reducible refine keepset9 ?_ (by simp; try omega) | with_reducible refine keepdrew ?_ | with_reducible refine keepalloc ?_ _ | with_reducible refine keepcell hy ?_ | (refine hgrow.cell ?_ hvp) | (refine hgrow.cell ?_ hvX)))
      clear hK K
      try simp only [sq]
      refine wpAnyH_done (by kernel_rfl) ?_ _
      have hal : Below y.heap.size y (y.alloc (.cells #[.int .i64 id, .int .i64 t, .int .i64 0, .int .i64 kd, .slice (some ⟨g, 0, none⟩) ps.length cp] 65)) := balloc (Below.refl _ _) _
      have hsn := RowsX.snoc (r := (id, t, 0, kd, ps)) (c := g) (cp := cp) (HXy.out.below hal) (by omega) (by omega) (by simp; have := ho.1; omega) hcp k6 (ho.below hal) hown2 hgrow (by simpa using hat) hlt2
      have hgp : gg ≠ p := by
       rcases hat with q | q
       ·exact fun e => HOf.out.1 (by rw [q, e])
       ·omega
      have hOf2 := HOf.out.snoc (r := (id, t, 0, kd, ps)) (c := g) (cp := cp) (g := gg) (n := zs.length + 1) (cap := cq) (by omega) hgp
      have hw2 := hgrow.size
      have hfar : ∀ b, b ≠ p → (w2.setCell ⟨p, 1, none⟩ (.slice (some ⟨gg, 0, none⟩) (zs.length + 1) cq)).heap[b]? = w2.heap[b]? := fun b hb => by rw [Below.heap_setCell _ _ _ _ (by dsimp only; omega)]
      have HF1 := hid ((hsn.but hOf2 (w' := w2.setCell ⟨p, 1, none⟩ (.slice (some ⟨gg, 0, none⟩) (zs.length + 1) cq)) (fun b _ h2 => hfar b h2) (by simp)).mono (hi' := (w2.setCell ⟨p, 1, none⟩ (.slice (some ⟨gg, 0, none⟩) (zs.length + 1) cq)).heap.size) (Nat.le_refl _) (by simp) (Nat.le_refl _))
      have HF2 := hid hOf2
      have HF3 : Hid ((w2.setCell ⟨p, 1, none⟩ (.slice (some ⟨gg, 0, none⟩) (zs.length + 1) cq)).heap[p]? = some (.cells #[.int .i64 t, (.slice (some ⟨gg, 0, none⟩) (zs.length + 1) cq)] 32 (0, 0))) := hid (set1r g2 _)
      have hb2 : Below w0.heap.size w0 w2 := Below.grown (balloc (btrans HBl.out hy) _) hgrow (by simp; omega) (fun b hb => by have := (hownY.lt b hb).1; omega)
      have HF5 := hid (bset hb2 (q := p) (k := 1) (by omega) (.slice (some ⟨gg, 0, none⟩) (zs.length + 1) cq))
      have HF4 := hid ((hfar B (by omega)).trans ((hgrow.block B (by simp; have := lt_of_block gB; omega) hvB).trans (old_alloc (keepheap2 hy gB))))
      have hs8 : base ≤ (w2.setCell ⟨p, 1, none⟩ (.slice (some ⟨gg, 0, none⟩) (zs.length + 1) cq)).heap.size := by simp at hw2 ⊢; omega
      rw [← HZS.out, HZE.out] at HF1
      clear hsn hown2 hgrow hal hownY hfar g2 t0 t1 s0 s1 hOf2 ho hy gp gpa gpy gX gB hHeld HXy
      go_wp2_with fail
      go_roundw
      case rel => exact ⟨i + 1, _, _, by go_num, by omega, HF1, HF2, HF3, HF4, hid hs8, HF5⟩
      case measure => simp [intOf]; omega
     ·skip
      try simp only [sq]
      go_simp
      go_at_call 91
      refine (HCP.out _ (Below.refl _ _)).mono ?_
      rintro e y ⟨g, cp, rfl, hcp, hgs, ho, hy⟩
      have gpy := keepheap2 hy gp
      go_wp2_with fail
      refine hK.out _ _ ?_ (fun hHeld => ?_)
      ·(repeat' apply And.intro) <;> (repeat (first | with_reducible assumption | with_reducible refine keepset9 ?_ (by simp; try omega) | with_reducible refine keepdrew ?_ | with_reducible refine keepalloc ?_ _ | with_reducible refine keepcell hy ?_ | (refine hgrow.cell ?_ hvp) | (refine hgrow.cell ?_ hvX)))
      clear hK K
      try simp only [sq]
      refine tkR ?_ 14 rfl (fun _ _ _ h => h) hHeld ?_ ?_
      rotate_left
      ·intro w hSw; (try dsimp only at hSw); go_simp; try (with_reducible rfl)
      try simp only [sq]
      refine wpAnyH_ready (rs := [4, 15]) (by kernel_rfl) (by simp) ?_
      refine (AllReadyH.cons rfl (fun K hK => ?_) (AllReadyH.cons rfl (fun K hK => ?_) AllReadyH.nil))
      ·skip
       try simp only [sq]
       obtain ⟨q0, q1, _, _⟩ := cell2f gpy
       go_simp
       refine hK.out _ _ ?_ (fun hHeld => ?_)
       ·(repeat' apply And.intro) <;> (repeat (first | with_reducible assumption | with_reducible refine keepset9 ?_ (by simp; try omega) | with_reducible refine keepdrew ?_ | with_reducible refine keepalloc ?_ _ | with_reducible refine keepcell hy ?_ | (refine hgrow.cell ?_ hvp) | (refine hgrow.cell ?_ hvX)))
       clear hK K
       try simp only [sq]
       clear q0 q1
       refine rd1 15 rfl (fun K hK => ?_)
       try simp only [sq]
       go_simp
       refine hK.out _ _ ?_ (fun hHeld => ?_)
       ·(repeat' apply And.intro) <;> (repeat (first | with_reducible assumption | with_reducible refine keepset9 ?_ (by simp; try omega) | with_reducible refine keepdrew ?_ | with_reducible refine keepalloc ?_ _ | with_reducible refine keepcell hy ?_ | (refine hgrow.cell ?_ hvp) | (refine hgrow.cell ?_ hvX)))
       clear hK K
       try simp only [sq]
       have gpa : (y.alloc (.cells #[.int .i64 id, .int .i64 t, .int .i64 0, .int .i64 kd, .slice (some ⟨g, 0, none⟩) ps.length cp] 65)).heap[p]? = _ := old_alloc gpy
       refine rd1 16 rfl (fun K hK => ?_)
       have HXy := hid (HX.out.below hy)
       have hownY := HXy.out.2.1
       have hys := hy.size
       refine step_append_lies _ (by rfl) _ _ _ (by rfl) base 65 i0 _ 5 56 Tryz.underlying30 hi0 hz0 hz1 hz2 rfl (by omega) v zs.length (flat5 xs) (by rfl) (hownY.alloc _) ⟨y.heap.size, 0, none⟩ 1 1 (ev (elR (id, t, 0, kd, ps) g cp)) (by rfl) (by rfl) (World.news_of_block (cs := #[.int .i64 id, .int .i64 t, .int .i64 0, .int .i64 kd, .slice (some ⟨g, 0, none⟩) ps.length cp]) (t := 65) (fr := (0, 0)) (heap_alloc_new y _)) (by simp [ev, elR, Value.oneCell']) (by omega) (by unfold maxLen; omega) (by omega) (by simp; omega) (y.heap.size + 1) (by simp) ?_
       intro gg cq w2 hown2 hgrow hat hlt2
       refine hK.out _ _ ?_ (fun hHeld => ?_)
       ·(repeat' apply And.intro) <;> (repeat (first | with_reducible assumption | with_reducible refine keepset9 ?_ (by simp; try omega) | with_reducible refine keepdrew ?_ | with_reducible refine keepalloc ?_ _ | with_reducible refine keepcell hy ?_ | (refine hgrow.cell ?_ hvp) | (refine hgrow.cell ?_ hvX)))
       clear hK K
       try simp only [sq]
       have g2 := (hgrow.block p (by simp; omega) hvp).trans gpa
       obtain ⟨t0, t1, s0, s1⟩ := cell2f g2
       refine tkR ?_ 17 rfl (fun _ _ _ h => h) hHeld ?_ ?_
       rotate_left
       ·intro w hSw; (try dsimp only at hSw); go_simp; try (with_reducible rfl)
       try simp only [sq]
       refine tkR ?_ 18 rfl (fun _ _ _ h => h) hHeld ?_ ?_
       rotate_left
       ·intro w hSw; (try dsimp only at hSw); go_simp; try (with_reducible rfl)
       try simp only [sq]
       refine rd1 19 rfl (fun K hK => ?_)
       try simp only [sq]
       go_simp
       refine hK.out _ _ ?_ (fun hHeld => ?_)
       ·(repeat' apply And.intro) <;> (repeat (first | with_reducible assumption | with_reducible refine keepset9 ?_ (by simp; try omega) | with_reducible refine keepdrew ?_ | with_reducible refine keepalloc ?_ _ | with_reducible refine keepcell hy ?_ | (refine hgrow.cell ?_ hvp) | (refine hgrow.cell ?_ hvX)))
       clear hK K
       try simp only [sq]
       refine wpAnyH_done (by kernel_rfl) ?_ _
       have hal : Below y.heap.size y (y.alloc (.cells #[.int .i64 id, .int .i64 t, .int .i64 0, .int .i64 kd, .slice (some ⟨g, 0, none⟩) ps.length cp] 65)) := balloc (Below.refl _ _) _
       have hsn := RowsX.snoc (r := (id, t, 0, kd, ps)) (c := g) (cp := cp) (HXy.out.below hal) (by omega) (by omega) (by simp; have := ho.1; omega) hcp k6 (ho.below hal) hown2 hgrow (by simpa using hat) hlt2
       have hgp : gg ≠ p := by
        rcases hat with q | q
        ·exact fun e => HOf.out.1 (by rw [q, e])
        ·omega
       have hOf2 := HOf.out.snoc (r := (id, t, 0, kd, ps)) (c := g) (cp := cp) (g := gg) (n := zs.length + 1) (cap := cq) (by omega) hgp
       have hw2 := hgrow.size
       have hfar : ∀ b, b ≠ p → (w2.setCell ⟨p, 1, none⟩ (.slice (some ⟨gg, 0, none⟩) (zs.length + 1) cq)).heap[b]? = w2.heap[b]? := fun b hb => by rw [Below.heap_setCell _ _ _ _ (by dsimp only; omega)]
       have HF1 := hid ((hsn.but hOf2 (w' := w2.setCell ⟨p, 1, none⟩ (.slice (some ⟨gg, 0, none⟩) (zs.length + 1) cq)) (fun b _ h2 => hfar b h2) (by simp)).mono (hi' := (w2.setCell ⟨p, 1, none⟩ (.slice (some ⟨gg, 0, none⟩) (zs.length + 1) cq)).heap.size) (Nat.le_refl _) (by simp) (Nat.le_refl _))
       have HF2 := hid hOf2
       have HF3 : Hid ((w2.setCell ⟨p, 1, none⟩ (.slice (some ⟨gg, 0, none⟩) (zs.length + 1) cq)).heap[p]? = some (.cells #[.int .i64 t, (.slice (some ⟨gg, 0, none⟩) (zs.length + 1) cq)] 32 (0, 0))) := hid (set1r g2 _)
       have hb2 : Below w0.heap.size w0 w2 := Below.grown (balloc (btrans HBl.out hy) _) hgrow (by simp; omega) (fun b hb => by have := (hownY.lt b hb).1; omega)
       have HF5 := hid (bset hb2 (q := p) (k := 1) (by omega) (.slice (some ⟨gg, 0, none⟩) (zs.length + 1) cq))
       have HF4 := hid ((hfar B (by omega)).trans ((hgrow.block B (by simp; have := lt_of_block gB; omega) hvB).trans (old_alloc (keepheap2 hy gB))))
       have hs8 : base ≤ (w2.setCell ⟨p, 1, none⟩ (.slice (some ⟨gg, 0, none⟩) (zs.length + 1) cq)).heap.size := by simp at hw2 ⊢; omega
       rw [← HZS.out, HZE.out] at HF1
       clear hsn hown2 hgrow hal hownY hfar g2 t0 t1 s0 s1 hOf2 ho hy gp gpa gpy gX gB hHeld HXy
       go_wp2_with fail
       go_roundw
       case rel => exact ⟨i + 1, _, _, by go_num, by omega, HF1, HF2, HF3, HF4, hid hs8, HF5⟩
       case measure => simp [intOf]; omega
      ·skip
       try simp only [sq]
       go_simp
       refine hK.out _ _ ?_ (fun hHeld => ?_)
       ·(repeat' apply And.intro) <;> (repeat (first | with_reducible assumption | with_reducible refine keepset9 ?_ (by simp; try omega) | with_reducible refine keepdrew ?_ | with_reducible refine keepalloc ?_ _ | with_reducible refine keepcell hy ?_ | (refine hgrow.cell ?_ hvp) | (refine hgrow.cell ?_ hvX)))
       clear hK K
       try simp only [sq]
       have gpa : (y.alloc (.cells #[.int .i64 id, .int .i64 t, .int .i64 0, .int .i64 kd, .slice (some ⟨g, 0, none⟩) ps.length cp] 65)).heap[p]? = _ := old_alloc gpy
       refine rd1 4 rfl (fun K hK => ?_)
       try simp only [sq]
       obtain ⟨q0, q1, _, _⟩ := cell2f gpa
       go_simp
       refine hK.out _ _ ?_ (fun hHeld => ?_)
       ·(repeat' apply And.intro) <;> (repeat (first | with_reducible assumption | with_reducible refine keepset9 ?_ (by simp; try omega) | with_reducible refine keepdrew ?_ | with_reducible refine keepalloc ?_ _ | with_reducible refine keepcell hy ?_ | (refine hgrow.cell ?_ hvp) | (refine hgrow.cell ?_ hvX)))
       clear hK K
       try simp only [sq]
       clear q0 q1
       refine rd1 16 rfl (fun K hK => ?_)
       have HXy := hid (HX.out.below hy)
       have hownY := HXy.out.2.1
       have hys := hy.size
       refine step_append_lies _ (by rfl) _ _ _ (by rfl) base 65 i0 _ 5 56 Tryz.underlying30 hi0 hz0 hz1 hz2 rfl (by omega) v zs.length (flat5 xs) (by rfl) (hownY.alloc _) ⟨y.heap.size, 0, none⟩ 1 1 (ev (elR (id, t, 0, kd, ps) g cp)) (by rfl) (by rfl) (World.news_of_block (cs := #[.int .i64 id, .int .i64 t, .int .i64 0, .int .i64 kd, .slice (some ⟨g, 0, none⟩) ps.length cp]) (t := 65) (fr := (0, 0)) (heap_alloc_new y _)) (by simp [ev, elR, Value.oneCell']) (by omega) (by unfold maxLen; omega) (by omega) (by simp; omega) (y.heap.size + 1) (by simp) ?_
       intro gg cq w2 hown2 hgrow hat hlt2
       refine hK.out _ _ ?_ (fun hHeld => ?_)
       ·(repeat' apply And.intro) <;> (repeat (first | with_reducible assumption | with_reducible refine keepset9 ?_ (by simp; try omega) | with_reducible refine keepdrew ?_ | with_reducible refine keepalloc ?_ _ | with_reducible refine keepcell hy ?_ | (refine hgrow.cell ?_ hvp) | (refine hgrow.cell ?_ hvX)))
       clear hK K
       try simp only [sq]
       have g2 := (hgrow.block p (by simp; omega) hvp).trans gpa
       obtain ⟨t0, t1, s0, s1⟩ := cell2f g2
       refine tkR ?_ 17 rfl (fun _ _ _ h => h) hHeld ?_ ?_
       rotate_left
       ·intro w hSw; (try dsimp only at hSw); go_simp; try (with_reducible rfl)
       try simp only [sq]
       refine tkR ?_ 18 rfl (fun _ _ _ h => h) hHeld ?_ ?_
       rotate_left
       ·intro w hSw; (try dsimp only at hSw); go_simp; try (with_reducible rfl)
       try simp only [sq]
       refine rd1 19 rfl (fun K hK => ?_)
       try simp only [sq]
       go_simp
       refine hK.out _ _ ?_ (fun hHeld => ?_)
       ·(repeat' apply And.intro) <;> (repeat (first | with_reducible assumption | with_reducible refine keepset9 ?_ (by simp; try omega) | with_reducible refine keepdrew ?_ | with_reducible refine keepalloc ?_ _ | with_reducible refine keepcell hy ?_ | (refine hgrow.cell ?_ hvp) | (refine hgrow.cell ?_ hvX)))
       clear hK K
       try simp only [sq]
       refine wpAnyH_done (by kernel_rfl) ?_ _
       have hal : Below y.heap.size y (y.alloc (.cells #[.int .i64 id, .int .i64 t, .int .i64 0, .int .i64 kd, .slice (some ⟨g, 0, none⟩) ps.length cp] 65)) := balloc (Below.refl _ _) _
       have hsn := RowsX.snoc (r := (id, t, 0, kd, ps)) (c := g) (cp := cp) (HXy.out.below hal) (by omega) (by omega) (by simp; have := ho.1; omega) hcp k6 (ho.below hal) hown2 hgrow (by simpa using hat) hlt2
       have hgp : gg ≠ p := by
        rcases hat with q | q
        ·exact fun e => HOf.out.1 (by rw [q, e])
        ·omega
       have hOf2 := HOf.out.snoc (r := (id, t, 0, kd, ps)) (c := g) (cp := cp) (g := gg) (n := zs.length + 1) (cap := cq) (by omega) hgp
       have hw2 := hgrow.size
       have hfar : ∀ b, b ≠ p → (w2.setCell ⟨p, 1, none⟩ (.slice (some ⟨gg, 0, none⟩) (zs.length + 1) cq)).heap[b]? = w2.heap[b]? := fun b hb => by rw [Below.heap_setCell _ _ _ _ (by dsimp only; omega)]
       have HF1 := hid ((hsn.but hOf2 (w' := w2.setCell ⟨p, 1, none⟩ (.slice (some ⟨gg, 0, none⟩) (zs.length + 1) cq)) (fun b _ h2 => hfar b h2) (by simp)).mono (hi' := (w2.setCell ⟨p, 1, none⟩ (.slice (some ⟨gg, 0, none⟩) (zs.length + 1) cq)).heap.size) (Nat.le_refl _) (by simp) (Nat.le_refl _))
       have HF2 := hid hOf2
       have HF3 : Hid ((w2.setCell ⟨p, 1, none⟩ (.slice (some ⟨gg, 0, none⟩) (zs.length + 1) cq)).heap[p]? = some (.cells #[.int .i64 t, (.slice (some ⟨gg, 0, none⟩) (zs.length + 1) cq)] 32 (0, 0))) := hid (set1r g2 _)
       have hb2 : Below w0.heap.size w0 w2 := Below.grown (balloc (btrans HBl.out hy) _) hgrow (by simp; omega) (fun b hb => by have := (hownY.lt b hb).1; omega)
       have HF5 := hid (bset hb2 (q := p) (k := 1) (by omega) (.slice (some ⟨gg, 0, none⟩) (zs.length + 1) cq))
       have HF4 := hid ((hfar B (by omega)).trans ((hgrow.block B (by simp; have := lt_of_block gB; omega) hvB).trans (old_alloc (keepheap2 hy gB))))
       have hs8 : base ≤ (w2.setCell ⟨p, 1, none⟩ (.slice (some ⟨gg, 0, none⟩) (zs.length + 1) cq)).heap.size := by simp at hw2 ⊢; omega
       rw [← HZS.out, HZE.out] at HF1
       clear hsn hown2 hgrow hal hownY hfar g2 t0 t1 s0 s1 hOf2 ho hy gp gpa gpy gX gB hHeld HXy
       go_wp2_with fail
       go_roundw
       case rel => exact ⟨i + 1, _, _, by go_num, by omega, HF1, HF2, HF3, HF4, hid hs8, HF5⟩
       case measure => simp [intOf]; omega
  ·have hin : i = m := by omega
   have HF : Hid (CHG w0 p base (now + 1) rs cs wr) := hid (by
    subst hin
    rw [← HTE.out]
    exact HEND.out wr v xs HGP.out HX0.out HOf.out HBl0.out)
   clear hin
   go_wp2_with fail
   go_end0
   exact ⟨rfl, HF.out⟩
end Go.Proofs.YtenlhgnobfadgaaGreatDoor
