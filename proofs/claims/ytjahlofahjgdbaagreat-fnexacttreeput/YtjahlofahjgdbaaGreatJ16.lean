/- Texts of stores, joined: Kb2, Kg. -/
import Derived.Test.YtjahlofahjgdbaaGreatKb
set_option maxRecDepth 100000
set_option maxHeartbeats 16000000
set_option linter.unusedSimpArgs false
set_option linter.unusedVariables false
namespace Go.Proofs.YtjahlofahjgdbaaGreat
open Go.RowKit
theorem impl_splitK (lo n0 b o:Nat) (P R:List Value) (b0 b1 b2 b3:Int) (ks:List KT) (ia ka:Option Addr) (ic kc:Nat) (S:List Nat) (w:World) (k:KO lo (n0 + 1) w (ia,ic,ka,kc) S (.mk (b0,b1,b2,b3) false [] ks)) (hlo:lo ≤ w.heap.size) (hB:BK w b o P R [.int .i64 b0,.int .i64 b1,.int .i64 b2,.int .i64 b3,.bool false,.slice ia 0 ic,.slice ka 5 kc]) (hbS:b ∉ S) (h5:ks.length = 5) (hok:ks.all (fun k => bkb k.box) = true):Calls Tryz.prog 107 #[.pointer (some ⟨b,o,none⟩)] w (SpA w lo (n0 + 1) b o P R S (knotK ((isort befK ks).take 3)) (knotK ((isort befK ks).drop 3))):=by
 have hSl:∀ x ∈ S,x < w.heap.size:=fun x hx => (k.lt x hx).2
 obtain ⟨ps,l1,r1,r2,hS,hN,hk⟩:=k
 have hks:ks = ps.map (·.1):=l1
 subst hks
 have hp5:ps.length = 5:=by rw [← h5,List.length_map]
 obtain ⟨T1,hT1⟩:∃ T,T = knotK ((isort befK (ps.map (·.1))).take 3):=⟨_,rfl⟩
 obtain ⟨T2,hT2⟩:∃ T,T = knotK ((isort befK (ps.map (·.1))).drop 3):=⟨_,rfl⟩
 rw [← hT1,← hT2]
 have HT:=hid (And.intro hT1 hT2)
 clear hT1 hT2
 have r2':w.ownsRow lo 35 7 (.slice ka 5 kc) 5 (flK ps):=by have:w.ownsRow lo 35 7 (.slice ka ps.length kc) ps.length (flK ps):=r2;rw [hp5] at this;exact this
 have r1':w.ownsRow lo 40 5 (.slice ia 0 ic) 0 []:=r1
 clear r1 r2
 obtain ⟨g,e0,hgl,_⟩:=row_cs r2' (by omega)
 subst e0
 have hgS:g ∈ S:=hS.mem_iff.2 (by simp [hb])
 have hkS:∀ x ∈ hb ia,x ∈ S:=fun x hx => hS.mem_iff.2 (by simp only [List.mem_append];exact .inl (.inl hx))
 have hpS:∀ x ∈ ps.flatMap (·.2.2),x ∈ S:=fun x hx => hS.mem_iff.2 (by simp only [List.mem_append];exact .inr hx)
 have hN2:=hS.nodup_iff.1 hN
 rw [List.nodup_append,List.nodup_append] at hN2
 have hgk:∀ x ∈ hb ia,x ≠ g:=fun x hx e => hN2.1.2.2 x hx g (by simp [hb]) e
 have hgp:∀ x ∈ ps.flatMap (·.2.2),x ≠ g:=fun x hx e => hN2.2.2 g (by simp [hb]) x hx e.symm
 have HKS:=hid (show KOs lo n0 w ps from ⟨hN2.2.1,hk⟩)
 have hokp:ps.all (fun x => bkb x.1.box) = true:=by rw [List.all_map] at hok;exact hok
 clear hk hN2
 have hbw:b < w.heap.size:=hB.lt
 have hgb:g ≠ b:=fun e => hbS (e ▸ hgS)
 have HROW:=hid r2'
 have HOTH:=hid r1'
 have gR:=new_alloc w w.heap.size (.cells #[.int .i64 0,.int .i64 0,.int .i64 0,.int .i64 0,.bool false,.slice none 0 0,.slice none 0 0] 35) rfl
 have hB0:=balloc (Below.refl w.heap.size w) (.cells #[.int .i64 0,.int .i64 0,.int .i64 0,.int .i64 0,.bool false,.slice none 0 0,.slice none 0 0] 35)
 have HF:=hid (Fr.of hB0 (b :: S))
 replace HROW:=hid (row_blk HROW.out (fun x hx => hB0.block x (row_lt HROW.out x hx).2))
 replace HOTH:=hid (row_blk HOTH.out (fun x hx => hB0.block x (row_lt HOTH.out x hx).2))
 have hBv:=hB.below hB0
 replace HKS:=hid (HKS.out.keep (fun x hx => hB0.block x (KO_blk HKS.out x hx)))
 have hgS2:g ∈ b :: S:=List.mem_cons_of_mem _ hgS
 have hbS2:b ∈ b :: S:=List.mem_cons_self ..
 have hgR:w.heap.size ≠ g:=by omega
 have hbR:w.heap.size ≠ b:=by omega
 have hOthB:∀ x ∈ hb ia,x ≠ b:=fun x hx e => hbS (e ▸ hkS x hx)
 have HBLD:Tryz.prog.built 35 [(1,.bool false)] = some #[.int .i64 0,.int .i64 0,.int .i64 0,.int .i64 0,.bool false,.slice none 0 0,.slice none 0 0]:=by kernel_rfl
 clear r2' r1' hB hB0
 go_enter Tryz.func107,Tryz.ntmps107
 obtain ⟨a0,a1,a2,a3,a4,a5,a6,f0,f1,f2,f3,f4,f5,f6⟩:=hBv.k7
 go_wp2_with fail
 refine (sortf_items 0 ic ia (by omega) _ (fun e w' => w' = (w.alloc (.cells #[.int .i64 0,.int .i64 0,.int .i64 0,.int .i64 0,.bool false,.slice none 0 0,.slice none 0 0] 35))) ((ins_items0 ic ia _ _).mono (fun e w' ⟨q1,q2⟩ => ⟨q1,q2⟩))).mono ?_
 rintro e v1 ⟨rfl,hv⟩
 replace hv:=hv.symm
 subst hv
 go_wp2_with fail
 refine (sorts_knots 5 kc (some ⟨g,0,none⟩) (by omega) _ (fun e w' => w'.ownsRow lo 35 7 (.slice (some ⟨g,0,none⟩) 5 kc) 5 (flK (isort ltK ps)) ∧ Fr [g] (w.alloc (.cells #[.int .i64 0,.int .i64 0,.int .i64 0,.int .i64 0,.bool false,.slice none 0 0,.slice none 0 0] 35)) w') ((ins_knots lo g kc 5 ps _ HROW.out hp5 (by omega) (by omega) hokp).mono (fun e w' ⟨q1,q2,q3⟩ => ⟨q1,q2,q3⟩))).mono ?_
 rintro e v1 ⟨rfl,hrow,hf⟩
 replace hBv:=hBv.keep (hf.blk b hBv.lt (by rw [List.mem_singleton];exact hgb.symm))
 replace gR:=(hf.blk _ (lt_of_heap gR) (by rw [List.mem_singleton];exact hgR)).trans gR
 replace HF:=hid (fr_step HF.out hf (fun x hx => by rw [List.mem_singleton] at hx;subst hx;exact .inl hgS2))
 replace HOTH:=hid (row_blk HOTH.out (fun x hx => hf.blk x (row_lt HOTH.out x hx).2 (by rw [List.mem_singleton];exact hgk x hx)))
 replace HKS:=hid (HKS.out.keep (fun x hx => hf.blk x (KO_blk HKS.out x hx) (by rw [List.mem_singleton];exact hgp x hx)))
 replace HROW:=hid hrow
 clear hrow hf a0 a1 a2 a3 a4 a5 a6 f0 f1 f2 f3 f4 f5 f6
 obtain ⟨a0,a1,a2,a3,a4,a5,a6,f0,f1,f2,f3,f4,f5,f6⟩:=hBv.k7
 go_upto_region 4 with fail
 obtain ⟨M,hM⟩:∃ M,M = v1.heap.size:=⟨_,rfl⟩
 have gN:=heap_alloc_new v1 (.cells #[.int .i64 0,.int .i64 0,.int .i64 0,.int .i64 0,.bool false,.slice none 0 0,.slice none 0 0] 35)
 have hbM:b < v1.heap.size:=hBv.lt
 have hRM:=lt_of_heap gR
 have hbel:=balloc (Below.refl v1.heap.size v1) (.cells #[.int .i64 0,.int .i64 0,.int .i64 0,.int .i64 0,.bool false,.slice none 0 0,.slice none 0 0] 35)
 rw [← hM] at gN
 refine wp_wld (fun X => X.heap[M]? = some (.cells #[.int .i64 0,.int .i64 0,.int .i64 0,.int .i64 0,.bool false,.slice none 0 0,.slice none 0 0] 35 (0,0)) ∧ Below v1.heap.size v1 X) ⟨gN,hbel⟩ ?_
 clear gN hbel
 rintro X ⟨gN,hbel⟩
 replace hBv:=hBv.below hbel
 replace gR:=keepheap hbel gR
 replace HROW:=hid (row_blk HROW.out (fun x hx => hbel.block x (row_lt HROW.out x hx).2))
 replace HOTH:=hid (row_blk HOTH.out (fun x hx => hbel.block x (row_lt HOTH.out x hx).2))
 replace HKS:=hid (HKS.out.keep (fun x hx => hbel.block x (KO_blk HKS.out x hx)))
 replace HF:=hid (HF.out.bel hbel)
 rw [← hM] at hbM hRM ⊢
 clear hbel hM a0 a1 a2 a3 a4 a5 a6 f0 f1 f2 f3 f4 f5 f6
 obtain ⟨a0,a1,a2,a3,a4,a5,a6,f0,f1,f2,f3,f4,f5,f6⟩:=hBv.k7
 obtain ⟨c0,c1,c2,c3,c4,c5,c6,d0,d1,d2,d3,d4,d5,d6⟩:=cell7k gN
 have hXw:w.heap.size ≤ X.heap.size:=HF.out.size
 have hSf:∀ x ∈ S,b ≠ x ∧ M ≠ x ∧ w.heap.size ≠ x:=fun x hx => ⟨fun e => hbS (e ▸ hx),by have:=hSl x hx;omega,by have:=hSl x hx;omega⟩
 have hMX:=lt_of_heap gN
 go_wp2_with fail
 refine (cut0_items lo ic ia X HOTH.out).mono ?_
 rintro e Y0 ⟨ai1,ci1,ai2,ci2,rfl,rI1,rI2,hdI,hb2⟩
 have hIl1:∀ x ∈ hb ai1,X.heap.size ≤ x ∧ x < Y0.heap.size:=row_lt rI1
 have hIl2:∀ x ∈ hb ai2,X.heap.size ≤ x ∧ x < Y0.heap.size:=row_lt rI2
 have HI1:=hid (own_base rI1 hXw)
 have HI2:=hid (own_base rI2 hXw)
 replace hBv:=hBv.below hb2
 replace gR:=keepheap hb2 gR
 replace gN:=keepheap hb2 gN
 replace HROW:=hid (row_blk HROW.out (fun x hx => hb2.block x (row_lt HROW.out x hx).2))
 replace HKS:=hid (HKS.out.keep (fun x hx => hb2.block x (KO_blk HKS.out x hx)))
 replace HF:=hid (HF.out.bel hb2)
 have hYX:=hb2.size
 clear rI1 rI2 hb2 a0 a1 a2 a3 a4 a5 a6 f0 f1 f2 f3 f4 f5 f6 c0 c1 c2 c3 c4 c5 c6 d0 d1 d2 d3 d4 d5 d6 HOTH
 obtain ⟨a0,a1,a2,a3,a4,a5,a6,f0,f1,f2,f3,f4,f5,f6⟩:=hBv.k7
 obtain ⟨c0,c1,c2,c3,c4,c5,c6,d0,d1,d2,d3,d4,d5,d6⟩:=cell7k gN
 go_upto_region 5 with fail
 clear a0 a1 a2 a3 a4 a5 a6 f0 f1 f2 f3 f4 f5 f6 c0 c1 c2 c3 c4 c5 c6 d0 d1 d2 d3 d4 d5 d6
 refine wp_wld (fun X => BK X b o P R [.int .i64 b0,.int .i64 b1,.int .i64 b2,.int .i64 b3,.bool false,.slice ai1 0 ci1,.slice (some ⟨g,0,none⟩) 5 kc] ∧ X.heap[M]? = some (.cells #[.int .i64 0,.int .i64 0,.int .i64 0,.int .i64 0,.bool false,.slice ai2 0 ci2,.slice none 0 0] 35 (0,0)) ∧ X.heap[w.heap.size]? = some (.cells #[.int .i64 0,.int .i64 0,.int .i64 0,.int .i64 0,.bool false,.slice none 0 0,.slice none 0 0] 35 (0,0)) ∧ Hid (X.ownsRow w.heap.size 40 5 (.slice ai1 0 ci1) 0 []) ∧ Hid (X.ownsRow w.heap.size 40 5 (.slice ai2 0 ci2) 0 []) ∧ Hid (X.ownsRow lo 35 7 (.slice (some ⟨g,0,none⟩) 5 kc) 5 (flK (isort ltK ps))) ∧ Hid (KOs lo n0 X ps) ∧ Hid (Fr (b :: S) w X) ∧ Y0.heap.size ≤ X.heap.size) ⟨(hBv.set5 _).keep (heap_set _ _ _ _ _ (by omega)),set_5k ((heap_set _ _ _ _ _ (by omega)).trans gN) _,(two_far _ (by omega) (by omega)).trans gR,hid (row_blk HI1.out (fun x hx => two_far _ (by have:=hIl1 x hx;omega) (by have:=hIl1 x hx;omega))),hid (row_blk HI2.out (fun x hx => two_far _ (by have:=hIl2 x hx;omega) (by have:=hIl2 x hx;omega))),hid (row_blk HROW.out (fun x hx => (by obtain rfl:x = g:=(by simpa [hb] using hx);exact two_far _ (hSf x hgS).1 (hSf x hgS).2.1))),hid (HKS.out.keep (fun x hx => two_far _ (hSf x (hpS x hx)).1 (hSf x (hpS x hx)).2.1)),hid (fr_set (fr_set HF.out (.inl hbS2)) (.inr (by omega))),by simp⟩ ?_
 clear hBv gN gR HI1 HI2 HROW HF HKS
 rintro Y ⟨hBv,gN,gR,HI1,HI2,HROW,HKS,HF,hYY⟩
 obtain ⟨a0,a1,a2,a3,a4,a5,a6,f0,f1,f2,f3,f4,f5,f6⟩:=hBv.k7
 obtain ⟨c0,c1,c2,c3,c4,c5,c6,d0,d1,d2,d3,d4,d5,d6⟩:=cell7k gN
 go_wp2_with fail
 refine (cut5_knots lo g kc (isort ltK ps) Y HROW.out (by rw [isort_len];exact hp5)).mono ?_
 rintro e Z0 ⟨ak1,ck1,ak2,ck2,rfl,rK1,rK2,hdK,hb2⟩
 have hKl1:∀ x ∈ hb ak1,Y.heap.size ≤ x ∧ x < Z0.heap.size:=row_lt rK1
 have hKl2:∀ x ∈ hb ak2,Y.heap.size ≤ x ∧ x < Z0.heap.size:=row_lt rK2
 have hYw:w.heap.size ≤ Y.heap.size:=HF.out.size
 have HK1:=hid (own_base rK1 hYw)
 have HK2:=hid (own_base rK2 hYw)
 replace hBv:=hBv.below hb2
 replace gR:=keepheap hb2 gR
 replace gN:=keepheap hb2 gN
 replace HI1:=hid (row_blk HI1.out (fun x hx => hb2.block x (row_lt HI1.out x hx).2))
 replace HI2:=hid (row_blk HI2.out (fun x hx => hb2.block x (row_lt HI2.out x hx).2))
 replace HKS:=hid (HKS.out.keep (fun x hx => hb2.block x (KO_blk HKS.out x hx)))
 replace HF:=hid (HF.out.bel hb2)
 have hZY:=hb2.size
 clear rK1 rK2 hb2 HROW a0 a1 a2 a3 a4 a5 a6 f0 f1 f2 f3 f4 f5 f6 c0 c1 c2 c3 c4 c5 c6 d0 d1 d2 d3 d4 d5 d6
 obtain ⟨a0,a1,a2,a3,a4,a5,a6,f0,f1,f2,f3,f4,f5,f6⟩:=hBv.k7
 obtain ⟨c0,c1,c2,c3,c4,c5,c6,d0,d1,d2,d3,d4,d5,d6⟩:=cell7k gN
 go_upto_region 6 with fail
 clear a0 a1 a2 a3 a4 a5 a6 f0 f1 f2 f3 f4 f5 f6 c0 c1 c2 c3 c4 c5 c6 d0 d1 d2 d3 d4 d5 d6
 refine wp_wld (fun X => BK X b o P R [.int .i64 b0,.int .i64 b1,.int .i64 b2,.int .i64 b3,.bool false,.slice ai1 0 ci1,.slice ak1 3 ck1] ∧ X.heap[M]? = some (.cells #[.int .i64 0,.int .i64 0,.int .i64 0,.int .i64 0,.bool false,.slice ai2 0 ci2,.slice ak2 2 ck2] 35 (0,0)) ∧ X.heap[w.heap.size]? = some (.cells #[.int .i64 0,.int .i64 0,.int .i64 0,.int .i64 0,.bool false,.slice none 0 0,.slice none 0 0] 35 (0,0)) ∧ Hid (X.ownsRow w.heap.size 40 5 (.slice ai1 0 ci1) 0 []) ∧ Hid (X.ownsRow w.heap.size 40 5 (.slice ai2 0 ci2) 0 []) ∧ Hid (X.ownsRow w.heap.size 35 7 (.slice ak1 3 ck1) 3 (flK ((isort ltK ps).take 3))) ∧ Hid (X.ownsRow w.heap.size 35 7 (.slice ak2 2 ck2) 2 (flK ((isort ltK ps).drop 3))) ∧ Hid (KOs lo n0 X ps) ∧ Hid (Fr (b :: S) w X) ∧ Z0.heap.size ≤ X.heap.size) ⟨(hBv.set6 _).keep (heap_set _ _ _ _ _ (by omega)),set_6k ((heap_set _ _ _ _ _ (by omega)).trans gN) _,(two_far _ (by omega) (by omega)).trans gR,hid (row_blk HI1.out (fun x hx => two_far _ (by have:=hIl1 x hx;omega) (by have:=hIl1 x hx;omega))),hid (row_blk HI2.out (fun x hx => two_far _ (by have:=hIl2 x hx;omega) (by have:=hIl2 x hx;omega))),hid (row_blk HK1.out (fun x hx => two_far _ (by have:=hKl1 x hx;omega) (by have:=hKl1 x hx;omega))),hid (row_blk HK2.out (fun x hx => two_far _ (by have:=hKl2 x hx;omega) (by have:=hKl2 x hx;omega))),hid (HKS.out.keep (fun x hx => two_far _ (hSf x (hpS x hx)).1 (hSf x (hpS x hx)).2.1)),hid (fr_set (fr_set HF.out (.inl hbS2)) (.inr (by omega))),by simp⟩ ?_
 clear hBv gN gR HI1 HI2 HK1 HK2 HF HKS
 rintro V ⟨hBv,gN,gR,HI1,HI2,HK1,HK2,HKS,HF,hVZ⟩
 have HSW:=hid (show KOs lo n0 V (isort ltK ps) from HKS.out.perm (isort_perm ltK ps))
 have e1:((isort ltK ps).take 3).length = 3:=by rw [List.length_take,isort_len];omega
 have e2:((isort ltK ps).drop 3).length = 2:=by rw [List.length_drop,isort_len];omega
 have m1:(isort befK (ps.map (·.1))).take 3 = ((isort ltK ps).take 3).map (·.1):=by rw [← isort_map,List.map_take]
 have m2:(isort befK (ps.map (·.1))).drop 3 = ((isort ltK ps).drop 3).map (·.1):=by rw [← isort_map,List.map_drop]
 have HTT:=hid (show T1 = knotK (((isort ltK ps).take 3).map (·.1)) ∧ T2 = knotK (((isort ltK ps).drop 3).map (·.1)) from ⟨by rw [HT.out.1,m1],by rw [HT.out.2,m2]⟩)
 clear m1 m2 HT
 have hI:∀ p ∈ isort ltK ps,bkb p.1.box = true:=fun p hp => List.all_eq_true.1 hokp p ((isort_perm ltK ps).mem_iff.1 hp)
 have hIS:∀ p ∈ isort ltK ps,∀ x ∈ p.2.2,x ∈ S:=fun p hp x hx => hpS x (List.mem_flatMap.2 ⟨p,(isort_perm ltK ps).mem_iff.1 hp,hx⟩)
 have q1:(((isort ltK ps).take 3).map (·.1)).all (fun k => bkb k.box) = true:=by rw [List.all_map];exact List.all_eq_true.2 (fun x hx => hI x (List.mem_of_mem_take hx))
 have q2:(((isort ltK ps).drop 3).map (·.1)).all (fun k => bkb k.box) = true:=by rw [List.all_map];exact List.all_eq_true.2 (fun x hx => hI x (List.mem_of_mem_drop hx))
 have p1:∀ x ∈ ((isort ltK ps).take 3).flatMap (·.2.2),x ∈ S:=fun x hx => by
  obtain ⟨p,hp,hx⟩:=List.mem_flatMap.1 hx
  exact hIS p (List.mem_of_mem_take hp) x hx
 have p2:∀ x ∈ ((isort ltK ps).drop 3).flatMap (·.2.2),x ∈ S:=fun x hx => by
  obtain ⟨p,hp,hx⟩:=List.mem_flatMap.1 hx
  exact hIS p (List.mem_of_mem_drop hp) x hx
 have p12:∀ x ∈ ((isort ltK ps).take 3).flatMap (·.2.2),x ∉ ((isort ltK ps).drop 3).flatMap (·.2.2):=fun x h1 h2 => by
  have hn:=HSW.out.1
  rw [← List.take_append_drop 3 (isort ltK ps),List.flatMap_append,List.nodup_append] at hn
  exact hn.2.2 x h1 x h2 rfl
 have HW1:=HSW.out.sub (List.take_sublist 3 _)
 have HW2:=HSW.out.sub (List.drop_sublist 3 _)
 generalize (isort ltK ps).take 3 = l1 at *
 generalize (isort ltK ps).drop 3 = l2 at *
 have kk:∀ (bx:Bx) (l:List KP) (n:Nat) (a a':Option Addr) (c c':Nat),l.length = n → V.ownsRow w.heap.size 40 5 (.slice a 0 c) 0 [] → V.ownsRow w.heap.size 35 7 (.slice a' n c') n (flK l) → KOs lo n0 V l → (∀ x ∈ hb a,x ∉ hb a' ∧ x ∉ l.flatMap (·.2.2)) → (∀ x ∈ hb a',x ∉ l.flatMap (·.2.2)) → KO lo (n0 + 1) V (a,c,a',c') (hb a ++ hb a' ++ l.flatMap (·.2.2)) (.mk bx false [] (l.map (·.1))):=by
  intro bx l n a a' c c' hl r1 r2 hk hd hd2
  subst hl
  exact KO.mk' (ps:=l) rfl (own_base r1 hlo) (own_base r2 hlo) hk hd hd2
 have kA:∀ bx:Bx,KO lo (n0 + 1) V (ai1,ci1,ak1,ck1) (hb ai1 ++ hb ak1 ++ l1.flatMap (·.2.2)) (.mk bx false [] (l1.map (·.1))):=fun bx => kk bx _ 3 ai1 ak1 ci1 ck1 e1 HI1.out HK1.out HW1 (fun x hx => ⟨fun hc => by have:=hIl1 x hx;have:=hKl1 x hc;omega,fun hc => by have:=hIl1 x hx;have:=hSl x (p1 x hc);omega⟩) (fun x hx hc => by have:=hKl1 x hx;have:=hSl x (p1 x hc);omega)
 have kB:∀ bx:Bx,KO lo (n0 + 1) V (ai2,ci2,ak2,ck2) (hb ai2 ++ hb ak2 ++ l2.flatMap (·.2.2)) (.mk bx false [] (l2.map (·.1))):=fun bx => kk bx _ 2 ai2 ak2 ci2 ck2 e2 HI2.out HK2.out HW2 (fun x hx => ⟨fun hc => by have:=hIl2 x hx;have:=hKl2 x hc;omega,fun hc => by have:=hIl2 x hx;have:=hSl x (p2 x hc);omega⟩) (fun x hx hc => by have:=hKl2 x hx;have:=hSl x (p2 x hc);omega)
 have sA:∀ x ∈ hb ai1 ++ hb ak1 ++ l1.flatMap (·.2.2),x ∈ S ∨ X.heap.size ≤ x:=fun x hx => by
  simp only [List.mem_append] at hx
  rcases hx with (h | h) | h
  ·exact .inr (hIl1 x h).1
  ·have:=(hKl1 x h).1;exact .inr (by omega)
  ·exact .inl (p1 x h)
 have sB:∀ x ∈ hb ai2 ++ hb ak2 ++ l2.flatMap (·.2.2),x ∈ S ∨ X.heap.size ≤ x:=fun x hx => by
  simp only [List.mem_append] at hx
  rcases hx with (h | h) | h
  ·exact .inr (hIl2 x h).1
  ·have:=(hKl2 x h).1;exact .inr (by omega)
  ·exact .inl (p2 x h)
 have sAB:∀ x ∈ hb ai1 ++ hb ak1 ++ l1.flatMap (·.2.2),x ∉ hb ai2 ++ hb ak2 ++ l2.flatMap (·.2.2):=fun x hx hc => by
  simp only [List.mem_append] at hx hc
  rcases hx with (h | h) | h <;> rcases hc with (h' | h') | h'
  ·exact hdI x h h'
  ·have:=hIl1 x h;have:=hKl2 x h';omega
  ·have:=hIl1 x h;have:=hSl x (p2 x h');omega
  ·have:=hKl1 x h;have:=hIl2 x h';omega
  ·exact hdK x h h'
  ·have:=hKl1 x h;have:=hSl x (p2 x h');omega
  ·have:=hIl2 x h';have:=hSl x (p1 x h);omega
  ·have:=hKl2 x h';have:=hSl x (p1 x h);omega
  ·exact p12 x h h'
 have HA:=hid (And.intro kA (And.intro kB sAB))
 have HSX:=hid (And.intro sA sB)
 have ARA:=hid (fun (W:World) (hb:Below V.heap.size V W) => around_kids (b0,b1,b2,b3) _ q1 ((kA _).knr.below hb) (by rw [List.length_map,e1];omega))
 have ARB:=hid (fun (W:World) (hb:Below V.heap.size V W) => around_kids (0,0,0,0) _ q2 ((kB _).knr.below hb) (by rw [List.length_map,e2];omega))
 rw [List.length_map] at ARA ARB
 rw [e1] at ARA
 rw [e2] at ARB
 have e1':(l1.map (·.1)).length = 3:=by rw [List.length_map];exact e1
 have e2':(l2.map (·.1)).length = 2:=by rw [List.length_map];exact e2
 generalize l1.map (·.1) = m1' at *
 generalize l2.map (·.1) = m2' at *
 generalize hb ai1 ++ hb ak1 ++ l1.flatMap (·.2.2) = S1 at *
 generalize hb ai2 ++ hb ak2 ++ l2.flatMap (·.2.2) = S2 at *
 clear hdI hdK HI1 HI2 HK1 HK2 kA kB sA sB sAB kk
 have HVF:=hid HF.out
 have hVX:X.heap.size ≤ V.heap.size:=by omega
 refine wp_region_late (L:=[9,11]) (S:=(fun w' => w'.cell? ⟨b,o,none⟩ = some (.int .i64 b0) ∧ w'.cell? ⟨b,o + 1,none⟩ = some (.int .i64 b1) ∧ w'.cell? ⟨b,o + 2,none⟩ = some (.int .i64 b2) ∧ w'.cell? ⟨b,o + 3,none⟩ = some (.int .i64 b3) ∧ w'.cell? ⟨b,o + 4,none⟩ = some (.bool false) ∧ w'.cell? ⟨b,o + 5,none⟩ = some (.slice ai1 0 ci1) ∧ w'.cell? ⟨b,o + 6,none⟩ = some (.slice ak1 3 ck1) ∧ w'.cell? ⟨M,0,none⟩ = some (.int .i64 0) ∧ w'.cell? ⟨M,1,none⟩ = some (.int .i64 0) ∧ w'.cell? ⟨M,2,none⟩ = some (.int .i64 0) ∧ w'.cell? ⟨M,3,none⟩ = some (.int .i64 0) ∧ w'.cell? ⟨M,4,none⟩ = some (.bool false) ∧ w'.cell? ⟨M,5,none⟩ = some (.slice ai2 0 ci2) ∧ w'.cell? ⟨M,6,none⟩ = some (.slice ak2 2 ck2))) (by kernel_rfl) ?_ (fun hHeld => ?_)
 ·(obtain ⟨a0,a1,a2,a3,a4,a5,a6,_,_,_,_,_,_,_⟩:=hBv.k7;obtain ⟨c0,c1,c2,c3,c4,c5,c6,_,_,_,_,_,_,_⟩:=cell7k gN;exact ⟨a0,a1,a2,a3,a4,a5,a6,c0,c1,c2,c3,c4,c5,c6⟩)
 have HBV:=hid (bdrew (Below.refl V.heap.size V))
 replace hBv:=hBv.below HBV.out
 replace gN:=keepheap HBV.out gN
 replace gR:=keepheap HBV.out gR
 generalize V.drew = VD at *
 refine tkP 0 hHeld ?_
 try simp only [sq]
 refine tkP 1 hHeld ?_
 try simp only [sq]
 refine tkP 2 hHeld ?_
 try simp only [sq]
 refine tkA 3 hHeld ?_
 try simp only [sq]
 refine anyL_2 (i:=4) (j:=5) rfl rfl (by kernel_rfl) rfl rfl ?_ ?_
 ·skip
  refine wpo_call (ARA.out _ HBV.out) ?_ (fun e w' hp => ?_) (fun v UA hp => ?_)
  ·go_simp
  ·exact ⟨_,hp.1⟩
  clear hHeld ARA
  obtain ⟨e0,hb2⟩:=hp
  injection e0 with e0
  subst e0
  replace hBv:=hBv.below hb2
  replace gN:=keepheap hb2 gN
  replace gR:=keepheap hb2 gR
  replace HBV:=hid (btrans HBV.out hb2)
  clear hb2
  refine ⟨by (obtain ⟨a0,a1,a2,a3,a4,a5,a6,_,_,_,_,_,_,_⟩:=hBv.k7;obtain ⟨c0,c1,c2,c3,c4,c5,c6,_,_,_,_,_,_,_⟩:=cell7k gN;exact ⟨a0,a1,a2,a3,a4,a5,a6,c0,c1,c2,c3,c4,c5,c6⟩),fun hHeld => ?_⟩
  try simp only [sq]
  refine anyL_1 (i:=5) rfl (by kernel_rfl) rfl ?_
  obtain ⟨c0,c1,c2,c3,c4,c5,c6,_,_,_,_,_,_,_⟩:=cell7k gN
  clear hHeld
  refine wpo_val (by go_simp;first | done | with_reducible rfl | rfl | exact ⟨rfl,rfl⟩) ?_
  clear c0 c1 c2 c3 c4 c5 c6
  refine ⟨by (obtain ⟨a0,a1,a2,a3,a4,a5,a6,_,_,_,_,_,_,_⟩:=hBv.k7;obtain ⟨c0,c1,c2,c3,c4,c5,c6,_,_,_,_,_,_,_⟩:=cell7k gN;exact ⟨a0,a1,a2,a3,a4,a5,a6,c0,c1,c2,c3,c4,c5,c6⟩),fun hHeld => ?_⟩
  try simp only [sq]
  refine anyL_1 (i:=6) rfl (by kernel_rfl) rfl ?_
  refine wpo_call (ARB.out _ HBV.out) ?_ (fun e w' hp => ?_) (fun v UB hp => ?_)
  ·go_simp
  ·exact ⟨_,hp.1⟩
  clear hHeld ARB
  obtain ⟨e0,hb2⟩:=hp
  injection e0 with e0
  subst e0
  replace hBv:=hBv.below hb2
  replace gN:=keepheap hb2 gN
  replace gR:=keepheap hb2 gR
  replace HBV:=hid (btrans HBV.out hb2)
  clear hb2
  refine ⟨by (obtain ⟨a0,a1,a2,a3,a4,a5,a6,_,_,_,_,_,_,_⟩:=hBv.k7;obtain ⟨c0,c1,c2,c3,c4,c5,c6,_,_,_,_,_,_,_⟩:=cell7k gN;exact ⟨a0,a1,a2,a3,a4,a5,a6,c0,c1,c2,c3,c4,c5,c6⟩),fun hHeld => ?_⟩
  try simp only [sq]
  refine tkP 7 hHeld ?_
  try simp only [sq]
  refine tkP 8 hHeld ?_
  try simp only [sq]
  refine anyL_1 (i:=9) rfl (by kernel_rfl) rfl ?_
  obtain ⟨a0,a1,a2,a3,a4,a5,a6,f0,f1,f2,f3,f4,f5,f6⟩:=hBv.k7
  refine wpo_late (by kernel_rfl) (by go_simp;first | done | with_reducible rfl | rfl | exact ⟨rfl,rfl⟩) ?_
  clear a0 a1 a2 a3 a4 a5 a6 f0 f1 f2 f3 f4 f5 f6
  have hu1:=hBv.set4 (.int .i64 (jns (m1'.map KT.box)).1) (.int .i64 (jns (m1'.map KT.box)).2.1) (.int .i64 (jns (m1'.map KT.box)).2.2.1) (.int .i64 (jns (m1'.map KT.box)).2.2.2)
  have gN2:=(setL_blk [.int .i64 (jns (m1'.map KT.box)).1,.int .i64 (jns (m1'.map KT.box)).2.1,.int .i64 (jns (m1'.map KT.box)).2.2.1,.int .i64 (jns (m1'.map KT.box)).2.2.2] UB b o M (by omega)).trans gN
  have gR2:=(setL_blk [.int .i64 (jns (m1'.map KT.box)).1,.int .i64 (jns (m1'.map KT.box)).2.1,.int .i64 (jns (m1'.map KT.box)).2.2.1,.int .i64 (jns (m1'.map KT.box)).2.2.2] UB b o _ (by omega)).trans gR
  have ho1:=fun x (hx:x ≠ b) => setL_blk [.int .i64 (jns (m1'.map KT.box)).1,.int .i64 (jns (m1'.map KT.box)).2.1,.int .i64 (jns (m1'.map KT.box)).2.2.1,.int .i64 (jns (m1'.map KT.box)).2.2.2] UB b o x (fun e => hx e.symm)
  have hfu:=fr_setN (g:=b) (HVF.out.trans (Fr.of HBV.out []) (fun k hk => by cases hk)) (.inl hbS2) [.int .i64 (jns (m1'.map KT.box)).1,.int .i64 (jns (m1'.map KT.box)).2.1,.int .i64 (jns (m1'.map KT.box)).2.2.1,.int .i64 (jns (m1'.map KT.box)).2.2.2] o
  simp only [setL,Nat.add_assoc,Nat.reduceAdd] at gN2 gR2 ho1 hfu
  have HU1:=hid hu1
  have HO1:=hid ho1
  have HFU:=hid hfu
  clear hBv gN gR hu1 ho1 hfu
  generalize ((((UB.setCell ⟨b,o,none⟩ (.int .i64 (jns (m1'.map KT.box)).1)).setCell ⟨b,o + 1,none⟩ (.int .i64 (jns (m1'.map KT.box)).2.1)).setCell ⟨b,o + 2,none⟩ (.int .i64 (jns (m1'.map KT.box)).2.2.1)).setCell ⟨b,o + 3,none⟩ (.int .i64 (jns (m1'.map KT.box)).2.2.2)) = UC at *
  have gN:=gN2
  have gR:=gR2
  clear gN2 gR2
  try simp only [sq]
  refine anyL_pure (i:=10) (v:=?_) rfl (by kernel_rfl) (fun _ _ _ h => h) (Or.inl ⟨by rfl,?_⟩) (Or.inl (by kernel_rfl)) ?_
  rotate_left
  ·intro w hSw;clear hSw;go_simp;try (with_reducible rfl)
  try simp only [sq]
  refine anyL_1 (i:=11) rfl (by kernel_rfl) rfl ?_
  obtain ⟨c0,c1,c2,c3,c4,c5,c6,d0,d1,d2,d3,d4,d5,d6⟩:=cell7k gN
  refine wpo_late (by kernel_rfl) (by go_simp;first | done | with_reducible rfl | rfl | exact ⟨rfl,rfl⟩) ?_
  clear c0 c1 c2 c3 c4 c5 c6 d0 d1 d2 d3 d4 d5 d6
  have hu2:=HU1.out.keep (setL_blk [.int .i64 (jns (m2'.map KT.box)).1,.int .i64 (jns (m2'.map KT.box)).2.1,.int .i64 (jns (m2'.map KT.box)).2.2.1,.int .i64 (jns (m2'.map KT.box)).2.2.2] UC M 0 b (by omega))
  have gR2:=(setL_blk [.int .i64 (jns (m2'.map KT.box)).1,.int .i64 (jns (m2'.map KT.box)).2.1,.int .i64 (jns (m2'.map KT.box)).2.2.1,.int .i64 (jns (m2'.map KT.box)).2.2.2] UC M 0 _ (by omega)).trans gR
  have gN2:=set4k gN (.int .i64 (jns (m2'.map KT.box)).1) (.int .i64 (jns (m2'.map KT.box)).2.1) (.int .i64 (jns (m2'.map KT.box)).2.2.1) (.int .i64 (jns (m2'.map KT.box)).2.2.2)
  have ho2:=fun x (hx:x ≠ b ∧ x ≠ M) => (setL_blk [.int .i64 (jns (m2'.map KT.box)).1,.int .i64 (jns (m2'.map KT.box)).2.1,.int .i64 (jns (m2'.map KT.box)).2.2.1,.int .i64 (jns (m2'.map KT.box)).2.2.2] UC M 0 x (fun e => hx.2 e.symm)).trans (HO1.out x hx.1)
  have hfu:=fr_setN (g:=M) HFU.out (.inr (by omega)) [.int .i64 (jns (m2'.map KT.box)).1,.int .i64 (jns (m2'.map KT.box)).2.1,.int .i64 (jns (m2'.map KT.box)).2.2.1,.int .i64 (jns (m2'.map KT.box)).2.2.2] 0
  simp only [setL,Nat.zero_add,Nat.reduceAdd] at hu2 gR2 ho2 hfu
  have HU2:=hid hu2
  have HO2:=hid ho2
  replace HFU:=hid hfu
  clear HU1 HO1 gN gR hu2 ho2 hfu
  generalize ((((UC.setCell ⟨M,0,none⟩ (.int .i64 (jns (m2'.map KT.box)).1)).setCell ⟨M,1,none⟩ (.int .i64 (jns (m2'.map KT.box)).2.1)).setCell ⟨M,2,none⟩ (.int .i64 (jns (m2'.map KT.box)).2.2.1)).setCell ⟨M,3,none⟩ (.int .i64 (jns (m2'.map KT.box)).2.2.2)) = UD at *
  have gN:=gN2
  have gR:=gR2
  clear gN2 gR2
  try simp only [sq]
  refine anyL_done (by kernel_rfl) ?_ _
  obtain ⟨c0,c1,c2,c3,c4,c5,c6,_,_,_,_,_,_,_⟩:=cell7k gN
  obtain ⟨r0,r1,r2,r3,r4,r5,r6,s0,s1,s2,s3,s4,s5,s6⟩:=cell7k gR
  go_wp2_with fail
  have hF:=setL_new [.int .i64 (jns (m2'.map KT.box)).1,.int .i64 (jns (m2'.map KT.box)).2.1,.int .i64 (jns (m2'.map KT.box)).2.2.1,.int .i64 (jns (m2'.map KT.box)).2.2.2,.bool false,.slice ai2 0 ci2,.slice ak2 2 ck2] gR rfl
  have hO:=fun x (hx:x ≠ w.heap.size) => setL_blk [.int .i64 (jns (m2'.map KT.box)).1,.int .i64 (jns (m2'.map KT.box)).2.1,.int .i64 (jns (m2'.map KT.box)).2.2.1,.int .i64 (jns (m2'.map KT.box)).2.2.2,.bool false,.slice ai2 0 ci2,.slice ak2 2 ck2] UD w.heap.size 0 x (fun e => hx e.symm)
  have hFF:=fr_setN (g:=w.heap.size) HFU.out (.inr (Nat.le_refl _)) [.int .i64 (jns (m2'.map KT.box)).1,.int .i64 (jns (m2'.map KT.box)).2.1,.int .i64 (jns (m2'.map KT.box)).2.2.1,.int .i64 (jns (m2'.map KT.box)).2.2.2,.bool false,.slice ai2 0 ci2,.slice ak2 2 ck2] 0
  simp only [setL,Nat.zero_add,Nat.reduceAdd] at hF hO hFF
  obtain ⟨z0,z1,z2,z3,z4,z5,z6,_,_,_,_,_,_,_⟩:=cell7k hF
  refine bodyPost_ret (v:=.agg #[.int .i64 (jns (m2'.map KT.box)).1,.int .i64 (jns (m2'.map KT.box)).2.1,.int .i64 (jns (m2'.map KT.box)).2.2.1,.int .i64 (jns (m2'.map KT.box)).2.2.2,.bool false,.slice ai2 0 ci2,.slice ak2 2 ck2]) (by simp [results,Tryz.results107,go_sem,z0,z1,z2,z3,z4,z5,z6]) rfl ?_
  obtain ⟨kA,kB,sAB⟩:=HA.out
  obtain ⟨sA,sB⟩:=HSX.out
  have far:∀ x,(x ∈ S ∨ X.heap.size ≤ x) → x ≠ b ∧ x ≠ M ∧ x ≠ w.heap.size:=fun x hx => by
   rcases hx with h | h
   ·have:=hSf x h;exact ⟨fun e => this.1 e.symm,fun e => this.2.1 e.symm,fun e => this.2.2 e.symm⟩
   ·exact ⟨by omega,by omega,by omega⟩
  have kp:∀ x,(x ∈ S ∨ X.heap.size ≤ x) → x < V.heap.size → _ = V.heap[x]?:=fun x hx hl => (hO x (far x hx).2.2).trans ((HO2.out x ⟨(far x hx).1,(far x hx).2.1⟩).trans (HBV.out.block x hl))
  obtain ⟨rfl,rfl⟩:=HTT.out
  have hck1:ckh (knotK m1') (ai1,ci1,ak1,ck1) = [.int .i64 (jns (m1'.map KT.box)).1,.int .i64 (jns (m1'.map KT.box)).2.1,.int .i64 (jns (m1'.map KT.box)).2.2.1,.int .i64 (jns (m1'.map KT.box)).2.2.2,.bool false,.slice ai1 0 ci1,.slice ak1 3 ck1]:=by
   show [_,_,_,_,_,_,Value.slice ak1 m1'.length ck1] = _
   rw [e1']
   rfl
  refine ⟨(ai1,ci1,ak1,ck1),S1,(ai2,ci2,ak2,ck2),S2,?_,by rw [hck1];exact HU2.out.keep (hO b (by omega)),(kA _).keep (fun x hx => kp x (sA x hx) ((kA default).lt x hx).2),(kB _).keep (fun x hx => kp x (sB x hx) ((kB default).lt x hx).2),sAB,fun x hx => (sA x hx).imp id (fun h => by omega),fun x hx => (sB x hx).imp id (fun h => by omega),hFF⟩
  show _ = Ending.returned (.agg #[_,_,_,_,_,_,.slice ak2 m2'.length ck2])
  rw [e2']
  rfl
 ·skip
  obtain ⟨c0,c1,c2,c3,c4,c5,c6,_,_,_,_,_,_,_⟩:=cell7k gN
  clear hHeld
  refine wpo_val (by go_simp;first | done | with_reducible rfl | rfl | exact ⟨rfl,rfl⟩) ?_
  clear c0 c1 c2 c3 c4 c5 c6
  refine ⟨by (obtain ⟨a0,a1,a2,a3,a4,a5,a6,_,_,_,_,_,_,_⟩:=hBv.k7;obtain ⟨c0,c1,c2,c3,c4,c5,c6,_,_,_,_,_,_,_⟩:=cell7k gN;exact ⟨a0,a1,a2,a3,a4,a5,a6,c0,c1,c2,c3,c4,c5,c6⟩),fun hHeld => ?_⟩
  try simp only [sq]
  refine anyL_1 (i:=4) rfl (by kernel_rfl) rfl ?_
  refine wpo_call (ARA.out _ HBV.out) ?_ (fun e w' hp => ?_) (fun v UA hp => ?_)
  ·go_simp
  ·exact ⟨_,hp.1⟩
  clear hHeld ARA
  obtain ⟨e0,hb2⟩:=hp
  injection e0 with e0
  subst e0
  replace hBv:=hBv.below hb2
  replace gN:=keepheap hb2 gN
  replace gR:=keepheap hb2 gR
  replace HBV:=hid (btrans HBV.out hb2)
  clear hb2
  refine ⟨by (obtain ⟨a0,a1,a2,a3,a4,a5,a6,_,_,_,_,_,_,_⟩:=hBv.k7;obtain ⟨c0,c1,c2,c3,c4,c5,c6,_,_,_,_,_,_,_⟩:=cell7k gN;exact ⟨a0,a1,a2,a3,a4,a5,a6,c0,c1,c2,c3,c4,c5,c6⟩),fun hHeld => ?_⟩
  try simp only [sq]
  refine anyL_1 (i:=6) rfl (by kernel_rfl) rfl ?_
  refine wpo_call (ARB.out _ HBV.out) ?_ (fun e w' hp => ?_) (fun v UB hp => ?_)
  ·go_simp
  ·exact ⟨_,hp.1⟩
  clear hHeld ARB
  obtain ⟨e0,hb2⟩:=hp
  injection e0 with e0
  subst e0
  replace hBv:=hBv.below hb2
  replace gN:=keepheap hb2 gN
  replace gR:=keepheap hb2 gR
  replace HBV:=hid (btrans HBV.out hb2)
  clear hb2
  refine ⟨by (obtain ⟨a0,a1,a2,a3,a4,a5,a6,_,_,_,_,_,_,_⟩:=hBv.k7;obtain ⟨c0,c1,c2,c3,c4,c5,c6,_,_,_,_,_,_,_⟩:=cell7k gN;exact ⟨a0,a1,a2,a3,a4,a5,a6,c0,c1,c2,c3,c4,c5,c6⟩),fun hHeld => ?_⟩
  try simp only [sq]
  refine tkP 7 hHeld ?_
  try simp only [sq]
  refine tkP 8 hHeld ?_
  try simp only [sq]
  refine anyL_1 (i:=9) rfl (by kernel_rfl) rfl ?_
  obtain ⟨a0,a1,a2,a3,a4,a5,a6,f0,f1,f2,f3,f4,f5,f6⟩:=hBv.k7
  refine wpo_late (by kernel_rfl) (by go_simp;first | done | with_reducible rfl | rfl | exact ⟨rfl,rfl⟩) ?_
  clear a0 a1 a2 a3 a4 a5 a6 f0 f1 f2 f3 f4 f5 f6
  have hu1:=hBv.set4 (.int .i64 (jns (m1'.map KT.box)).1) (.int .i64 (jns (m1'.map KT.box)).2.1) (.int .i64 (jns (m1'.map KT.box)).2.2.1) (.int .i64 (jns (m1'.map KT.box)).2.2.2)
  have gN2:=(setL_blk [.int .i64 (jns (m1'.map KT.box)).1,.int .i64 (jns (m1'.map KT.box)).2.1,.int .i64 (jns (m1'.map KT.box)).2.2.1,.int .i64 (jns (m1'.map KT.box)).2.2.2] UB b o M (by omega)).trans gN
  have gR2:=(setL_blk [.int .i64 (jns (m1'.map KT.box)).1,.int .i64 (jns (m1'.map KT.box)).2.1,.int .i64 (jns (m1'.map KT.box)).2.2.1,.int .i64 (jns (m1'.map KT.box)).2.2.2] UB b o _ (by omega)).trans gR
  have ho1:=fun x (hx:x ≠ b) => setL_blk [.int .i64 (jns (m1'.map KT.box)).1,.int .i64 (jns (m1'.map KT.box)).2.1,.int .i64 (jns (m1'.map KT.box)).2.2.1,.int .i64 (jns (m1'.map KT.box)).2.2.2] UB b o x (fun e => hx e.symm)
  have hfu:=fr_setN (g:=b) (HVF.out.trans (Fr.of HBV.out []) (fun k hk => by cases hk)) (.inl hbS2) [.int .i64 (jns (m1'.map KT.box)).1,.int .i64 (jns (m1'.map KT.box)).2.1,.int .i64 (jns (m1'.map KT.box)).2.2.1,.int .i64 (jns (m1'.map KT.box)).2.2.2] o
  simp only [setL,Nat.add_assoc,Nat.reduceAdd] at gN2 gR2 ho1 hfu
  have HU1:=hid hu1
  have HO1:=hid ho1
  have HFU:=hid hfu
  clear hBv gN gR hu1 ho1 hfu
  generalize ((((UB.setCell ⟨b,o,none⟩ (.int .i64 (jns (m1'.map KT.box)).1)).setCell ⟨b,o + 1,none⟩ (.int .i64 (jns (m1'.map KT.box)).2.1)).setCell ⟨b,o + 2,none⟩ (.int .i64 (jns (m1'.map KT.box)).2.2.1)).setCell ⟨b,o + 3,none⟩ (.int .i64 (jns (m1'.map KT.box)).2.2.2)) = UC at *
  have gN:=gN2
  have gR:=gR2
  clear gN2 gR2
  try simp only [sq]
  refine anyL_pure (i:=10) (v:=?_) rfl (by kernel_rfl) (fun _ _ _ h => h) (Or.inl ⟨by rfl,?_⟩) (Or.inl (by kernel_rfl)) ?_
  rotate_left
  ·intro w hSw;clear hSw;go_simp;try (with_reducible rfl)
  try simp only [sq]
  refine anyL_1 (i:=11) rfl (by kernel_rfl) rfl ?_
  obtain ⟨c0,c1,c2,c3,c4,c5,c6,d0,d1,d2,d3,d4,d5,d6⟩:=cell7k gN
  refine wpo_late (by kernel_rfl) (by go_simp;first | done | with_reducible rfl | rfl | exact ⟨rfl,rfl⟩) ?_
  clear c0 c1 c2 c3 c4 c5 c6 d0 d1 d2 d3 d4 d5 d6
  have hu2:=HU1.out.keep (setL_blk [.int .i64 (jns (m2'.map KT.box)).1,.int .i64 (jns (m2'.map KT.box)).2.1,.int .i64 (jns (m2'.map KT.box)).2.2.1,.int .i64 (jns (m2'.map KT.box)).2.2.2] UC M 0 b (by omega))
  have gR2:=(setL_blk [.int .i64 (jns (m2'.map KT.box)).1,.int .i64 (jns (m2'.map KT.box)).2.1,.int .i64 (jns (m2'.map KT.box)).2.2.1,.int .i64 (jns (m2'.map KT.box)).2.2.2] UC M 0 _ (by omega)).trans gR
  have gN2:=set4k gN (.int .i64 (jns (m2'.map KT.box)).1) (.int .i64 (jns (m2'.map KT.box)).2.1) (.int .i64 (jns (m2'.map KT.box)).2.2.1) (.int .i64 (jns (m2'.map KT.box)).2.2.2)
  have ho2:=fun x (hx:x ≠ b ∧ x ≠ M) => (setL_blk [.int .i64 (jns (m2'.map KT.box)).1,.int .i64 (jns (m2'.map KT.box)).2.1,.int .i64 (jns (m2'.map KT.box)).2.2.1,.int .i64 (jns (m2'.map KT.box)).2.2.2] UC M 0 x (fun e => hx.2 e.symm)).trans (HO1.out x hx.1)
  have hfu:=fr_setN (g:=M) HFU.out (.inr (by omega)) [.int .i64 (jns (m2'.map KT.box)).1,.int .i64 (jns (m2'.map KT.box)).2.1,.int .i64 (jns (m2'.map KT.box)).2.2.1,.int .i64 (jns (m2'.map KT.box)).2.2.2] 0
  simp only [setL,Nat.zero_add,Nat.reduceAdd] at hu2 gR2 ho2 hfu
  have HU2:=hid hu2
  have HO2:=hid ho2
  replace HFU:=hid hfu
  clear HU1 HO1 gN gR hu2 ho2 hfu
  generalize ((((UC.setCell ⟨M,0,none⟩ (.int .i64 (jns (m2'.map KT.box)).1)).setCell ⟨M,1,none⟩ (.int .i64 (jns (m2'.map KT.box)).2.1)).setCell ⟨M,2,none⟩ (.int .i64 (jns (m2'.map KT.box)).2.2.1)).setCell ⟨M,3,none⟩ (.int .i64 (jns (m2'.map KT.box)).2.2.2)) = UD at *
  have gN:=gN2
  have gR:=gR2
  clear gN2 gR2
  try simp only [sq]
  refine anyL_done (by kernel_rfl) ?_ _
  obtain ⟨c0,c1,c2,c3,c4,c5,c6,_,_,_,_,_,_,_⟩:=cell7k gN
  obtain ⟨r0,r1,r2,r3,r4,r5,r6,s0,s1,s2,s3,s4,s5,s6⟩:=cell7k gR
  go_wp2_with fail
  have hF:=setL_new [.int .i64 (jns (m2'.map KT.box)).1,.int .i64 (jns (m2'.map KT.box)).2.1,.int .i64 (jns (m2'.map KT.box)).2.2.1,.int .i64 (jns (m2'.map KT.box)).2.2.2,.bool false,.slice ai2 0 ci2,.slice ak2 2 ck2] gR rfl
  have hO:=fun x (hx:x ≠ w.heap.size) => setL_blk [.int .i64 (jns (m2'.map KT.box)).1,.int .i64 (jns (m2'.map KT.box)).2.1,.int .i64 (jns (m2'.map KT.box)).2.2.1,.int .i64 (jns (m2'.map KT.box)).2.2.2,.bool false,.slice ai2 0 ci2,.slice ak2 2 ck2] UD w.heap.size 0 x (fun e => hx e.symm)
  have hFF:=fr_setN (g:=w.heap.size) HFU.out (.inr (Nat.le_refl _)) [.int .i64 (jns (m2'.map KT.box)).1,.int .i64 (jns (m2'.map KT.box)).2.1,.int .i64 (jns (m2'.map KT.box)).2.2.1,.int .i64 (jns (m2'.map KT.box)).2.2.2,.bool false,.slice ai2 0 ci2,.slice ak2 2 ck2] 0
  simp only [setL,Nat.zero_add,Nat.reduceAdd] at hF hO hFF
  obtain ⟨z0,z1,z2,z3,z4,z5,z6,_,_,_,_,_,_,_⟩:=cell7k hF
  refine bodyPost_ret (v:=.agg #[.int .i64 (jns (m2'.map KT.box)).1,.int .i64 (jns (m2'.map KT.box)).2.1,.int .i64 (jns (m2'.map KT.box)).2.2.1,.int .i64 (jns (m2'.map KT.box)).2.2.2,.bool false,.slice ai2 0 ci2,.slice ak2 2 ck2]) (by simp [results,Tryz.results107,go_sem,z0,z1,z2,z3,z4,z5,z6]) rfl ?_
  obtain ⟨kA,kB,sAB⟩:=HA.out
  obtain ⟨sA,sB⟩:=HSX.out
  have far:∀ x,(x ∈ S ∨ X.heap.size ≤ x) → x ≠ b ∧ x ≠ M ∧ x ≠ w.heap.size:=fun x hx => by
   rcases hx with h | h
   ·have:=hSf x h;exact ⟨fun e => this.1 e.symm,fun e => this.2.1 e.symm,fun e => this.2.2 e.symm⟩
   ·exact ⟨by omega,by omega,by omega⟩
  have kp:∀ x,(x ∈ S ∨ X.heap.size ≤ x) → x < V.heap.size → _ = V.heap[x]?:=fun x hx hl => (hO x (far x hx).2.2).trans ((HO2.out x ⟨(far x hx).1,(far x hx).2.1⟩).trans (HBV.out.block x hl))
  obtain ⟨rfl,rfl⟩:=HTT.out
  have hck1:ckh (knotK m1') (ai1,ci1,ak1,ck1) = [.int .i64 (jns (m1'.map KT.box)).1,.int .i64 (jns (m1'.map KT.box)).2.1,.int .i64 (jns (m1'.map KT.box)).2.2.1,.int .i64 (jns (m1'.map KT.box)).2.2.2,.bool false,.slice ai1 0 ci1,.slice ak1 3 ck1]:=by
   show [_,_,_,_,_,_,Value.slice ak1 m1'.length ck1] = _
   rw [e1']
   rfl
  refine ⟨(ai1,ci1,ak1,ck1),S1,(ai2,ci2,ak2,ck2),S2,?_,by rw [hck1];exact HU2.out.keep (hO b (by omega)),(kA _).keep (fun x hx => kp x (sA x hx) ((kA default).lt x hx).2),(kB _).keep (fun x hx => kp x (sB x hx) ((kB default).lt x hx).2),sAB,fun x hx => (sA x hx).imp id (fun h => by omega),fun x hx => (sB x hx).imp id (fun h => by omega),hFF⟩
  show _ = Ending.returned (.agg #[_,_,_,_,_,_,.slice ak2 m2'.length ck2])
  rw [e2']
  rfl
theorem insert_end (lo g c n vb:Nat) (ps:List KP) (q:KP) (w:World) (h:w.ownsRow lo 35 7 (.slice (some ⟨g,0,none⟩) n c) n (flK ps)) (hn:n ≤ 1048576) (hlo:lo ≤ w.heap.size) (hv:w.heap[vb]? = some (.cells (ckh q.1 q.2.1).toArray 35 (0,0))):Calls Tryz.prog 108 #[.slice (some ⟨g,0,none⟩) n c,.int .i64 n,.slice (some ⟨vb,0,none⟩) 1 1] w fun e w' => ∃ a' c',e = .returned (.slice a' (n + 1) c') ∧ w'.ownsRow lo 35 7 (.slice a' (n + 1) c') (n + 1) (flK ps ++ ckh q.1 q.2.1) ∧ w.grownBy w' (Value.ownBlock (.slice (some ⟨g,0,none⟩) n c)) ∧ ∀ k ∈ hb a',k ∈ hb (some (⟨g,0,none⟩:Addr)) ∨ k = w.heap.size:=by
 obtain ⟨k0,hki0,hkz0,hkz1,hkzz⟩:=info_parts Tryz.infoKn
 have HR:=hid h
 have hc:=row_caps h
 have hc1:=hc.1
 have hn0:(0:Int) ≤ (n:Int):=by omega
 have SRC:=hid (show SrcA w (some ⟨vb,0,none⟩) 1 (ckh q.1 q.2.1) from .inr ⟨_,rfl,src_blk hv⟩)
 have H1:=hid (show ∀ u ∈ ckh q.1 q.2.1,u.oneCell' = true from fun u hu => flK_one [q] u (by show u ∈ ckh q.1 q.2.1 ++ [];rw [List.append_nil];exact hu))
 clear h hv hc
 go_enter Tryz.func108,Tryz.ntmps108
 go_wp2_with (at_builtin;refine wpList_app rfl (.tmp 23) (.tmp 24) 33 rfl lo 35 k0 _ 7 88 Tryz.underlying33 hki0 hkz0 hkz1 hkzz rfl (by decide) (some ⟨g,0,none⟩) n c (flK ps) (by rfl) HR.out (some ⟨vb,0,none⟩) 1 1 (ckh q.1 q.2.1) (by rfl) SRC.out (ckp_len q) H1.out (by unfold maxLen;omega) (by omega) hlo ?_;intro a' c' W2 hown hgrow hat)
 all_goals
  go_ret
  exact ⟨_,_,rfl,by assumption,by assumption,by assumption⟩
end Go.Proofs.YtjahlofahjgdbaaGreat
