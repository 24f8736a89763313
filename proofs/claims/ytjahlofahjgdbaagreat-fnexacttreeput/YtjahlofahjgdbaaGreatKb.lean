import Derived.Test.YtjahlofahjgdbaaGreatJ15
import Derived.BigQuiet
set_option maxRecDepth 100000
set_option maxHeartbeats 16000000
set_option linter.unusedSimpArgs false
set_option linter.unusedVariables false
namespace Go.Proofs.YtjahlofahjgdbaaGreat
open Go.RowKit
theorem two_far {b M i j x:Nat} {u v:Value} (w:World) (h1:b ≠ x) (h2:M ≠ x):((w.setCell ⟨b,i,none⟩ u).setCell ⟨M,j,none⟩ v).heap[x]? = w.heap[x]?:=(heap_set _ M j x _ h2).trans (heap_set _ b i x _ h1)
theorem around_leaf {m:Nat} {ia ka:Option Addr} {ic kc:Nat} {w:World} (b:Bx) (l:List It) (hl:l.all (fun x => bkb x.2) = true) (h:KnR m w ia ic ka kc (.mk b true l [])) (hz:l.length ≤ 1048576):Calls Tryz.prog 90 #[.agg #[.int .i64 b.1,.int .i64 b.2.1,.int .i64 b.2.2.1,.int .i64 b.2.2.2,.bool true,.slice ia l.length ic,.slice ka 0 kc]] w fun e w' => e = .returned (.agg #[.int .i64 (jns (l.map (·.2))).1,.int .i64 (jns (l.map (·.2))).2.1,.int .i64 (jns (l.map (·.2))).2.2.1,.int .i64 (jns (l.map (·.2))).2.2.2]) ∧ Below w.heap.size w w':=by
 have:=impl_aroundR m _ ia ka ic kc w h (by show l.length + 0 ≤ _;omega)
 rw [arI_leaf hl] at this
 exact this
theorem around_kids {m:Nat} {ia ka:Option Addr} {ic kc:Nat} {w:World} (b:Bx) (ks:List KT) (hl:ks.all (fun k => bkb k.box) = true) (h:KnR m w ia ic ka kc (.mk b false [] ks)) (hz:ks.length ≤ 1048576):Calls Tryz.prog 90 #[.agg #[.int .i64 b.1,.int .i64 b.2.1,.int .i64 b.2.2.1,.int .i64 b.2.2.2,.bool false,.slice ia 0 ic,.slice ka ks.length kc]] w fun e w' => e = .returned (.agg #[.int .i64 (jns (ks.map KT.box)).1,.int .i64 (jns (ks.map KT.box)).2.1,.int .i64 (jns (ks.map KT.box)).2.2.1,.int .i64 (jns (ks.map KT.box)).2.2.2]) ∧ Below w.heap.size w w':=by
 have:=impl_aroundR m _ ia ka ic kc w h (by show 0 + ks.length ≤ _;omega)
 rw [arI_kids hl] at this
 exact this
theorem impl_splitI (lo n0 b o:Nat) (P R:List Value) (b0 b1 b2 b3:Int) (its:List It) (ia ka:Option Addr) (ic kc:Nat) (S:List Nat) (w:World) (k:KO lo (n0 + 1) w (ia,ic,ka,kc) S (.mk (b0,b1,b2,b3) true its [])) (hlo:lo ≤ w.heap.size) (hB:BK w b o P R [.int .i64 b0,.int .i64 b1,.int .i64 b2,.int .i64 b3,.bool true,.slice ia 5 ic,.slice ka 0 kc]) (hbS:b ∉ S) (h5:its.length = 5) (hok:its.all (fun x => bkb x.2) = true):Calls Tryz.prog 107 #[.pointer (some ⟨b,o,none⟩)] w (SpA w lo (n0 + 1) b o P R S (knotL ((isort befI its).take 3)) (knotL ((isort befI its).drop 3))):=by
 have hSl:∀ x ∈ S,x < w.heap.size:=fun x hx => (k.lt x hx).2
 obtain ⟨ps,l1,r1,r2,hS,hN,hk⟩:=k
 have hps:ps = []:=by
  have:([]:List KT) = ps.map (·.1):=l1
  exact List.map_eq_nil_iff.1 this.symm
 subst hps
 have r1':w.ownsRow lo 40 5 (.slice ia 5 ic) 5 (flI its):=by have:w.ownsRow lo 40 5 (.slice ia its.length ic) its.length (flI its):=r1;rw [h5] at this;exact this
 have r2':w.ownsRow lo 35 7 (.slice ka 0 kc) 0 []:=r2
 clear r1 r2
 obtain ⟨g,e0,hgl,_⟩:=row_cs r1' (by omega)
 subst e0
 have hgS:g ∈ S:=hS.mem_iff.2 (by simp [hb])
 have hkS:∀ x ∈ hb ka,x ∈ S:=fun x hx => hS.mem_iff.2 (by simp only [List.mem_append];exact .inl (.inr hx))
 have hgk:∀ x ∈ hb ka,x ≠ g:=fun x hx e => by
  have hN2:=hS.nodup_iff.1 hN
  rw [List.nodup_append,List.nodup_append] at hN2
  exact hN2.1.2.2 g (by simp [hb]) x hx e.symm
 have hbw:b < w.heap.size:=hB.lt
 have hgb:g ≠ b:=fun e => hbS (e ▸ hgS)
 have HROW:=hid r1'
 have HOTH:=hid r2'
 have gR:=new_alloc w w.heap.size (.cells #[.int .i64 0,.int .i64 0,.int .i64 0,.int .i64 0,.bool false,.slice none 0 0,.slice none 0 0] 35) rfl
 have hB0:=balloc (Below.refl w.heap.size w) (.cells #[.int .i64 0,.int .i64 0,.int .i64 0,.int .i64 0,.bool false,.slice none 0 0,.slice none 0 0] 35)
 have HF:=hid (Fr.of hB0 (b :: S))
 replace HROW:=hid (row_blk HROW.out (fun x hx => hB0.block x (row_lt HROW.out x hx).2))
 replace HOTH:=hid (row_blk HOTH.out (fun x hx => hB0.block x (row_lt HOTH.out x hx).2))
 have hBv:=hB.below hB0
 have hgS2:g ∈ b :: S:=List.mem_cons_of_mem _ hgS
 have hbS2:b ∈ b :: S:=List.mem_cons_self ..
 have hgR:w.heap.size ≠ g:=by omega
 have hbR:w.heap.size ≠ b:=by omega
 have hOthB:∀ x ∈ hb ka,x ≠ b:=fun x hx e => hbS (e ▸ hkS x hx)
 have HBLD:Tryz.prog.built 35 [(1,.bool true)] = some #[.int .i64 0,.int .i64 0,.int .i64 0,.int .i64 0,.bool true,.slice none 0 0,.slice none 0 0]:=by kernel_rfl
 clear r1' r2' hB hB0
 go_enter Tryz.func107,Tryz.ntmps107
 obtain ⟨a0,a1,a2,a3,a4,a5,a6,f0,f1,f2,f3,f4,f5,f6⟩:=hBv.k7
 go_wp2_with fail
 refine (sortf_items 5 ic (some ⟨g,0,none⟩) (by omega) _ (fun e w' => w'.ownsRow lo 40 5 (.slice (some ⟨g,0,none⟩) 5 ic) 5 (flI (isort befI its)) ∧ Fr [g] (w.alloc (.cells #[.int .i64 0,.int .i64 0,.int .i64 0,.int .i64 0,.bool false,.slice none 0 0,.slice none 0 0] 35)) w') ((ins_items lo g ic 5 its _ HROW.out h5 (by omega) (by omega) hok).mono (fun e w' ⟨q1,q2,q3⟩ => ⟨q1,q2,q3⟩))).mono ?_
 rintro e v1 ⟨rfl,hrow,hf⟩
 replace hBv:=hBv.keep (hf.blk b hBv.lt (by rw [List.mem_singleton];exact hgb.symm))
 replace gR:=(hf.blk _ (lt_of_heap gR) (by rw [List.mem_singleton];exact hgR)).trans gR
 replace HF:=hid (fr_step HF.out hf (fun x hx => by rw [List.mem_singleton] at hx;subst hx;exact .inl hgS2))
 replace HOTH:=hid (row_blk HOTH.out (fun x hx => hf.blk x (row_lt HOTH.out x hx).2 (by rw [List.mem_singleton];exact hgk x hx)))
 replace HROW:=hid hrow
 clear hrow hf a0 a1 a2 a3 a4 a5 a6 f0 f1 f2 f3 f4 f5 f6
 obtain ⟨a0,a1,a2,a3,a4,a5,a6,f0,f1,f2,f3,f4,f5,f6⟩:=hBv.k7
 go_wp2_with fail
 refine (sorts_knots 0 kc ka (by omega) v1 (fun e w' => w' = v1) ((ins_knots0 kc ka v1 _).mono (fun e w' ⟨q1,q2⟩ => ⟨q1,q2⟩))).mono ?_
 rintro e v2 ⟨rfl,hv⟩
 replace hv:=hv.symm
 subst hv
 go_upto_region 4 with fail
 obtain ⟨M,hM⟩:∃ M,M = v1.heap.size:=⟨_,rfl⟩
 have gN:=heap_alloc_new v1 (.cells #[.int .i64 0,.int .i64 0,.int .i64 0,.int .i64 0,.bool true,.slice none 0 0,.slice none 0 0] 35)
 have hbM:b < v1.heap.size:=hBv.lt
 have hRM:=lt_of_heap gR
 have hbel:=balloc (Below.refl v1.heap.size v1) (.cells #[.int .i64 0,.int .i64 0,.int .i64 0,.int .i64 0,.bool true,.slice none 0 0,.slice none 0 0] 35)
 rw [← hM] at gN
 refine wp_wld (fun X => X.heap[M]? = some (.cells #[.int .i64 0,.int .i64 0,.int .i64 0,.int .i64 0,.bool true,.slice none 0 0,.slice none 0 0] 35 (0,0)) ∧ Below v1.heap.size v1 X) ⟨gN,hbel⟩ ?_
 clear gN hbel
 rintro X ⟨gN,hbel⟩
 replace hBv:=hBv.below hbel
 replace gR:=keepheap hbel gR
 replace HROW:=hid (row_blk HROW.out (fun x hx => hbel.block x (row_lt HROW.out x hx).2))
 replace HOTH:=hid (row_blk HOTH.out (fun x hx => hbel.block x (row_lt HOTH.out x hx).2))
 replace HF:=hid (HF.out.bel hbel)
 rw [← hM] at hbM hRM ⊢
 clear hbel hM a0 a1 a2 a3 a4 a5 a6 f0 f1 f2 f3 f4 f5 f6
 obtain ⟨a0,a1,a2,a3,a4,a5,a6,f0,f1,f2,f3,f4,f5,f6⟩:=hBv.k7
 obtain ⟨c0,c1,c2,c3,c4,c5,c6,d0,d1,d2,d3,d4,d5,d6⟩:=cell7k gN
 have hXw:w.heap.size ≤ X.heap.size:=HF.out.size
 have hSf:∀ x ∈ S,b ≠ x ∧ M ≠ x ∧ w.heap.size ≠ x:=fun x hx => ⟨fun e => hbS (e ▸ hx),by have:=hSl x hx;omega,by have:=hSl x hx;omega⟩
 have hMX:=lt_of_heap gN
 go_wp2_with fail
 refine (cut5_items lo g ic (isort befI its) X HROW.out (by rw [isort_len];exact h5)).mono ?_
 rintro e Y0 ⟨ai1,ci1,ai2,ci2,rfl,rI1,rI2,hdI,hb2⟩
 have hIl1:∀ x ∈ hb ai1,X.heap.size ≤ x ∧ x < Y0.heap.size:=row_lt rI1
 have hIl2:∀ x ∈ hb ai2,X.heap.size ≤ x ∧ x < Y0.heap.size:=row_lt rI2
 have HI1:=hid (own_base rI1 hXw)
 have HI2:=hid (own_base rI2 hXw)
 replace hBv:=hBv.below hb2
 replace gR:=keepheap hb2 gR
 replace gN:=keepheap hb2 gN
 replace HOTH:=hid (row_blk HOTH.out (fun x hx => hb2.block x (row_lt HOTH.out x hx).2))
 replace HF:=hid (HF.out.bel hb2)
 have hYX:=hb2.size
 clear rI1 rI2 hb2 a0 a1 a2 a3 a4 a5 a6 f0 f1 f2 f3 f4 f5 f6 c0 c1 c2 c3 c4 c5 c6 d0 d1 d2 d3 d4 d5 d6 HROW
 obtain ⟨a0,a1,a2,a3,a4,a5,a6,f0,f1,f2,f3,f4,f5,f6⟩:=hBv.k7
 obtain ⟨c0,c1,c2,c3,c4,c5,c6,d0,d1,d2,d3,d4,d5,d6⟩:=cell7k gN
 go_upto_region 5 with fail
 clear a0 a1 a2 a3 a4 a5 a6 f0 f1 f2 f3 f4 f5 f6 c0 c1 c2 c3 c4 c5 c6 d0 d1 d2 d3 d4 d5 d6
 refine wp_wld (fun X => BK X b o P R [.int .i64 b0,.int .i64 b1,.int .i64 b2,.int .i64 b3,.bool true,.slice ai1 3 ci1,.slice ka 0 kc] ∧ X.heap[M]? = some (.cells #[.int .i64 0,.int .i64 0,.int .i64 0,.int .i64 0,.bool true,.slice ai2 2 ci2,.slice none 0 0] 35 (0,0)) ∧ X.heap[w.heap.size]? = some (.cells #[.int .i64 0,.int .i64 0,.int .i64 0,.int .i64 0,.bool false,.slice none 0 0,.slice none 0 0] 35 (0,0)) ∧ Hid (X.ownsRow w.heap.size 40 5 (.slice ai1 3 ci1) 3 (flI ((isort befI its).take 3))) ∧ Hid (X.ownsRow w.heap.size 40 5 (.slice ai2 2 ci2) 2 (flI ((isort befI its).drop 3))) ∧ Hid (X.ownsRow lo 35 7 (.slice ka 0 kc) 0 []) ∧ Hid (Fr (b :: S) w X) ∧ Y0.heap.size ≤ X.heap.size) ⟨(hBv.set5 _).keep (heap_set _ _ _ _ _ (by omega)),set_5k ((heap_set _ _ _ _ _ (by omega)).trans gN) _,(two_far _ (by omega) (by omega)).trans gR,hid (row_blk HI1.out (fun x hx => two_far _ (by have:=hIl1 x hx;omega) (by have:=hIl1 x hx;omega))),hid (row_blk HI2.out (fun x hx => two_far _ (by have:=hIl2 x hx;omega) (by have:=hIl2 x hx;omega))),hid (row_blk HOTH.out (fun x hx => (two_far _ (hSf x (hkS x hx)).1 (hSf x (hkS x hx)).2.1))),hid (fr_set (fr_set HF.out (.inl hbS2)) (.inr (by omega))),by simp⟩ ?_
 clear hBv gN gR HI1 HI2 HOTH HF
 rintro Y ⟨hBv,gN,gR,HI1,HI2,HOTH,HF,hYY⟩
 obtain ⟨a0,a1,a2,a3,a4,a5,a6,f0,f1,f2,f3,f4,f5,f6⟩:=hBv.k7
 obtain ⟨c0,c1,c2,c3,c4,c5,c6,d0,d1,d2,d3,d4,d5,d6⟩:=cell7k gN
 go_wp2_with fail
 refine (cut0_knots lo kc ka Y HOTH.out).mono ?_
 rintro e Z0 ⟨ak1,ck1,ak2,ck2,rfl,rK1,rK2,hdK,hb2⟩
 have hKl1:∀ x ∈ hb ak1,Y.heap.size ≤ x ∧ x < Z0.heap.size:=row_lt rK1
 have hKl2:∀ x ∈ hb ak2,Y.heap.size ≤ x ∧ x < Z0.heap.size:=row_lt rK2
 have hYw:w.heap.size ≤ Y.heap.size:=HF.out.size
 have HK1:=hid (own_base rK1 hYw)
 have HK2:=hid (own_base rK2 hYw)
 replace hBv:=hBv.below hb2
 replace gR:=keepheap hb2 gR
 replace gN:=keepheap hb2 gN
 replace HI1:=hid (row_blk HI1.out (fun x hx => hb2.block x (row_lt HI1.out x hx).2))
 replace HI2:=hid (row_blk HI2.out (fun x hx => hb2.block x (row_lt HI2.out x hx).2))
 replace HF:=hid (HF.out.bel hb2)
 have hZY:=hb2.size
 clear rK1 rK2 hb2 HOTH a0 a1 a2 a3 a4 a5 a6 f0 f1 f2 f3 f4 f5 f6 c0 c1 c2 c3 c4 c5 c6 d0 d1 d2 d3 d4 d5 d6
 obtain ⟨a0,a1,a2,a3,a4,a5,a6,f0,f1,f2,f3,f4,f5,f6⟩:=hBv.k7
 obtain ⟨c0,c1,c2,c3,c4,c5,c6,d0,d1,d2,d3,d4,d5,d6⟩:=cell7k gN
 go_upto_region 6 with fail
 clear a0 a1 a2 a3 a4 a5 a6 f0 f1 f2 f3 f4 f5 f6 c0 c1 c2 c3 c4 c5 c6 d0 d1 d2 d3 d4 d5 d6
 refine wp_wld (fun X => BK X b o P R [.int .i64 b0,.int .i64 b1,.int .i64 b2,.int .i64 b3,.bool true,.slice ai1 3 ci1,.slice ak1 0 ck1] ∧ X.heap[M]? = some (.cells #[.int .i64 0,.int .i64 0,.int .i64 0,.int .i64 0,.bool true,.slice ai2 2 ci2,.slice ak2 0 ck2] 35 (0,0)) ∧ X.heap[w.heap.size]? = some (.cells #[.int .i64 0,.int .i64 0,.int .i64 0,.int .i64 0,.bool false,.slice none 0 0,.slice none 0 0] 35 (0,0)) ∧ Hid (X.ownsRow w.heap.size 40 5 (.slice ai1 3 ci1) 3 (flI ((isort befI its).take 3))) ∧ Hid (X.ownsRow w.heap.size 40 5 (.slice ai2 2 ci2) 2 (flI ((isort befI its).drop 3))) ∧ Hid (X.ownsRow w.heap.size 35 7 (.slice ak1 0 ck1) 0 []) ∧ Hid (X.ownsRow w.heap.size 35 7 (.slice ak2 0 ck2) 0 []) ∧ Hid (Fr (b :: S) w X) ∧ Z0.heap.size ≤ X.heap.size) ⟨(hBv.set6 _).keep (heap_set _ _ _ _ _ (by omega)),set_6k ((heap_set _ _ _ _ _ (by omega)).trans gN) _,(two_far _ (by omega) (by omega)).trans gR,hid (row_blk HI1.out (fun x hx => two_far _ (by have:=hIl1 x hx;omega) (by have:=hIl1 x hx;omega))),hid (row_blk HI2.out (fun x hx => two_far _ (by have:=hIl2 x hx;omega) (by have:=hIl2 x hx;omega))),hid (row_blk HK1.out (fun x hx => two_far _ (by have:=hKl1 x hx;omega) (by have:=hKl1 x hx;omega))),hid (row_blk HK2.out (fun x hx => two_far _ (by have:=hKl2 x hx;omega) (by have:=hKl2 x hx;omega))),hid (fr_set (fr_set HF.out (.inl hbS2)) (.inr (by omega))),by simp⟩ ?_
 clear hBv gN gR HI1 HI2 HK1 HK2 HF
 rintro V ⟨hBv,gN,gR,HI1,HI2,HK1,HK2,HF,hVZ⟩
 have e1:((isort befI its).take 3).length = 3:=by rw [List.length_take,isort_len];omega
 have e2:((isort befI its).drop 3).length = 2:=by rw [List.length_drop,isort_len];omega
 have hI:∀ x ∈ isort befI its,bkb x.2 = true:=fun x hx => List.all_eq_true.1 hok x ((isort_perm befI its).mem_iff.1 hx)
 have q1:((isort befI its).take 3).all (fun x => bkb x.2) = true:=List.all_eq_true.2 (fun x hx => hI x (List.mem_of_mem_take hx))
 have q2:((isort befI its).drop 3).all (fun x => bkb x.2) = true:=List.all_eq_true.2 (fun x hx => hI x (List.mem_of_mem_drop hx))
 have kk:∀ (bx:Bx) (l:List It) (n:Nat) (a a':Option Addr) (c c':Nat),l.length = n → V.ownsRow w.heap.size 40 5 (.slice a n c) n (flI l) → V.ownsRow w.heap.size 35 7 (.slice a' 0 c') 0 [] → (∀ x ∈ hb a,x ∉ hb a') → KO lo (n0 + 1) V (a,c,a',c') (hb a ++ hb a' ++ ([]:List KP).flatMap (·.2.2)) (.mk bx true l []):=by
  intro bx l n a a' c c' hl r1 r2 hd
  subst hl
  exact KO.mk' (ps:=[]) rfl (own_base r1 hlo) (own_base r2 hlo) (KOs.nil lo n0 V) (fun x hx => ⟨hd x hx,by simp⟩) (fun x hx => by simp)
 have kA:∀ bx:Bx,KO lo (n0 + 1) V (ai1,ci1,ak1,ck1) (hb ai1 ++ hb ak1 ++ ([]:List KP).flatMap (·.2.2)) (.mk bx true ((isort befI its).take 3) []):=fun bx => kk bx _ 3 ai1 ak1 ci1 ck1 e1 HI1.out HK1.out (fun x hx hc => by have:=hIl1 x hx;have:=hKl1 x hc;omega)
 have kB:∀ bx:Bx,KO lo (n0 + 1) V (ai2,ci2,ak2,ck2) (hb ai2 ++ hb ak2 ++ ([]:List KP).flatMap (·.2.2)) (.mk bx true ((isort befI its).drop 3) []):=fun bx => kk bx _ 2 ai2 ak2 ci2 ck2 e2 HI2.out HK2.out (fun x hx hc => by have:=hIl2 x hx;have:=hKl2 x hc;omega)
 have sA:∀ x ∈ hb ai1 ++ hb ak1 ++ ([]:List KP).flatMap (·.2.2),X.heap.size ≤ x:=fun x hx => by
  simp only [List.flatMap_nil,List.append_nil,List.mem_append] at hx
  rcases hx with h | h
  ·exact (hIl1 x h).1
  ·have:=(hKl1 x h).1;omega
 have sB:∀ x ∈ hb ai2 ++ hb ak2 ++ ([]:List KP).flatMap (·.2.2),X.heap.size ≤ x:=fun x hx => by
  simp only [List.flatMap_nil,List.append_nil,List.mem_append] at hx
  rcases hx with h | h
  ·exact (hIl2 x h).1
  ·have:=(hKl2 x h).1;omega
 have sAB:∀ x ∈ hb ai1 ++ hb ak1 ++ ([]:List KP).flatMap (·.2.2),x ∉ hb ai2 ++ hb ak2 ++ ([]:List KP).flatMap (·.2.2):=fun x hx hc => by
  simp only [List.flatMap_nil,List.append_nil,List.mem_append] at hx hc
  rcases hx with h | h <;> rcases hc with h' | h'
  ·exact hdI x h h'
  ·have:=hIl1 x h;have:=hKl2 x h';omega
  ·have:=hKl1 x h;have:=hIl2 x h';omega
  ·exact hdK x h h'
 have HA:=hid (And.intro kA (And.intro kB sAB))
 have HSX:=hid (show (∀ x ∈ hb ai1 ++ hb ak1 ++ ([]:List KP).flatMap (·.2.2),(x ∈ S ∨ X.heap.size ≤ x)) ∧ ∀ x ∈ hb ai2 ++ hb ak2 ++ ([]:List KP).flatMap (·.2.2),(x ∈ S ∨ X.heap.size ≤ x) from ⟨fun x hx => .inr (sA x hx),fun x hx => .inr (sB x hx)⟩)
 have ARA:=hid (fun (W:World) (hb:Below V.heap.size V W) => around_leaf (b0,b1,b2,b3) _ q1 ((kA _).knr.below hb) (by rw [e1];omega))
 have ARB:=hid (fun (W:World) (hb:Below V.heap.size V W) => around_leaf (0,0,0,0) _ q2 ((kB _).knr.below hb) (by rw [e2];omega))
 generalize ht1:(isort befI its).take 3 = l1 at *
 generalize ht2:(isort befI its).drop 3 = l2 at *
 generalize hb ai1 ++ hb ak1 ++ ([]:List KP).flatMap (·.2.2) = S1 at *
 generalize hb ai2 ++ hb ak2 ++ ([]:List KP).flatMap (·.2.2) = S2 at *
 clear hdI hdK HI1 HI2 HK1 HK2 kA kB sA sB sAB kk
 have HVF:=hid HF.out
 have hVX:X.heap.size ≤ V.heap.size:=by omega
 rw [e1] at ARA
 rw [e2] at ARB
 refine wp_region_late (L:=[9,11]) (S:=(fun w' => w'.cell? ⟨b,o,none⟩ = some (.int .i64 b0) ∧ w'.cell? ⟨b,o + 1,none⟩ = some (.int .i64 b1) ∧ w'.cell? ⟨b,o + 2,none⟩ = some (.int .i64 b2) ∧ w'.cell? ⟨b,o + 3,none⟩ = some (.int .i64 b3) ∧ w'.cell? ⟨b,o + 4,none⟩ = some (.bool true) ∧ w'.cell? ⟨b,o + 5,none⟩ = some (.slice ai1 3 ci1) ∧ w'.cell? ⟨b,o + 6,none⟩ = some (.slice ak1 0 ck1) ∧ w'.cell? ⟨M,0,none⟩ = some (.int .i64 0) ∧ w'.cell? ⟨M,1,none⟩ = some (.int .i64 0) ∧ w'.cell? ⟨M,2,none⟩ = some (.int .i64 0) ∧ w'.cell? ⟨M,3,none⟩ = some (.int .i64 0) ∧ w'.cell? ⟨M,4,none⟩ = some (.bool true) ∧ w'.cell? ⟨M,5,none⟩ = some (.slice ai2 2 ci2) ∧ w'.cell? ⟨M,6,none⟩ = some (.slice ak2 0 ck2))) (by kernel_rfl) ?_ (fun hHeld => ?_)
 ·(obtain ⟨a0,a1,a2,a3,a4,a5,a6,_,_,_,_,_,_,_⟩:=hBv.k7;obtain ⟨c0,c1,c2,c3,c4,c5,c6,_,_,_,_,_,_,_⟩:=cell7k gN;exact ⟨a0,a1,a2,a3,a4,a5,a6,c0,c1,c2,c3,c4,c5,c6⟩)
 have HBV:=hid (bdrew (Below.refl V.heap.size V))
 replace hBv:=hBv.below HBV.out
 replace gN:=keepheap HBV.out gN
 replace gR:=keepheap HBV.out gR
 generalize V.drew = VD at *
 refine tkP 0 hHeld ?_
 try simp only [sq]
 refine tkP 1 hHeld ?_
 try simp only [sq]
 refine tkP 2 hHeld ?_
 try simp only [sq]
 refine tkA 3 hHeld ?_
 try simp only [sq]
 refine anyL_2 (i:=4) (j:=5) rfl rfl (by kernel_rfl) rfl rfl ?_ ?_
 ·skip
  refine wpo_call (ARA.out _ HBV.out) ?_ (fun e w' hp => ?_) (fun v UA hp => ?_)
  ·go_simp
  ·exact ⟨_,hp.1⟩
  clear hHeld ARA
  obtain ⟨e0,hb2⟩:=hp
  injection e0 with e0
  subst e0
  replace hBv:=hBv.below hb2
  replace gN:=keepheap hb2 gN
  replace gR:=keepheap hb2 gR
  replace HBV:=hid (btrans HBV.out hb2)
  clear hb2
  refine ⟨by (obtain ⟨a0,a1,a2,a3,a4,a5,a6,_,_,_,_,_,_,_⟩:=hBv.k7;obtain ⟨c0,c1,c2,c3,c4,c5,c6,_,_,_,_,_,_,_⟩:=cell7k gN;exact ⟨a0,a1,a2,a3,a4,a5,a6,c0,c1,c2,c3,c4,c5,c6⟩),fun hHeld => ?_⟩
  try simp only [sq]
  refine anyL_1 (i:=5) rfl (by kernel_rfl) rfl ?_
  obtain ⟨c0,c1,c2,c3,c4,c5,c6,_,_,_,_,_,_,_⟩:=cell7k gN
  clear hHeld
  refine wpo_val (by go_simp;first | done | with_reducible rfl | rfl | exact ⟨rfl,rfl⟩) ?_
  clear c0 c1 c2 c3 c4 c5 c6
  refine ⟨by (obtain ⟨a0,a1,a2,a3,a4,a5,a6,_,_,_,_,_,_,_⟩:=hBv.k7;obtain ⟨c0,c1,c2,c3,c4,c5,c6,_,_,_,_,_,_,_⟩:=cell7k gN;exact ⟨a0,a1,a2,a3,a4,a5,a6,c0,c1,c2,c3,c4,c5,c6⟩),fun hHeld => ?_⟩
  try simp only [sq]
  refine anyL_1 (i:=6) rfl (by kernel_rfl) rfl ?_
  refine wpo_call (ARB.out _ HBV.out) ?_ (fun e w' hp => ?_) (fun v UB hp => ?_)
  ·go_simp
  ·exact ⟨_,hp.1⟩
  clear hHeld ARB
  obtain ⟨e0,hb2⟩:=hp
  injection e0 with e0
  subst e0
  replace hBv:=hBv.below hb2
  replace gN:=keepheap hb2 gN
  replace gR:=keepheap hb2 gR
  replace HBV:=hid (btrans HBV.out hb2)
  clear hb2
  refine ⟨by (obtain ⟨a0,a1,a2,a3,a4,a5,a6,_,_,_,_,_,_,_⟩:=hBv.k7;obtain ⟨c0,c1,c2,c3,c4,c5,c6,_,_,_,_,_,_,_⟩:=cell7k gN;exact ⟨a0,a1,a2,a3,a4,a5,a6,c0,c1,c2,c3,c4,c5,c6⟩),fun hHeld => ?_⟩
  try simp only [sq]
  refine tkP 7 hHeld ?_
  try simp only [sq]
  refine tkP 8 hHeld ?_
  try simp only [sq]
  refine anyL_1 (i:=9) rfl (by kernel_rfl) rfl ?_
  obtain ⟨a0,a1,a2,a3,a4,a5,a6,f0,f1,f2,f3,f4,f5,f6⟩:=hBv.k7
  refine wpo_late (by kernel_rfl) (by go_simp;first | done | with_reducible rfl | rfl | exact ⟨rfl,rfl⟩) ?_
  clear a0 a1 a2 a3 a4 a5 a6 f0 f1 f2 f3 f4 f5 f6
  have hu1:=hBv.set4 (.int .i64 (jns (l1.map (·.2))).1) (.int .i64 (jns (l1.map (·.2))).2.1) (.int .i64 (jns (l1.map (·.2))).2.2.1) (.int .i64 (jns (l1.map (·.2))).2.2.2)
  have gN2:=(setL_blk [.int .i64 (jns (l1.map (·.2))).1,.int .i64 (jns (l1.map (·.2))).2.1,.int .i64 (jns (l1.map (·.2))).2.2.1,.int .i64 (jns (l1.map (·.2))).2.2.2] UB b o M (by omega)).trans gN
  have gR2:=(setL_blk [.int .i64 (jns (l1.map (·.2))).1,.int .i64 (jns (l1.map (·.2))).2.1,.int .i64 (jns (l1.map (·.2))).2.2.1,.int .i64 (jns (l1.map (·.2))).2.2.2] UB b o _ (by omega)).trans gR
  have ho1:=fun x (hx:x ≠ b) => setL_blk [.int .i64 (jns (l1.map (·.2))).1,.int .i64 (jns (l1.map (·.2))).2.1,.int .i64 (jns (l1.map (·.2))).2.2.1,.int .i64 (jns (l1.map (·.2))).2.2.2] UB b o x (fun e => hx e.symm)
  have hfu:=fr_setN (g:=b) (HVF.out.trans (Fr.of HBV.out []) (fun k hk => by cases hk)) (.inl hbS2) [.int .i64 (jns (l1.map (·.2))).1,.int .i64 (jns (l1.map (·.2))).2.1,.int .i64 (jns (l1.map (·.2))).2.2.1,.int .i64 (jns (l1.map (·.2))).2.2.2] o
  simp only [setL,Nat.add_assoc,Nat.reduceAdd] at gN2 gR2 ho1 hfu
  have HU1:=hid hu1
  have HO1:=hid ho1
  have HFU:=hid hfu
  clear hBv gN gR hu1 ho1 hfu
  generalize ((((UB.setCell ⟨b,o,none⟩ (.int .i64 (jns (l1.map (·.2))).1)).setCell ⟨b,o + 1,none⟩ (.int .i64 (jns (l1.map (·.2))).2.1)).setCell ⟨b,o + 2,none⟩ (.int .i64 (jns (l1.map (·.2))).2.2.1)).setCell ⟨b,o + 3,none⟩ (.int .i64 (jns (l1.map (·.2))).2.2.2)) = UC at *
  have gN:=gN2
  have gR:=gR2
  clear gN2 gR2
  try simp only [sq]
  refine anyL_pure (i:=10) (v:=?_) rfl (by kernel_rfl) (fun _ _ _ h => h) (Or.inl ⟨by rfl,?_⟩) (Or.inl (by kernel_rfl)) ?_
  rotate_left
  ·intro w hSw;clear hSw;go_simp;try (with_reducible rfl)
  try simp only [sq]
  refine anyL_1 (i:=11) rfl (by kernel_rfl) rfl ?_
  obtain ⟨c0,c1,c2,c3,c4,c5,c6,d0,d1,d2,d3,d4,d5,d6⟩:=cell7k gN
  refine wpo_late (by kernel_rfl) (by go_simp;first | done | with_reducible rfl | rfl | exact ⟨rfl,rfl⟩) ?_
  clear c0 c1 c2 c3 c4 c5 c6 d0 d1 d2 d3 d4 d5 d6
  have hu2:=HU1.out.keep (setL_blk [.int .i64 (jns (l2.map (·.2))).1,.int .i64 (jns (l2.map (·.2))).2.1,.int .i64 (jns (l2.map (·.2))).2.2.1,.int .i64 (jns (l2.map (·.2))).2.2.2] UC M 0 b (by omega))
  have gR2:=(setL_blk [.int .i64 (jns (l2.map (·.2))).1,.int .i64 (jns (l2.map (·.2))).2.1,.int .i64 (jns (l2.map (·.2))).2.2.1,.int .i64 (jns (l2.map (·.2))).2.2.2] UC M 0 _ (by omega)).trans gR
  have gN2:=set4k gN (.int .i64 (jns (l2.map (·.2))).1) (.int .i64 (jns (l2.map (·.2))).2.1) (.int .i64 (jns (l2.map (·.2))).2.2.1) (.int .i64 (jns (l2.map (·.2))).2.2.2)
  have ho2:=fun x (hx:x ≠ b ∧ x ≠ M) => (setL_blk [.int .i64 (jns (l2.map (·.2))).1,.int .i64 (jns (l2.map (·.2))).2.1,.int .i64 (jns (l2.map (·.2))).2.2.1,.int .i64 (jns (l2.map (·.2))).2.2.2] UC M 0 x (fun e => hx.2 e.symm)).trans (HO1.out x hx.1)
  have hfu:=fr_setN (g:=M) HFU.out (.inr (by omega)) [.int .i64 (jns (l2.map (·.2))).1,.int .i64 (jns (l2.map (·.2))).2.1,.int .i64 (jns (l2.map (·.2))).2.2.1,.int .i64 (jns (l2.map (·.2))).2.2.2] 0
  simp only [setL,Nat.zero_add,Nat.reduceAdd] at hu2 gR2 ho2 hfu
  have HU2:=hid hu2
  have HO2:=hid ho2
  replace HFU:=hid hfu
  clear HU1 HO1 gN gR hu2 ho2 hfu
  generalize ((((UC.setCell ⟨M,0,none⟩ (.int .i64 (jns (l2.map (·.2))).1)).setCell ⟨M,1,none⟩ (.int .i64 (jns (l2.map (·.2))).2.1)).setCell ⟨M,2,none⟩ (.int .i64 (jns (l2.map (·.2))).2.2.1)).setCell ⟨M,3,none⟩ (.int .i64 (jns (l2.map (·.2))).2.2.2)) = UD at *
  have gN:=gN2
  have gR:=gR2
  clear gN2 gR2
  try simp only [sq]
  refine anyL_done (by kernel_rfl) ?_ _
  obtain ⟨c0,c1,c2,c3,c4,c5,c6,_,_,_,_,_,_,_⟩:=cell7k gN
  obtain ⟨r0,r1,r2,r3,r4,r5,r6,s0,s1,s2,s3,s4,s5,s6⟩:=cell7k gR
  go_wp2_with fail
  have hF:=setL_new [.int .i64 (jns (l2.map (·.2))).1,.int .i64 (jns (l2.map (·.2))).2.1,.int .i64 (jns (l2.map (·.2))).2.2.1,.int .i64 (jns (l2.map (·.2))).2.2.2,.bool true,.slice ai2 2 ci2,.slice ak2 0 ck2] gR rfl
  have hO:=fun x (hx:x ≠ w.heap.size) => setL_blk [.int .i64 (jns (l2.map (·.2))).1,.int .i64 (jns (l2.map (·.2))).2.1,.int .i64 (jns (l2.map (·.2))).2.2.1,.int .i64 (jns (l2.map (·.2))).2.2.2,.bool true,.slice ai2 2 ci2,.slice ak2 0 ck2] UD w.heap.size 0 x (fun e => hx e.symm)
  have hFF:=fr_setN (g:=w.heap.size) HFU.out (.inr (Nat.le_refl _)) [.int .i64 (jns (l2.map (·.2))).1,.int .i64 (jns (l2.map (·.2))).2.1,.int .i64 (jns (l2.map (·.2))).2.2.1,.int .i64 (jns (l2.map (·.2))).2.2.2,.bool true,.slice ai2 2 ci2,.slice ak2 0 ck2] 0
  simp only [setL,Nat.zero_add,Nat.reduceAdd] at hF hO hFF
  obtain ⟨z0,z1,z2,z3,z4,z5,z6,_,_,_,_,_,_,_⟩:=cell7k hF
  refine bodyPost_ret (v:=.agg #[.int .i64 (jns (l2.map (·.2))).1,.int .i64 (jns (l2.map (·.2))).2.1,.int .i64 (jns (l2.map (·.2))).2.2.1,.int .i64 (jns (l2.map (·.2))).2.2.2,.bool true,.slice ai2 2 ci2,.slice ak2 0 ck2]) (by simp [results,Tryz.results107,go_sem,z0,z1,z2,z3,z4,z5,z6]) rfl ?_
  obtain ⟨kA,kB,sAB⟩:=HA.out
  obtain ⟨sA,sB⟩:=HSX.out
  have far:∀ x,(x ∈ S ∨ X.heap.size ≤ x) → x ≠ b ∧ x ≠ M ∧ x ≠ w.heap.size:=fun x hx => by
   rcases hx with h | h
   ·have:=hSf x h;exact ⟨fun e => this.1 e.symm,fun e => this.2.1 e.symm,fun e => this.2.2 e.symm⟩
   ·exact ⟨by omega,by omega,by omega⟩
  have kp:∀ x,(x ∈ S ∨ X.heap.size ≤ x) → x < V.heap.size → _ = V.heap[x]?:=fun x hx hl => (hO x (far x hx).2.2).trans ((HO2.out x ⟨(far x hx).1,(far x hx).2.1⟩).trans (HBV.out.block x hl))
  have hck1:ckh (knotL l1) (ai1,ci1,ak1,ck1) = [.int .i64 (jns (l1.map (·.2))).1,.int .i64 (jns (l1.map (·.2))).2.1,.int .i64 (jns (l1.map (·.2))).2.2.1,.int .i64 (jns (l1.map (·.2))).2.2.2,.bool true,.slice ai1 3 ci1,.slice ak1 0 ck1]:=by
   show [_,_,_,_,_,Value.slice ai1 l1.length ci1,_] = _
   rw [e1]
   rfl
  refine ⟨(ai1,ci1,ak1,ck1),S1,(ai2,ci2,ak2,ck2),S2,?_,by rw [hck1];exact HU2.out.keep (hO b (by omega)),(kA _).keep (fun x hx => kp x (sA x hx) ((kA default).lt x hx).2),(kB _).keep (fun x hx => kp x (sB x hx) ((kB default).lt x hx).2),sAB,fun x hx => (sA x hx).imp id (fun h => by omega),fun x hx => (sB x hx).imp id (fun h => by omega),hFF⟩
  show _ = Ending.returned (.agg #[_,_,_,_,_,.slice ai2 l2.length ci2,_])
  rw [e2]
  rfl
 ·skip
  obtain ⟨c0,c1,c2,c3,c4,c5,c6,_,_,_,_,_,_,_⟩:=cell7k gN
  clear hHeld
  refine wpo_val (by go_simp;first | done | with_reducible rfl | rfl | exact ⟨rfl,rfl⟩) ?_
  clear c0 c1 c2 c3 c4 c5 c6
  refine ⟨by (obtain ⟨a0,a1,a2,a3,a4,a5,a6,_,_,_,_,_,_,_⟩:=hBv.k7;obtain ⟨c0,c1,c2,c3,c4,c5,c6,_,_,_,_,_,_,_⟩:=cell7k gN;exact ⟨a0,a1,a2,a3,a4,a5,a6,c0,c1,c2,c3,c4,c5,c6⟩),fun hHeld => ?_⟩
  try simp only [sq]
  refine anyL_1 (i:=4) rfl (by kernel_rfl) rfl ?_
  refine wpo_call (ARA.out _ HBV.out) ?_ (fun e w' hp => ?_) (fun v UA hp => ?_)
  ·go_simp
  ·exact ⟨_,hp.1⟩
  clear hHeld ARA
  obtain ⟨e0,hb2⟩:=hp
  injection e0 with e0
  subst e0
  replace hBv:=hBv.below hb2
  replace gN:=keepheap hb2 gN
  replace gR:=keepheap hb2 gR
  replace HBV:=hid (btrans HBV.out hb2)
  clear hb2
  refine ⟨by (obtain ⟨a0,a1,a2,a3,a4,a5,a6,_,_,_,_,_,_,_⟩:=hBv.k7;obtain ⟨c0,c1,c2,c3,c4,c5,c6,_,_,_,_,_,_,_⟩:=cell7k gN;exact ⟨a0,a1,a2,a3,a4,a5,a6,c0,c1,c2,c3,c4,c5,c6⟩),fun hHeld => ?_⟩
  try simp only [sq]
  refine anyL_1 (i:=6) rfl (by kernel_rfl) rfl ?_
  refine wpo_call (ARB.out _ HBV.out) ?_ (fun e w' hp => ?_) (fun v UB hp => ?_)
  ·go_simp
  ·exact ⟨_,hp.1⟩
  clear hHeld ARB
  obtain ⟨e0,hb2⟩:=hp
  injection e0 with e0
  subst e0
  replace hBv:=hBv.below hb2
  replace gN:=keepheap hb2 gN
  replace gR:=keepheap hb2 gR
  replace HBV:=hid (btrans HBV.out hb2)
  clear hb2
  refine ⟨by (obtain ⟨a0,a1,a2,a3,a4,a5,a6,_,_,_,_,_,_,_⟩:=hBv.k7;obtain ⟨c0,c1,c2,c3,c4,c5,c6,_,_,_,_,_,_,_⟩:=cell7k gN;exact ⟨a0,a1,a2,a3,a4,a5,a6,c0,c1,c2,c3,c4,c5,c6⟩),fun hHeld => ?_⟩
  try simp only [sq]
  refine tkP 7 hHeld ?_
  try simp only [sq]
  refine tkP 8 hHeld ?_
  try simp only [sq]
  refine anyL_1 (i:=9) rfl (by kernel_rfl) rfl ?_
  obtain ⟨a0,a1,a2,a3,a4,a5,a6,f0,f1,f2,f3,f4,f5,f6⟩:=hBv.k7
  refine wpo_late (by kernel_rfl) (by go_simp;first | done | with_reducible rfl | rfl | exact ⟨rfl,rfl⟩) ?_
  clear a0 a1 a2 a3 a4 a5 a6 f0 f1 f2 f3 f4 f5 f6
  have hu1:=hBv.set4 (.int .i64 (jns (l1.map (·.2))).1) (.int .i64 (jns (l1.map (·.2))).2.1) (.int .i64 (jns (l1.map (·.2))).2.2.1) (.int .i64 (jns (l1.map (·.2))).2.2.2)
  have gN2:=(setL_blk [.int .i64 (jns (l1.map (·.2))).1,.int .i64 (jns (l1.map (·.2))).2.1,.int .i64 (jns (l1.map (·.2))).2.2.1,.int .i64 (jns (l1.map (·.2))).2.2.2] UB b o M (by omega)).trans gN
  have gR2:=(setL_blk [.int .i64 (jns (l1.map (·.2))).1,.int .i64 (jns (l1.map (·.2))).2.1,.int .i64 (jns (l1.map (·.2))).2.2.1,.int .i64 (jns (l1.map (·.2))).2.2.2] UB b o _ (by omega)).trans gR
  have ho1:=fun x (hx:x ≠ b) => setL_blk [.int .i64 (jns (l1.map (·.2))).1,.int .i64 (jns (l1.map (·.2))).2.1,.int .i64 (jns (l1.map (·.2))).2.2.1,.int .i64 (jns (l1.map (·.2))).2.2.2] UB b o x (fun e => hx e.symm)
  have hfu:=fr_setN (g:=b) (HVF.out.trans (Fr.of HBV.out []) (fun k hk => by cases hk)) (.inl hbS2) [.int .i64 (jns (l1.map (·.2))).1,.int .i64 (jns (l1.map (·.2))).2.1,.int .i64 (jns (l1.map (·.2))).2.2.1,.int .i64 (jns (l1.map (·.2))).2.2.2] o
  simp only [setL,Nat.add_assoc,Nat.reduceAdd] at gN2 gR2 ho1 hfu
  have HU1:=hid hu1
  have HO1:=hid ho1
  have HFU:=hid hfu
  clear hBv gN gR hu1 ho1 hfu
  generalize ((((UB.setCell ⟨b,o,none⟩ (.int .i64 (jns (l1.map (·.2))).1)).setCell ⟨b,o + 1,none⟩ (.int .i64 (jns (l1.map (·.2))).2.1)).setCell ⟨b,o + 2,none⟩ (.int .i64 (jns (l1.map (·.2))).2.2.1)).setCell ⟨b,o + 3,none⟩ (.int .i64 (jns (l1.map (·.2))).2.2.2)) = UC at *
  have gN:=gN2
  have gR:=gR2
  clear gN2 gR2
  try simp only [sq]
  refine anyL_pure (i:=10) (v:=?_) rfl (by kernel_rfl) (fun _ _ _ h => h) (Or.inl ⟨by rfl,?_⟩) (Or.inl (by kernel_rfl)) ?_
  rotate_left
  ·intro w hSw;clear hSw;go_simp;try (with_reducible rfl)
  try simp only [sq]
  refine anyL_1 (i:=11) rfl (by kernel_rfl) rfl ?_
  obtain ⟨c0,c1,c2,c3,c4,c5,c6,d0,d1,d2,d3,d4,d5,d6⟩:=cell7k gN
  refine wpo_late (by kernel_rfl) (by go_simp;first | done | with_reducible rfl | rfl | exact ⟨rfl,rfl⟩) ?_
  clear c0 c1 c2 c3 c4 c5 c6 d0 d1 d2 d3 d4 d5 d6
  have hu2:=HU1.out.keep (setL_blk [.int .i64 (jns (l2.map (·.2))).1,.int .i64 (jns (l2.map (·.2))).2.1,.int .i64 (jns (l2.map (·.2))).2.2.1,.int .i64 (jns (l2.map (·.2))).2.2.2] UC M 0 b (by omega))
  have gR2:=(setL_blk [.int .i64 (jns (l2.map (·.2))).1,.int .i64 (jns (l2.map (·.2))).2.1,.int .i64 (jns (l2.map (·.2))).2.2.1,.int .i64 (jns (l2.map (·.2))).2.2.2] UC M 0 _ (by omega)).trans gR
  have gN2:=set4k gN (.int .i64 (jns (l2.map (·.2))).1) (.int .i64 (jns (l2.map (·.2))).2.1) (.int .i64 (jns (l2.map (·.2))).2.2.1) (.int .i64 (jns (l2.map (·.2))).2.2.2)
  have ho2:=fun x (hx:x ≠ b ∧ x ≠ M) => (setL_blk [.int .i64 (jns (l2.map (·.2))).1,.int .i64 (jns (l2.map (·.2))).2.1,.int .i64 (jns (l2.map (·.2))).2.2.1,.int .i64 (jns (l2.map (·.2))).2.2.2] UC M 0 x (fun e => hx.2 e.symm)).trans (HO1.out x hx.1)
  have hfu:=fr_setN (g:=M) HFU.out (.inr (by omega)) [.int .i64 (jns (l2.map (·.2))).1,.int .i64 (jns (l2.map (·.2))).2.1,.int .i64 (jns (l2.map (·.2))).2.2.1,.int .i64 (jns (l2.map (·.2))).2.2.2] 0
  simp only [setL,Nat.zero_add,Nat.reduceAdd] at hu2 gR2 ho2 hfu
  have HU2:=hid hu2
  have HO2:=hid ho2
  replace HFU:=hid hfu
  clear HU1 HO1 gN gR hu2 ho2 hfu
  generalize ((((UC.setCell ⟨M,0,none⟩ (.int .i64 (jns (l2.map (·.2))).1)).setCell ⟨M,1,none⟩ (.int .i64 (jns (l2.map (·.2))).2.1)).setCell ⟨M,2,none⟩ (.int .i64 (jns (l2.map (·.2))).2.2.1)).setCell ⟨M,3,none⟩ (.int .i64 (jns (l2.map (·.2))).2.2.2)) = UD at *
  have gN:=gN2
  have gR:=gR2
  clear gN2 gR2
  try simp only [sq]
  refine anyL_done (by kernel_rfl) ?_ _
  obtain ⟨c0,c1,c2,c3,c4,c5,c6,_,_,_,_,_,_,_⟩:=cell7k gN
  obtain ⟨r0,r1,r2,r3,r4,r5,r6,s0,s1,s2,s3,s4,s5,s6⟩:=cell7k gR
  go_wp2_with fail
  have hF:=setL_new [.int .i64 (jns (l2.map (·.2))).1,.int .i64 (jns (l2.map (·.2))).2.1,.int .i64 (jns (l2.map (·.2))).2.2.1,.int .i64 (jns (l2.map (·.2))).2.2.2,.bool true,.slice ai2 2 ci2,.slice ak2 0 ck2] gR rfl
  have hO:=fun x (hx:x ≠ w.heap.size) => setL_blk [.int .i64 (jns (l2.map (·.2))).1,.int .i64 (jns (l2.map (·.2))).2.1,.int .i64 (jns (l2.map (·.2))).2.2.1,.int .i64 (jns (l2.map (·.2))).2.2.2,.bool true,.slice ai2 2 ci2,.slice ak2 0 ck2] UD w.heap.size 0 x (fun e => hx e.symm)
  have hFF:=fr_setN (g:=w.heap.size) HFU.out (.inr (Nat.le_refl _)) [.int .i64 (jns (l2.map (·.2))).1,.int .i64 (jns (l2.map (·.2))).2.1,.int .i64 (jns (l2.map (·.2))).2.2.1,.int .i64 (jns (l2.map (·.2))).2.2.2,.bool true,.slice ai2 2 ci2,.slice ak2 0 ck2] 0
  simp only [setL,Nat.zero_add,Nat.reduceAdd] at hF hO hFF
  obtain ⟨z0,z1,z2,z3,z4,z5,z6,_,_,_,_,_,_,_⟩:=cell7k hF
  refine bodyPost_ret (v:=.agg #[.int .i64 (jns (l2.map (·.2))).1,.int .i64 (jns (l2.map (·.2))).2.1,.int .i64 (jns (l2.map (·.2))).2.2.1,.int .i64 (jns (l2.map (·.2))).2.2.2,.bool true,.slice ai2 2 ci2,.slice ak2 0 ck2]) (by simp [results,Tryz.results107,go_sem,z0,z1,z2,z3,z4,z5,z6]) rfl ?_
  obtain ⟨kA,kB,sAB⟩:=HA.out
  obtain ⟨sA,sB⟩:=HSX.out
  have far:∀ x,(x ∈ S ∨ X.heap.size ≤ x) → x ≠ b ∧ x ≠ M ∧ x ≠ w.heap.size:=fun x hx => by
   rcases hx with h | h
   ·have:=hSf x h;exact ⟨fun e => this.1 e.symm,fun e => this.2.1 e.symm,fun e => this.2.2 e.symm⟩
   ·exact ⟨by omega,by omega,by omega⟩
  have kp:∀ x,(x ∈ S ∨ X.heap.size ≤ x) → x < V.heap.size → _ = V.heap[x]?:=fun x hx hl => (hO x (far x hx).2.2).trans ((HO2.out x ⟨(far x hx).1,(far x hx).2.1⟩).trans (HBV.out.block x hl))
  have hck1:ckh (knotL l1) (ai1,ci1,ak1,ck1) = [.int .i64 (jns (l1.map (·.2))).1,.int .i64 (jns (l1.map (·.2))).2.1,.int .i64 (jns (l1.map (·.2))).2.2.1,.int .i64 (jns (l1.map (·.2))).2.2.2,.bool true,.slice ai1 3 ci1,.slice ak1 0 ck1]:=by
   show [_,_,_,_,_,Value.slice ai1 l1.length ci1,_] = _
   rw [e1]
   rfl
  refine ⟨(ai1,ci1,ak1,ck1),S1,(ai2,ci2,ak2,ck2),S2,?_,by rw [hck1];exact HU2.out.keep (hO b (by omega)),(kA _).keep (fun x hx => kp x (sA x hx) ((kA default).lt x hx).2),(kB _).keep (fun x hx => kp x (sB x hx) ((kB default).lt x hx).2),sAB,fun x hx => (sA x hx).imp id (fun h => by omega),fun x hx => (sB x hx).imp id (fun h => by omega),hFF⟩
  show _ = Ending.returned (.agg #[_,_,_,_,_,.slice ai2 l2.length ci2,_])
  rw [e2]
  rfl
end Go.Proofs.YtjahlofahjgdbaaGreat
