/- Texts of stores, joined: Kf, Kr. -/
import Derived.Test.YtjahlofahjgdbaaGreatJ20
set_option maxRecDepth 100000
set_option maxHeartbeats 16000000
set_option linter.unusedSimpArgs false
set_option linter.unusedVariables false
namespace Go.Proofs.YtjahlofahjgdbaaGreat
open Go.RowKit
theorem spec_put (d n:Nat) (x0 x1 x2 x3 x4:Int) (t:KT) (h:Hd) (w:World) (hx:bkb (x1,x2,x3,x4) = true) (hg:gd (d + 1) true t = true) (hd:d < 20) (hk:KnL n w h.1 h.2.1 h.2.2.1 h.2.2.2 t) (hz:ksz n t ≤ 1048576):Calls Tryz.prog 41 #[kvh t h,.agg #[.int .i64 x0,.int .i64 x1,.int .i64 x2,.int .i64 x3,.int .i64 x4]] w (KAns w 22 (putT t (x0,x1,x2,x3,x4))):=by
 have hcp:cpy 20 t = t:=cpy_gd 20 (d + 1) true t hg (by omega)
 have CP:=hid (fun (W:World) (hB:Below w.heap.size w W) => by
  have:=spec_kcopy 20 (Nat.le_refl _) n t h.1 h.2.2.1 h.2.1 h.2.2.2 W (hk.below hB) hz
  rw [hcp] at this
  exact this)
 have DOWN:=hid (fun (hc:Hd) (Sc:List Nat) (W:World) (k:KO w.heap.size 21 W hc Sc t) (hl:w.heap.size ≤ W.heap.size) => spec_down x0 x1 x2 x3 x4 hx 20 d 20 true t hc Sc W w.heap.size hd (by omega) hg k hl)
 generalize hpt0:putT t (x0,x1,x2,x3,x4) = pt
 have HPT:=hid hpt0
 clear hpt0
 obtain ⟨b0,b1,b2,b3,b4,ni,nk,hkf⟩:=kf t
 have ek:kvh t h = .agg #[.int .i64 b0,.int .i64 b1,.int .i64 b2,.int .i64 b3,.bool b4,.slice h.1 ni h.2.1,.slice h.2.2.1 nk h.2.2.2]:=kv_of' hkf h.1 h.2.1 h.2.2.1 h.2.2.2
 have ek2:kv t h.1 h.2.1 h.2.2.1 h.2.2.2 = .agg #[.int .i64 b0,.int .i64 b1,.int .i64 b2,.int .i64 b3,.bool b4,.slice h.1 ni h.2.1,.slice h.2.2.1 nk h.2.2.2]:=ek
 rw [ek2] at CP
 rw [ek]
 obtain ⟨ia,ic,ka,kc⟩:=h
 simp only [] at CP ⊢
 clear ek ek2 hkf hk hz hcp
 have gT:=old_alloc (o':=.cells #[.int .i64 0,.int .i64 0,.int .i64 0,.int .i64 0,.bool false,.slice none 0 0,.slice none 0 0] 35) (old_alloc (o':=.cells #[.int .i64 x0,.int .i64 x1,.int .i64 x2,.int .i64 x3,.int .i64 x4] 40) (new_alloc w w.heap.size (.cells #[.int .i64 b0,.int .i64 b1,.int .i64 b2,.int .i64 b3,.bool b4,.slice ia ni ic,.slice ka nk kc] 35) rfl))
 have gX:=old_alloc (o':=.cells #[.int .i64 0,.int .i64 0,.int .i64 0,.int .i64 0,.bool false,.slice none 0 0,.slice none 0 0] 35) (new_alloc (w.alloc (.cells #[.int .i64 b0,.int .i64 b1,.int .i64 b2,.int .i64 b3,.bool b4,.slice ia ni ic,.slice ka nk kc] 35)) (w.heap.size + 1) (.cells #[.int .i64 x0,.int .i64 x1,.int .i64 x2,.int .i64 x3,.int .i64 x4] 40) (by simp))
 have gR:=new_alloc ((w.alloc (.cells #[.int .i64 b0,.int .i64 b1,.int .i64 b2,.int .i64 b3,.bool b4,.slice ia ni ic,.slice ka nk kc] 35)).alloc (.cells #[.int .i64 x0,.int .i64 x1,.int .i64 x2,.int .i64 x3,.int .i64 x4] 40)) (w.heap.size + 2) (.cells #[.int .i64 0,.int .i64 0,.int .i64 0,.int .i64 0,.bool false,.slice none 0 0,.slice none 0 0] 35) (by simp)
 have HB:=hid (balloc (balloc (balloc (Below.refl w.heap.size w) (.cells #[.int .i64 b0,.int .i64 b1,.int .i64 b2,.int .i64 b3,.bool b4,.slice ia ni ic,.slice ka nk kc] 35)) (.cells #[.int .i64 x0,.int .i64 x1,.int .i64 x2,.int .i64 x3,.int .i64 x4] 40)) (.cells #[.int .i64 0,.int .i64 0,.int .i64 0,.int .i64 0,.bool false,.slice none 0 0,.slice none 0 0] 35))
 go_enter Tryz.func41,Tryz.ntmps41
 go_upto_region 1 with fail
 generalize ((w.alloc (.cells #[.int .i64 b0,.int .i64 b1,.int .i64 b2,.int .i64 b3,.bool b4,.slice ia ni ic,.slice ka nk kc] 35)).alloc (.cells #[.int .i64 x0,.int .i64 x1,.int .i64 x2,.int .i64 x3,.int .i64 x4] 40)).alloc (.cells #[.int .i64 0,.int .i64 0,.int .i64 0,.int .i64 0,.bool false,.slice none 0 0,.slice none 0 0] 35) = V at *
 refine wp_region_late (L:=[]) (S:=(fun w' => w'.cell? ⟨w.heap.size,0,none⟩ = some (.int .i64 b0) ∧ w'.cell? ⟨w.heap.size,1,none⟩ = some (.int .i64 b1) ∧ w'.cell? ⟨w.heap.size,2,none⟩ = some (.int .i64 b2) ∧ w'.cell? ⟨w.heap.size,3,none⟩ = some (.int .i64 b3) ∧ w'.cell? ⟨w.heap.size,4,none⟩ = some (.bool b4) ∧ w'.cell? ⟨w.heap.size,5,none⟩ = some (.slice ia ni ic) ∧ w'.cell? ⟨w.heap.size,6,none⟩ = some (.slice ka nk kc) ∧ w'.cell? ⟨w.heap.size + 1,0,none⟩ = some (.int .i64 x0) ∧ w'.cell? ⟨w.heap.size + 1,1,none⟩ = some (.int .i64 x1) ∧ w'.cell? ⟨w.heap.size + 1,2,none⟩ = some (.int .i64 x2) ∧ w'.cell? ⟨w.heap.size + 1,3,none⟩ = some (.int .i64 x3) ∧ w'.cell? ⟨w.heap.size + 1,4,none⟩ = some (.int .i64 x4))) (by kernel_rfl) ?_ (fun hHeld => ?_)
 ·(obtain ⟨a0,a1,a2,a3,a4,a5,a6,_,_,_,_,_,_,_⟩:=cell7k gT;obtain ⟨c0,c1,c2,c3,c4,_,_,_,_,_⟩:=cell5j gX;exact ⟨a0,a1,a2,a3,a4,a5,a6,c0,c1,c2,c3,c4⟩)
 have hD:=bdrew (Below.refl V.heap.size V)
 replace gT:=keepheap hD gT
 replace gX:=keepheap hD gX
 replace gR:=keepheap hD gR
 replace HB:=hid (btrans HB.out hD)
 have hVs:w.heap.size + 3 ≤ V.drew.heap.size:=by have:=lt_of_heap gR;omega
 generalize V.drew = Va at *
 refine tkA 0 hHeld ?_
 try simp only [sq]
 refine tkA 2 hHeld ?_
 try simp only [sq]
 refine anyL_1 (i:=1) rfl (by kernel_rfl) rfl ?_
 refine wpo_call (CP.out Va HB.out) ?_ (fun e w' hp => ?_) (fun v W1 hp => ?_)
 ·go_simp
 ·exact hp.ret
 clear hHeld CP
 obtain ⟨hc,Sc,e0,hko,hb1⟩:=hp
 injection e0 with e0
 subst e0
 replace gT:=keepheap hb1 gT
 replace gX:=keepheap hb1 gX
 replace gR:=keepheap hb1 gR
 have hVa:=HB.out.size
 replace HB:=hid (btrans HB.out hb1)
 have hScl:=fun b (hb':b ∈ Sc) => hko.lt b hb'
 have DN:=hid (DOWN.out hc Sc W1 (KO.lo hVa hko) HB.out.size)
 clear hb1 hko DOWN
 refine ⟨by (obtain ⟨a0,a1,a2,a3,a4,a5,a6,_,_,_,_,_,_,_⟩:=cell7k gT;obtain ⟨c0,c1,c2,c3,c4,_,_,_,_,_⟩:=cell5j gX;exact ⟨a0,a1,a2,a3,a4,a5,a6,c0,c1,c2,c3,c4⟩),fun hHeld => ?_⟩
 try simp only [sq]
 refine anyL_1 (i:=3) rfl (by kernel_rfl) rfl ?_
 refine wpo_call DN.out ?_ (fun e w' hp => ?_) (fun v W2 hp => ?_)
 ·go_simp
 ·obtain ⟨_,_,_,hp,_⟩:=hp;exact ⟨_,hp⟩
 clear hHeld DN
 obtain ⟨a2,c2,qs,e0,hqs,ro2,hk2,hs2,hd2,hf2⟩:=hp
 injection e0 with e0
 subst e0
 have hW1:=HB.out.size
 have hVW:w.heap.size + 3 ≤ W1.heap.size:=by have:=lt_of_heap gR;omega
 have hold:∀ b,b < Va.heap.size → b ∉ Sc:=fun b h1 hc => by have:=(hScl b hc).1;omega
 replace gT:=(hf2.blk _ (lt_of_heap gT) (hold _ (by omega))).trans gT
 replace gX:=(hf2.blk _ (lt_of_heap gX) (hold _ (by omega))).trans gX
 replace gR:=(hf2.blk _ (lt_of_heap gR) (hold _ (by omega))).trans gR
 have HB2:=hid (show Below w.heap.size w W2 from ⟨hf2.os.trans HB.out.os,hf2.tape.trans HB.out.tape,hf2.output.trans HB.out.output,Nat.le_trans HB.out.size hf2.size,fun b hb' => (hf2.blk b (Nat.lt_of_lt_of_le hb' HB.out.size) (hold b (by omega))).trans (HB.out.block b hb')⟩)
 have HQ:=hid (And.intro hqs (And.intro ro2 (And.intro hk2 (And.intro hs2 hd2))))
 clear hqs ro2 hk2 hs2 hd2 hf2
 refine ⟨by (obtain ⟨a0,a1,a2,a3,a4,a5,a6,_,_,_,_,_,_,_⟩:=cell7k gT;obtain ⟨c0,c1,c2,c3,c4,_,_,_,_,_⟩:=cell5j gX;exact ⟨a0,a1,a2,a3,a4,a5,a6,c0,c1,c2,c3,c4⟩),fun hHeld => ?_⟩
 try simp only [sq]
 refine tkP 4 hHeld ?_
 try simp only [sq]
 refine anyL_done (by kernel_rfl) ?_ _
 obtain ⟨hqs,ro2,hk2,hs2,hd2⟩:=HQ.out
 have hW1s:=HB.out.size
 have hqb:∀ b ∈ qs.flatMap (·.2.2),w.heap.size + 3 ≤ b ∧ b < W2.heap.size:=fun b hb' => ⟨by
  rcases hs2 b hb' with e | e
  ·have:=(hScl b e).1;omega
  ·have:=hVW;omega,KO_blk hk2 b hb'⟩
 have hrl:=row_lt ro2
 rcases dn_gd (putI_g5 (it:=(x0,x1,x2,x3,x4)) hx 20 d true t hg hd).1 with ⟨_,e,_⟩ | ⟨ta,tb,e,_,_⟩
 ·have hpt:putT t (x0,x1,x2,x3,x4) = putI 20 t (x0,x1,x2,x3,x4):=by unfold putT;rw [e]
  rw [e] at hqs
  have hl1:qs.length = 1:=by have:=congrArg List.length hqs;simpa using this
  obtain ⟨p,rfl⟩:=List.length_eq_one_iff.1 hl1
  have hp2:p.1 = putI 20 t (x0,x1,x2,x3,x4):=by simpa using hqs
  have hpe:p.1 = pt:=by rw [hp2,← hpt];exact HPT.out
  clear hpt e hqs hl1
  have ro3:W2.ownsRow W1.heap.size 35 7 (.slice a2 1 c2) 1 (flK [p]):=ro2
  obtain ⟨g2,ea,hg2,_⟩:=row_some ro3 (by omega)
  subst ea
  have hcell:=row_knAt ro3 0 (by simp)
  have hkp:=hk2.2 p (by simp)
  have hc1:=(row_caps ro3).1
  have hpb:∀ b ∈ p.2.2,w.heap.size + 3 ≤ b:=fun b hb' => (hqb b (by simpa using hb')).1
  obtain ⟨y0,y1,y2,y3,y4,ya,yn,yc,yb,ym,yd,hyv,_⟩:=kh p
  have hcell2:Cs W2 g2 (0 * 7) (ckh p.1 p.2.1):=hcell
  rw [hyv] at hcell2
  obtain ⟨q0,q1,q2,q3,q4,q5,q6⟩:=Cs.knot7 hcell2
  simp only [Nat.zero_mul,Nat.zero_add] at q0 q1 q2 q3 q4 q5 q6
  obtain ⟨r0,r1,r2,r3,r4,r5,r6,s0,s1,s2,s3,s4,s5,s6⟩:=cell7k gR
  have hq1:(([p]:List KP).length:Int) = 1:=rfl
  have hkv:kvh p.1 p.2.1 = .agg #[.int .i64 y0,.int .i64 y1,.int .i64 y2,.int .i64 y3,.bool y4,.slice ya yn yc,.slice yb ym yd]:=by
   show Value.agg (ckh p.1 p.2.1).toArray = _
   rw [hyv]
  have hF:=setL_new [.int .i64 y0,.int .i64 y1,.int .i64 y2,.int .i64 y3,.bool y4,.slice ya yn yc,.slice yb ym yd] gR rfl
  have hO:=fun x (hx:x ≠ w.heap.size + 2) => setL_blk [.int .i64 y0,.int .i64 y1,.int .i64 y2,.int .i64 y3,.bool y4,.slice ya yn yc,.slice yb ym yd] W2 (w.heap.size + 2) 0 x (fun e => hx e.symm)
  have hBB:=setL_below [.int .i64 y0,.int .i64 y1,.int .i64 y2,.int .i64 y3,.bool y4,.slice ya yn yc,.slice yb ym yd] w W2 (w.heap.size + 2) 0 _ HB2.out (by omega)
  simp only [setL,Nat.zero_add,Nat.reduceAdd] at hF hO hBB
  obtain ⟨z0,z1,z2,z3,z4,z5,z6,_,_,_,_,_,_,_⟩:=cell7k hF
  clear hcell hcell2 hF HQ ro2 hk2 hs2 hd2 hrl hqb
  go_wp2_with fail
  refine bodyPost_ret (v:=.agg #[.int .i64 y0,.int .i64 y1,.int .i64 y2,.int .i64 y3,.bool y4,.slice ya yn yc,.slice yb ym yd]) (by simp [results,Tryz.results41,go_sem,z0,z1,z2,z3,z4,z5,z6]) rfl ?_
  rw [← hpe]
  exact ⟨p.2.1,p.2.2,by rw [hkv],(hkp.more).keep (fun b hb' => hO b (by have:=hpb b hb';omega)),hBB⟩
 ·have hpt:putT t (x0,x1,x2,x3,x4) = knotK [ta,tb]:=by unfold putT;rw [e]
  rw [e] at hqs
  have hl1:qs.length = 2:=by have:=congrArg List.length hqs;simpa using this
  have hqm:qs.map (·.1) = [ta,tb]:=hqs
  have hpe:pt = knotK [ta,tb]:=HPT.out.symm.trans hpt
  have ro3:W2.ownsRow w.heap.size 35 7 (.slice a2 2 c2) 2 (flK qs):=by rw [hl1] at ro2;exact own_base ro2 hW1s
  have hn2:¬ ((qs.length:Int) = 1):=by rw [hl1];decide
  have hn2':((qs.length:Int) == 1) = false:=by rw [hl1];rfl
  have KT2:=hid (fun (W:World) (bx:Bx) (hB:∀ b,b < W2.heap.size → b ≠ w.heap.size + 2 → W.heap[b]? = W2.heap[b]?) => show KO w.heap.size 22 W (none,0,a2,c2) (hb none ++ hb a2 ++ qs.flatMap (·.2.2)) (.mk bx false [] [ta,tb]) from KO.mk' (ps:=qs) hqm.symm (own_nilR _ _ _ _) (by rw [hl1];exact row_blk ro3 (fun b hb' => hB b (row_lt ro3 b hb').2 (by have:=(hrl b hb').1;omega))) (hk2.keep (fun b hb' => hB b (hqb b hb').2 (by have:=(hqb b hb').1;omega))) (fun b hb' => by simp [hb] at hb') hd2)
  rw [hl1]
  obtain ⟨r0,r1,r2,r3,r4,r5,r6,s0,s1,s2,s3,s4,s5,s6⟩:=cell7k gR
  have hRs:=lt_of_heap gR
  clear HQ ro2 hk2 hs2 hd2 hrl hqb hqs hqm e hpt ro3 hn2 hn2' gT gX
  go_upto_region 5 with fail
  have hbM:=balloc (Below.refl W2.heap.size W2) (.cells #[.int .i64 0,.int .i64 0,.int .i64 0,.int .i64 0,.bool false,.slice none 0 0,.slice a2 2 c2] 35)
  have gM:=heap_alloc_new W2 (.cells #[.int .i64 0,.int .i64 0,.int .i64 0,.int .i64 0,.bool false,.slice none 0 0,.slice a2 2 c2] 35)
  have AR:=hid (show Calls Tryz.prog 77 #[.agg #[.int .i64 0,.int .i64 0,.int .i64 0,.int .i64 0,.bool false,.slice none 0 0,.slice a2 2 c2]] (W2.alloc (.cells #[.int .i64 0,.int .i64 0,.int .i64 0,.int .i64 0,.bool false,.slice none 0 0,.slice a2 2 c2] 35)) (fun e w' => e = .returned (.agg #[.int .i64 (jns ([ta,tb].map KT.box)).1,.int .i64 (jns ([ta,tb].map KT.box)).2.1,.int .i64 (jns ([ta,tb].map KT.box)).2.2.1,.int .i64 (jns ([ta,tb].map KT.box)).2.2.2]) ∧ Below (W2.alloc (.cells #[.int .i64 0,.int .i64 0,.int .i64 0,.int .i64 0,.bool false,.slice none 0 0,.slice a2 2 c2] 35)).heap.size _ w') from ko_around (KT2.out _ (0,0,0,0) (fun b hb' _ => hbM.block b hb')) (by show 0 ≤ _;omega) (by show 2 ≤ _;omega))
  have hpe2:pt = .mk (jns ([ta,tb].map KT.box)) false [] [ta,tb]:=hpe
  generalize jns ([ta,tb].map KT.box) = ab at *
  replace gR:=keepheap hbM gR
  have HOL:=hid (fun b (hb':b < W2.heap.size) => hbM.block b hb')
  have HBW:=hid (btrans HB2.out hbM)
  generalize hMM:W2.heap.size = M at *
  generalize W2.alloc (.cells #[.int .i64 0,.int .i64 0,.int .i64 0,.int .i64 0,.bool false,.slice none 0 0,.slice a2 2 c2] 35) = W3 at *
  clear hbM r0 r1 r2 r3 r4 r5 r6 s0 s1 s2 s3 s4 s5 s6
  obtain ⟨r0,r1,r2,r3,r4,r5,r6,s0,s1,s2,s3,_,_,_⟩:=cell7k gM
  go_wp2_with fail
  refine AR.out.mono ?_
  rintro e W4 ⟨rfl,hb⟩
  have hM3:=lt_of_heap gM
  replace gM:=keepheap hb gM
  replace gR:=keepheap hb gR
  replace HBW:=hid (btrans HBW.out hb)
  replace HOL:=hid (fun b (hb':b < M) => (hb.block b (by omega)).trans (HOL.out b hb'))
  clear hb AR r0 r1 r2 r3 r4 r5 r6 s0 s1 s2 s3
  obtain ⟨r0,r1,r2,r3,_,_,_,s0,s1,s2,s3,_,_,_⟩:=cell7k gM
  go_upto_region 6 with fail
  have p1:=set4k gM (.int .i64 ab.1) (.int .i64 ab.2.1) (.int .i64 ab.2.2.1) (.int .i64 ab.2.2.2)
  have p2:=(setL_blk [.int .i64 ab.1,.int .i64 ab.2.1,.int .i64 ab.2.2.1,.int .i64 ab.2.2.2] W4 M 0 (w.heap.size + 2) (by omega)).trans gR
  have p3:=setL_below [.int .i64 ab.1,.int .i64 ab.2.1,.int .i64 ab.2.2.1,.int .i64 ab.2.2.2] w W4 M 0 _ HBW.out (by omega)
  have p4:=fun b (hb':b < M) => (setL_blk [.int .i64 ab.1,.int .i64 ab.2.1,.int .i64 ab.2.2.1,.int .i64 ab.2.2.2] W4 M 0 b (by omega)).trans (HOL.out b hb')
  simp only [setL,Nat.zero_add,Nat.reduceAdd] at p2 p3 p4
  refine wp_wld (fun X => X.heap[M]? = some (.cells #[.int .i64 ab.1,.int .i64 ab.2.1,.int .i64 ab.2.2.1,.int .i64 ab.2.2.2,.bool false,.slice none 0 0,.slice a2 2 c2] 35 (0,0)) ∧ X.heap[w.heap.size + 2]? = some (.cells #[.int .i64 0,.int .i64 0,.int .i64 0,.int .i64 0,.bool false,.slice none 0 0,.slice none 0 0] 35 (0,0)) ∧ Below w.heap.size w X ∧ ∀ b,b < M → X.heap[b]? = W2.heap[b]?) ⟨p1,p2,p3,p4⟩ ?_
  clear p1 p2 p3 p4 gM gR HBW HOL r0 r1 r2 r3 s0 s1 s2 s3
  rintro X ⟨gM,gR,hBX,hOX⟩
  obtain ⟨q0,q1,q2,q3,q4,q5,q6,_,_,_,_,_,_,_⟩:=cell7k gM
  obtain ⟨r0,r1,r2,r3,r4,r5,r6,s0,s1,s2,s3,s4,s5,s6⟩:=cell7k gR
  have hF:=setL_new [.int .i64 ab.1,.int .i64 ab.2.1,.int .i64 ab.2.2.1,.int .i64 ab.2.2.2,.bool false,.slice none 0 0,.slice a2 2 c2] gR rfl
  have hO:=fun x (hx:x ≠ w.heap.size + 2) => setL_blk [.int .i64 ab.1,.int .i64 ab.2.1,.int .i64 ab.2.2.1,.int .i64 ab.2.2.2,.bool false,.slice none 0 0,.slice a2 2 c2] X (w.heap.size + 2) 0 x (fun e => hx e.symm)
  have hBB:=setL_below [.int .i64 ab.1,.int .i64 ab.2.1,.int .i64 ab.2.2.1,.int .i64 ab.2.2.2,.bool false,.slice none 0 0,.slice a2 2 c2] w X (w.heap.size + 2) 0 _ hBX (by omega)
  simp only [setL,Nat.zero_add,Nat.reduceAdd] at hF hO hBB
  obtain ⟨z0,z1,z2,z3,z4,z5,z6,_,_,_,_,_,_,_⟩:=cell7k hF
  clear hF
  go_wp2_with fail
  refine bodyPost_ret (v:=.agg #[.int .i64 ab.1,.int .i64 ab.2.1,.int .i64 ab.2.2.1,.int .i64 ab.2.2.2,.bool false,.slice none 0 0,.slice a2 2 c2]) (by simp [results,Tryz.results41,go_sem,z0,z1,z2,z3,z4,z5,z6]) rfl ?_
  rw [hpe2]
  exact ⟨(none,0,a2,c2),_,rfl,KT2.out _ ab (fun b hb' hne => (hO b hne).trans (hOX b hb')),hBB⟩
theorem mem_hb {x g o:Nat} (h:x ∈ hb (some (⟨g,o,none⟩:Addr))):x = g:=List.mem_singleton.1 h
theorem mem_ab {x g:Nat} {t:KT} {h:Hd} {S:List Nat} (hx:x ∈ hb none ++ hb (some (⟨g,0,none⟩:Addr)) ++ ([(t,h,S)]:List KP).flatMap (·.2.2)):x = g ∨ x ∈ S:=by
 rcases List.mem_append.1 hx with e | e
 ·rcases List.mem_append.1 e with e | e
  ·cases e
  ·exact .inl (mem_hb e)
 ·simp only [List.flatMap_cons,List.flatMap_nil,List.append_nil] at e
  exact .inr e
theorem impl_withItem (d n1 lo:Nat) (x0 x1 x2 x3 x4:Int) (t:KT) (h:Hd) (S:List Nat) (w:World) (hx:bkb (x1,x2,x3,x4) = true) (hg:gd (d + 1) true t = true) (hd:d < 20) (hn:d ≤ n1) (k:KO lo (n1 + 1) w h S t) (hlo:lo ≤ w.heap.size):Calls Tryz.prog 48 #[kvh t h,.agg #[.int .i64 x0,.int .i64 x1,.int .i64 x2,.int .i64 x3,.int .i64 x4]] w (WiA w lo (n1 + 1 + 1) S (putT t (x0,x1,x2,x3,x4))):=by
 have hSl:∀ x ∈ S,x < w.heap.size:=fun x hx => (k.lt x hx).2
 obtain ⟨y0,y1,y2,y3,y4,ya,yn,yc,yb,ym,yd,hyv,hyb⟩:=kh (t,h,S)
 have hyv':ckh t h = [.int .i64 y0,.int .i64 y1,.int .i64 y2,.int .i64 y3,.bool y4,.slice ya yn yc,.slice yb ym yd]:=hyv
 have hkv:kvh t h = .agg #[.int .i64 y0,.int .i64 y1,.int .i64 y2,.int .i64 y3,.bool y4,.slice ya yn yc,.slice yb ym yd]:=by
  show Value.agg (ckh t h).toArray = _
  rw [hyv']
 have PUT:=hid (fun (W:World) (hB:Below w.heap.size w W) (hK:W.heap[w.heap.size + 3]? = some (.cells #[.int .i64 y0,.int .i64 y1,.int .i64 y2,.int .i64 y3,.bool y4,.slice ya yn yc,.slice yb ym yd] 35 (0,0))) (hA:W.heap[w.heap.size + 4]? = some (.cells #[.int .i64 0,.int .i64 0,.int .i64 0,.int .i64 0,.bool false,.slice none 0 0,.slice (some ⟨w.heap.size + 3,0,none⟩) 1 1] 35 (0,0))) => show Calls Tryz.prog 83 #[.pointer (some ⟨w.heap.size + 4,0,none⟩),.agg #[.int .i64 x0,.int .i64 x1,.int .i64 x2,.int .i64 x3,.int .i64 x4]] W (PuA W lo (n1 + 1 + 1) (w.heap.size + 4) 0 [] [] (hb none ++ hb (some (⟨w.heap.size + 3,0,none⟩:Addr)) ++ [(t,h,S)].flatMap (·.2.2)) (putI 21 (.mk (0,0,0,0) false [] [t]) (x0,x1,x2,x3,x4))) by
  have hrow:W.ownsRow lo 35 7 (.slice (some ⟨w.heap.size + 3,0,none⟩) 1 1) 1 (flK [(t,h,S)]):=by
   have e:flK [(t,h,S)] = [.int .i64 y0,.int .i64 y1,.int .i64 y2,.int .i64 y3,.bool y4,.slice ya yn yc,.slice yb ym yd]:=by
    show ckh t h ++ [] = _
    rw [List.append_nil,hyv']
   refine ⟨by rw [e];rfl,.inr ⟨w.heap.size + 3,1,_,rfl,by omega,hK,Nat.le_refl _,by unfold maxLen;omega,rfl,by rw [e];rfl⟩⟩
  have hko:KO lo (n1 + 1 + 1) W (none,0,some ⟨w.heap.size + 3,0,none⟩,1) (hb none ++ hb (some (⟨w.heap.size + 3,0,none⟩:Addr)) ++ [(t,h,S)].flatMap (·.2.2)) (.mk (0,0,0,0) false [] [t]):=KO.mk' (ps:=[(t,h,S)]) rfl (own_nilR _ _ _ _) hrow (KOs.one (p:=(t,h,S)) (k.below hB)) (fun x hx => by simp [hb] at hx) (fun x hx hc => by
   simp only [hb,Option.map_some,Option.toList_some,List.mem_singleton] at hx
   simp only [List.flatMap_cons,List.flatMap_nil,List.append_nil] at hc
   have:=hSl x hc
   omega)
  refine impl_putK lo n1 20 d (w.heap.size + 4) 0 true [] [] 0 0 0 0 [t] none (some ⟨w.heap.size + 3,0,none⟩) 0 1 x0 x1 x2 x3 x4 _ W hko (Nat.le_trans hlo hB.size) ⟨hA,rfl⟩ (fun hc => ?_) (by simp) (by simp) (by simp [hg]) hd hx (fun kid h' S' W' b' o' P' R' k' hl' hg' hB9 hb9 => impl_put x0 x1 x2 x3 x4 hx 20 d n1 true kid h' S' W' lo b' o' P' R' hd hn hg' k' hl' hB9 hb9)
  rcases mem_ab hc with e | e
  ·omega
  ·have:=hSl _ e;omega)
 have g5t:g5 d true (putI 20 t (x0,x1,x2,x3,x4)):=(putI_g5 (it:=(x0,x1,x2,x3,x4)) hx 20 d true t hg hd).1
 have h21:putI 21 (.mk (0,0,0,0) false [] [t]) (x0,x1,x2,x3,x4) = knotK (dn (putI 20 t (x0,x1,x2,x3,x4))):=by
  have hk0:kidF (x1,x2,x3,x4) [t] = 0:=by have:=kidF_lt (x1,x2,x3,x4) [t] (by simp);simp at this;omega
  have:=putI_K (m:=20) (b:=(0,0,0,0)) (ks:=[t]) (it:=(x0,x1,x2,x3,x4)) (q:=0) hk0 (by simp)
  rw [this]
  simp
 rw [h21] at PUT
 have hpt0:putT t (x0,x1,x2,x3,x4) = (match dn (putI 20 t (x0,x1,x2,x3,x4)) with | [k] => k | ks => knotK ks):=rfl
 obtain ⟨t',ht'⟩:∃ t',t' = putI 20 t (x0,x1,x2,x3,x4):=⟨_,rfl⟩
 rw [← ht'] at PUT g5t hpt0
 obtain ⟨pt,hpt⟩:∃ pt,pt = putT t (x0,x1,x2,x3,x4):=⟨_,rfl⟩
 rw [← hpt] at hpt0 ⊢
 have HPT:=hid hpt0
 rw [hkv]
 clear hpt hpt0 h21 hg hkv hyv hyv' hyb ht' hx k
 have gX:=old_alloc (o':=.cells #[.int .i64 0,.int .i64 0,.int .i64 0,.int .i64 0,.bool false,.slice none 0 0,.slice (some ⟨w.heap.size + 3,0,none⟩) 1 1] 35) (old_alloc (o':=.cells #[.int .i64 y0,.int .i64 y1,.int .i64 y2,.int .i64 y3,.bool y4,.slice ya yn yc,.slice yb ym yd] 35) (old_alloc (o':=.cells #[.int .i64 0,.int .i64 0,.int .i64 0,.int .i64 0,.bool false,.slice none 0 0,.slice none 0 0] 35) (new_alloc (w.alloc (.cells #[.int .i64 y0,.int .i64 y1,.int .i64 y2,.int .i64 y3,.bool y4,.slice ya yn yc,.slice yb ym yd] 35)) (w.heap.size + 1) (.cells #[.int .i64 x0,.int .i64 x1,.int .i64 x2,.int .i64 x3,.int .i64 x4] 40) (by simp))))
 have gZ:=old_alloc (o':=.cells #[.int .i64 0,.int .i64 0,.int .i64 0,.int .i64 0,.bool false,.slice none 0 0,.slice (some ⟨w.heap.size + 3,0,none⟩) 1 1] 35) (old_alloc (o':=.cells #[.int .i64 y0,.int .i64 y1,.int .i64 y2,.int .i64 y3,.bool y4,.slice ya yn yc,.slice yb ym yd] 35) (new_alloc ((w.alloc (.cells #[.int .i64 y0,.int .i64 y1,.int .i64 y2,.int .i64 y3,.bool y4,.slice ya yn yc,.slice yb ym yd] 35)).alloc (.cells #[.int .i64 x0,.int .i64 x1,.int .i64 x2,.int .i64 x3,.int .i64 x4] 40)) (w.heap.size + 2) (.cells #[.int .i64 0,.int .i64 0,.int .i64 0,.int .i64 0,.bool false,.slice none 0 0,.slice none 0 0] 35) (by simp)))
 have gK:=old_alloc (o':=.cells #[.int .i64 0,.int .i64 0,.int .i64 0,.int .i64 0,.bool false,.slice none 0 0,.slice (some ⟨w.heap.size + 3,0,none⟩) 1 1] 35) (new_alloc (((w.alloc (.cells #[.int .i64 y0,.int .i64 y1,.int .i64 y2,.int .i64 y3,.bool y4,.slice ya yn yc,.slice yb ym yd] 35)).alloc (.cells #[.int .i64 x0,.int .i64 x1,.int .i64 x2,.int .i64 x3,.int .i64 x4] 40)).alloc (.cells #[.int .i64 0,.int .i64 0,.int .i64 0,.int .i64 0,.bool false,.slice none 0 0,.slice none 0 0] 35)) (w.heap.size + 3) (.cells #[.int .i64 y0,.int .i64 y1,.int .i64 y2,.int .i64 y3,.bool y4,.slice ya yn yc,.slice yb ym yd] 35) (by simp))
 have gA:=new_alloc ((((w.alloc (.cells #[.int .i64 y0,.int .i64 y1,.int .i64 y2,.int .i64 y3,.bool y4,.slice ya yn yc,.slice yb ym yd] 35)).alloc (.cells #[.int .i64 x0,.int .i64 x1,.int .i64 x2,.int .i64 x3,.int .i64 x4] 40)).alloc (.cells #[.int .i64 0,.int .i64 0,.int .i64 0,.int .i64 0,.bool false,.slice none 0 0,.slice none 0 0] 35)).alloc (.cells #[.int .i64 y0,.int .i64 y1,.int .i64 y2,.int .i64 y3,.bool y4,.slice ya yn yc,.slice yb ym yd] 35)) (w.heap.size + 4) (.cells #[.int .i64 0,.int .i64 0,.int .i64 0,.int .i64 0,.bool false,.slice none 0 0,.slice (some ⟨w.heap.size + 3,0,none⟩) 1 1] 35) (by simp)
 have HB:=hid (balloc (balloc (balloc (balloc (balloc (Below.refl w.heap.size w) (.cells #[.int .i64 y0,.int .i64 y1,.int .i64 y2,.int .i64 y3,.bool y4,.slice ya yn yc,.slice yb ym yd] 35)) (.cells #[.int .i64 x0,.int .i64 x1,.int .i64 x2,.int .i64 x3,.int .i64 x4] 40)) (.cells #[.int .i64 0,.int .i64 0,.int .i64 0,.int .i64 0,.bool false,.slice none 0 0,.slice none 0 0] 35)) (.cells #[.int .i64 y0,.int .i64 y1,.int .i64 y2,.int .i64 y3,.bool y4,.slice ya yn yc,.slice yb ym yd] 35)) (.cells #[.int .i64 0,.int .i64 0,.int .i64 0,.int .i64 0,.bool false,.slice none 0 0,.slice (some ⟨w.heap.size + 3,0,none⟩) 1 1] 35))
 go_enter Tryz.func48,Tryz.ntmps48
 go_upto_region 2 with fail
 generalize ((((w.alloc (.cells #[.int .i64 y0,.int .i64 y1,.int .i64 y2,.int .i64 y3,.bool y4,.slice ya yn yc,.slice yb ym yd] 35)).alloc (.cells #[.int .i64 x0,.int .i64 x1,.int .i64 x2,.int .i64 x3,.int .i64 x4] 40)).alloc (.cells #[.int .i64 0,.int .i64 0,.int .i64 0,.int .i64 0,.bool false,.slice none 0 0,.slice none 0 0] 35)).alloc (.cells #[.int .i64 y0,.int .i64 y1,.int .i64 y2,.int .i64 y3,.bool y4,.slice ya yn yc,.slice yb ym yd] 35)).alloc (.cells #[.int .i64 0,.int .i64 0,.int .i64 0,.int .i64 0,.bool false,.slice none 0 0,.slice (some ⟨w.heap.size + 3,0,none⟩) 1 1] 35) = V at *
 obtain ⟨c0,c1,c2,c3,c4,_,_,_,_,_⟩:=cell5j gX
 go_wp2_with fail
 refine (PUT.out V HB.out gK gA).mono ?_
 rintro e W2 ⟨h',S',rfl,hB1,hk1,hs1,hf2⟩
 clear PUT c0 c1 c2 c3 c4
 have hVs:=HB.out.size
 have hZs:=lt_of_heap gA
 have HS1:=hid (show ∀ x ∈ S',x ∈ S ∨ w.heap.size + 3 ≤ x from fun x hx => by
  rcases hs1 x hx with e | e
  ·rcases mem_ab e with e | e
   ·exact .inr (by omega)
   ·exact .inl e
  ·exact .inr (by omega))
 have hSab:∀ x ∈ (w.heap.size + 4) :: (hb none ++ hb (some (⟨w.heap.size + 3,0,none⟩:Addr)) ++ [(t,h,S)].flatMap (·.2.2)),x ∈ S ∨ w.heap.size + 3 ≤ x:=fun x hx => by
  rcases List.mem_cons.1 hx with e | e
  ·exact .inr (by omega)
  ·rcases mem_ab e with e | e
   ·exact .inr (by omega)
   ·exact .inl e
 have gZ2:=(hf2.blk (w.heap.size + 2) (lt_of_heap gZ) (fun hc => by
  rcases hSab _ hc with e | e
  ·have:=hSl _ e;omega
  ·omega)).trans gZ
 have HF:=hid (fr_step (Fr.of HB.out S) hf2 (fun x hx => by
  rcases hSab x hx with e | e
  ·exact .inl e
  ·exact .inr (by omega)))
 clear gX gZ gK gA HB hs1 hf2 hSab
 obtain ⟨ia',ic',ka',kc'⟩:=h'
 have hk1':=hk1
 obtain ⟨ps,l1,r1,r2,hS,hN,hk⟩:=hk1'
 have l1':dn t' = ps.map (·.1):=l1
 rcases dn_gd g5t with ⟨_,e,_⟩ | ⟨ta,tb,e,_,_⟩
 ·rw [e] at l1' hB1
  have hpe:=HPT.out
  rw [e] at hpe
  have HPE:=hid (show pt = t' from hpe)
  clear hpe
  have hl1:ps.length = 1:=by have:=congrArg List.length l1';simpa using this.symm
  obtain ⟨p,rfl⟩:=List.length_eq_one_iff.1 hl1
  have hp1:t' = p.1:=by simpa using l1'
  have r3:W2.ownsRow lo 35 7 (.slice ka' 1 kc') 1 (flK [p]):=r2
  obtain ⟨g2,ea,hg2,_⟩:=row_some r3 (by omega)
  subst ea
  have hkp:=hk p (by simp)
  have hpS:∀ x ∈ p.2.2,x ∈ S':=fun x hx => hS.mem_iff.2 (by simp only [List.mem_append];exact .inr (by simpa using hx))
  have hcell:=row_knAt r3 0 (by simp)
  obtain ⟨z0,z1,z2,z3,z4,za,zn,zc,zb,zm,zd,hzv,_⟩:=kh p
  have hcell2:Cs W2 g2 (0 * 7) (ckh p.1 p.2.1):=hcell
  rw [hzv] at hcell2
  obtain ⟨q0,q1,q2,q3,q4,q5,q6⟩:=Cs.knot7 hcell2
  simp only [Nat.zero_mul,Nat.zero_add] at q0 q1 q2 q3 q4 q5 q6
  have hc1:=(row_caps r3).1
  have hkz:kvh p.1 p.2.1 = .agg #[.int .i64 z0,.int .i64 z1,.int .i64 z2,.int .i64 z3,.bool z4,.slice za zn zc,.slice zb zm zd]:=by
   show Value.agg (ckh p.1 p.2.1).toArray = _
   rw [hzv]
  obtain ⟨r0,r1',r2',r3',r4,r5,r6,s0,s1,s2,s3,s4,s5,s6⟩:=cell7k gZ2
  obtain ⟨_,_,_,_,_,_,b6,_,_,_,_,_,_,_⟩:=hB1.k7
  have b6':W2.cell? ⟨w.heap.size + 4,6,none⟩ = some (.slice (some ⟨g2,0,none⟩) 1 kc'):=by rw [Nat.zero_add] at b6;exact b6
  have hF:=setL_new [.int .i64 z0,.int .i64 z1,.int .i64 z2,.int .i64 z3,.bool z4,.slice za zn zc,.slice zb zm zd] gZ2 rfl
  have hO:=fun x (hx:x ≠ w.heap.size + 2) => setL_blk [.int .i64 z0,.int .i64 z1,.int .i64 z2,.int .i64 z3,.bool z4,.slice za zn zc,.slice zb zm zd] W2 (w.heap.size + 2) 0 x (fun e => hx e.symm)
  have hFF:=fr_setN (g:=w.heap.size + 2) HF.out (.inr (by omega)) [.int .i64 z0,.int .i64 z1,.int .i64 z2,.int .i64 z3,.bool z4,.slice za zn zc,.slice zb zm zd] 0
  simp only [setL,Nat.zero_add,Nat.reduceAdd] at hF hO hFF
  obtain ⟨z0',z1',z2',z3',z4',z5',z6',_,_,_,_,_,_,_⟩:=cell7k hF
  clear hcell hcell2 hF r1 r2 r3 hB1 b6 hzv l1 l1' e g5t
  go_wp2_with fail
  refine bodyPost_ret (v:=.agg #[.int .i64 z0,.int .i64 z1,.int .i64 z2,.int .i64 z3,.bool z4,.slice za zn zc,.slice zb zm zd]) (by simp [results,Tryz.results48,go_sem,z0',z1',z2',z3',z4',z5',z6']) rfl ?_
  rw [HPE.out,hp1]
  exact ⟨p.2.1,p.2.2,by rw [hkz],(hkp.more).keep (fun x hx => hO x (fun e => by
   rcases HS1.out x (hpS x hx) with e2 | e2
   ·have:=hSl x e2;omega
   ·omega)),fun x hx => by
   rcases HS1.out x (hpS x hx) with e2 | e2
   ·exact .inl e2
   ·exact .inr (by omega),hFF⟩
 ·rw [e] at hB1 hk1
  have hpe:=HPT.out
  rw [e] at hpe
  have HPE:=hid (show pt = knotK [ta,tb] from hpe)
  clear hpe
  clear l1 r1 r2 hS hN hk l1' g5t
  have hJ:ckh (knotK [ta,tb]) (ia',ic',ka',kc') = [.int .i64 (jns ([ta,tb].map KT.box)).1,.int .i64 (jns ([ta,tb].map KT.box)).2.1,.int .i64 (jns ([ta,tb].map KT.box)).2.2.1,.int .i64 (jns ([ta,tb].map KT.box)).2.2.2,.bool false,.slice ia' 0 ic',.slice ka' 2 kc']:=rfl
  have hkz:kvh (knotK [ta,tb]) (ia',ic',ka',kc') = .agg (ckh (knotK [ta,tb]) (ia',ic',ka',kc')).toArray:=rfl
  rw [hJ] at hB1 hkz
  generalize jns ([ta,tb].map KT.box) = J at *
  obtain ⟨b0,b1,b2,b3,b4,b5,b6,_,_,_,_,_,_,_⟩:=hB1.k7
  simp only [Nat.zero_add] at b0 b1 b2 b3 b4 b5 b6
  obtain ⟨r0,r1',r2',r3',r4,r5,r6,s0,s1,s2,s3,s4,s5,s6⟩:=cell7k gZ2
  have hF:=setL_new [.int .i64 J.1,.int .i64 J.2.1,.int .i64 J.2.2.1,.int .i64 J.2.2.2,.bool false,.slice ia' 0 ic',.slice ka' 2 kc'] gZ2 rfl
  have hO:=fun x (hx:x ≠ w.heap.size + 2) => setL_blk [.int .i64 J.1,.int .i64 J.2.1,.int .i64 J.2.2.1,.int .i64 J.2.2.2,.bool false,.slice ia' 0 ic',.slice ka' 2 kc'] W2 (w.heap.size + 2) 0 x (fun e => hx e.symm)
  have hFF:=fr_setN (g:=w.heap.size + 2) HF.out (.inr (by omega)) [.int .i64 J.1,.int .i64 J.2.1,.int .i64 J.2.2.1,.int .i64 J.2.2.2,.bool false,.slice ia' 0 ic',.slice ka' 2 kc'] 0
  simp only [setL,Nat.zero_add,Nat.reduceAdd] at hF hO hFF
  obtain ⟨z0',z1',z2',z3',z4',z5',z6',_,_,_,_,_,_,_⟩:=cell7k hF
  clear hF hB1 e
  go_wp2_with fail
  refine bodyPost_ret (v:=.agg #[.int .i64 J.1,.int .i64 J.2.1,.int .i64 J.2.2.1,.int .i64 J.2.2.2,.bool false,.slice ia' 0 ic',.slice ka' 2 kc']) (by simp [results,Tryz.results48,go_sem,z0',z1',z2',z3',z4',z5',z6']) rfl ?_
  rw [HPE.out]
  exact ⟨(ia',ic',ka',kc'),S',by rw [hkz],hk1.keep (fun x hx => hO x (fun e => by
   rcases HS1.out x hx with e2 | e2
   ·have:=hSl x e2;omega
   ·omega)),fun x hx => by
   rcases HS1.out x hx with e2 | e2
   ·exact .inl e2
   ·exact .inr (by omega),hFF⟩
end Go.Proofs.YtjahlofahjgdbaaGreat
