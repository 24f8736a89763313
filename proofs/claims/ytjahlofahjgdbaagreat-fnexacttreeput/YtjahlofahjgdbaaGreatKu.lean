import Derived.Test.YtjahlofahjgdbaaGreatKt
import Derived.Test.YtjahlofahjgdbaaGreatJ23
import Derived.Test.YtjahlofahjgdbaaGreatJ24
set_option maxRecDepth 100000
set_option maxHeartbeats 16000000
set_option linter.unusedSimpArgs false
set_option linter.unusedVariables false
namespace Go.Proofs.YtjahlofahjgdbaaGreat
open Go.RowKit
theorem impl_TreePut (m lo:Nat) (t:KT) (ia ka:Option Addr) (x0 x1 x2 x3 x4:Int) (w:World) (h:Kn lo m w ia ka t) (hz:ksz m t ≤ 1048576):Calls Tryz.prog 11 #[kvo t ia ka,.agg #[.int .i64 x0,.int .i64 x1,.int .i64 x2,.int .i64 x3,.int .i64 x4]] w (PkA w 22 (putA t (x0,x1,x2,x3,x4)) (puts t (x0,x1,x2,x3,x4))):=by
 have hL:=Nat.le_trans (kn_itm m 20 h) hz
 have CI:=hid (fun (W:World) (hb:Below w.heap.size w W) => impl_TreeItems m lo t ia ka W (h.below hb) hz)
 have CT:=hid (fun (W:World) (hb:Below w.heap.size w W) => impl_TreeOk m lo t ia ka W (h.below hb) hz)
 have CH:=hid (fun (W:World) (hb:Below w.heap.size w W) => impl_hasId x0 m lo t ia ka W (h.below hb) hz)
 have CC:=hid (fun (W:World) (hb:Below w.heap.size w W) => (show Calls Tryz.prog 45 #[kvo t ia ka,.int .i64 20] W (KAns W 21 (cpy 20 t)) from impl_copied 20 (Nat.le_refl _) m t ia ka t.its.length t.kids.length W ((h.below hb).knr hz) hz))
 have CP:=hid (fun (hc:Hd) (Sc:List Nat) (W:World) (lo:Nat) (k:KO lo 21 W hc Sc (cpy 20 t)) (hl:lo ≤ W.heap.size) (hok:tokS t = true) (hx:bkb (x1,x2,x3,x4) = true) => show Calls Tryz.prog 48 #[kvh (cpy 20 t) hc,.agg #[.int .i64 x0,.int .i64 x1,.int .i64 x2,.int .i64 x3,.int .i64 x4]] W (WiA W lo 22 Sc (putT t (x0,x1,x2,x3,x4))) by
  obtain ⟨d,hg,hd,_,_⟩:=tok_gd hok
  cases d with
  | zero => cases hg
  | succ d =>
   have e:cpy 20 t = t:=cpy_gd 20 (d + 1) true t hg (by omega)
   rw [e] at k ⊢
   exact impl_withItem d 20 lo x0 x1 x2 x3 x4 t hc Sc W hx hg (by omega) (by omega) k hl)
 have CB:=hid (fun (W:World) => impl_boxok x1 x2 x3 x4 W)
 obtain ⟨b0,b1,b2,b3,b4,ni,nk,hf⟩:=kf t
 rw [kvo_of hf] at CI CT CC CH ⊢
 have HA:=hid (fun (hn:(tokS t && bkb (x1,x2,x3,x4) && !((itm 20 t).map (·.1)).contains x0 && decide ((itm 20 t).length < 400)) = false) => show putA t (x0,x1,x2,x3,x4) = cpy 20 t ∧ puts t (x0,x1,x2,x3,x4) = false from ⟨by unfold putA puts;rw [hn];rfl,hn⟩)
 have HY:=hid (fun (hn:(tokS t && bkb (x1,x2,x3,x4) && !((itm 20 t).map (·.1)).contains x0 && decide ((itm 20 t).length < 400)) = true) => show putA t (x0,x1,x2,x3,x4) = putT t (x0,x1,x2,x3,x4) ∧ puts t (x0,x1,x2,x3,x4) = true from ⟨by unfold putA puts;rw [hn];rfl,hn⟩)
 have hbk:bkb (x1,x2,x3,x4) = bok x1 x2 x3 x4:=rfl
 have hhi:hid1 x0 (itm 20 t) = ((itm 20 t).map (·.1)).contains x0:=rfl
 rw [hbk] at CP HA HY
 rw [hhi] at CH
 generalize putA t (x0,x1,x2,x3,x4) = pa at *
 generalize puts t (x0,x1,x2,x3,x4) = pb at *
 generalize putT t (x0,x1,x2,x3,x4) = pt at *
 generalize cpy 20 t = ct at *
 have gT:=hid (old_alloc (o':=.cells #[.int .i64 0,.int .i64 0,.int .i64 0,.int .i64 0,.bool false,.slice none 0 0,.slice none 0 0] 35) (old_alloc (o':=.cells #[.int .i64 x0,.int .i64 x1,.int .i64 x2,.int .i64 x3,.int .i64 x4] 40) (new_alloc w w.heap.size (.cells #[.int .i64 b0,.int .i64 b1,.int .i64 b2,.int .i64 b3,.bool b4,.slice ia ni ni,.slice ka nk nk] 35) rfl)))
 have gX:=hid (old_alloc (o':=.cells #[.int .i64 0,.int .i64 0,.int .i64 0,.int .i64 0,.bool false,.slice none 0 0,.slice none 0 0] 35) (new_alloc (w.alloc (.cells #[.int .i64 b0,.int .i64 b1,.int .i64 b2,.int .i64 b3,.bool b4,.slice ia ni ni,.slice ka nk nk] 35)) (w.heap.size + 1) (.cells #[.int .i64 x0,.int .i64 x1,.int .i64 x2,.int .i64 x3,.int .i64 x4] 40) (by simp)))
 have gZ:=hid (new_alloc ((w.alloc (.cells #[.int .i64 b0,.int .i64 b1,.int .i64 b2,.int .i64 b3,.bool b4,.slice ia ni ni,.slice ka nk nk] 35)).alloc (.cells #[.int .i64 x0,.int .i64 x1,.int .i64 x2,.int .i64 x3,.int .i64 x4] 40)) (w.heap.size + 2) (.cells #[.int .i64 0,.int .i64 0,.int .i64 0,.int .i64 0,.bool false,.slice none 0 0,.slice none 0 0] 35) (by simp))
 have B0:=hid (balloc (balloc (balloc (Below.refl w.heap.size w) (.cells #[.int .i64 b0,.int .i64 b1,.int .i64 b2,.int .i64 b3,.bool b4,.slice ia ni ni,.slice ka nk nk] 35)) (.cells #[.int .i64 x0,.int .i64 x1,.int .i64 x2,.int .i64 x3,.int .i64 x4] 40)) (.cells #[.int .i64 0,.int .i64 0,.int .i64 0,.int .i64 0,.bool false,.slice none 0 0,.slice none 0 0] 35))
 clear h hf hz hbk hhi
 go_enter Tryz.func11,Tryz.ntmps11
 go_upto_region 1 with fail
 generalize ((w.alloc (.cells #[.int .i64 b0,.int .i64 b1,.int .i64 b2,.int .i64 b3,.bool b4,.slice ia ni ni,.slice ka nk nk] 35)).alloc (.cells #[.int .i64 x0,.int .i64 x1,.int .i64 x2,.int .i64 x3,.int .i64 x4] 40)).alloc (.cells #[.int .i64 0,.int .i64 0,.int .i64 0,.int .i64 0,.bool false,.slice none 0 0,.slice none 0 0] 35) = V at *
 obtain ⟨a0,a1,a2,a3,a4,a5,a6,_,_,_,_,_,_,_⟩:=cell7k gT.out
 obtain ⟨c0,c1,c2,c3,c4,_,_,_,_,_⟩:=cell5j gX.out
 obtain ⟨r0,r1,r2,r3,r4,r5,r6,s0,s1,s2,s3,s4,s5,s6⟩:=cell7k gZ.out
 go_wp2_with fail
 refine (CC.out _ B0.out).mono ?_
 rintro e W1 ⟨hc,Sc,rfl,hko,hb⟩
 have hs2:=lt_of_heap gZ.out
 replace gT:=hid (keepheap hb gT.out)
 replace gX:=hid (keepheap hb gX.out)
 replace gZ:=hid (keepheap hb gZ.out)
 replace B0:=hid (btrans B0.out hb)
 clear a0 a1 a2 a3 a4 a5 a6 c0 c1 c2 c3 c4 r0 r1 r2 r3 r4 r5 r6 s0 s1 s2 s3 s4 s5 s6
 clear hb CC
 obtain ⟨y0,y1,y2,y3,y4,ya,yn,yc,yb,ym,yd,hyv,_⟩:=kh (ct,hc,Sc)
 have hyv':ckh ct hc = [.int .i64 y0,.int .i64 y1,.int .i64 y2,.int .i64 y3,.bool y4,.slice ya yn yc,.slice yb ym yd]:=hyv
 have hkz:kvh ct hc = .agg #[.int .i64 y0,.int .i64 y1,.int .i64 y2,.int .i64 y3,.bool y4,.slice ya yn yc,.slice yb ym yd]:=by
  show Value.agg (ckh ct hc).toArray = _
  rw [hyv']
 have HYV:=hid hkz
 rw [hkz]
 have HSc:=hid (fun b (hb:b ∈ Sc) => (hko.lt b hb).1)
 have HSd:=hid (fun b (hb:b ∈ Sc) => (hko.lt b hb).2)
 have gO:=hid (heap_alloc_new W1 (.cells #[.int .i64 y0,.int .i64 y1,.int .i64 y2,.int .i64 y3,.bool y4,.slice ya yn yc,.slice yb ym yd] 35))
 have HK:=hid hko
 have hbO:=balloc (Below.refl W1.heap.size W1) (.cells #[.int .i64 y0,.int .i64 y1,.int .i64 y2,.int .i64 y3,.bool y4,.slice ya yn yc,.slice yb ym yd] 35)
 replace gT:=hid (keepheap hbO gT.out)
 replace gX:=hid (keepheap hbO gX.out)
 replace gZ:=hid (keepheap hbO gZ.out)
 replace B0:=hid (btrans B0.out hbO)
 replace HK:=hid (HK.out.below hbO)
 obtain ⟨zo,hzo⟩:∃ zo,zo = W1.heap.size:=⟨_,rfl⟩
 rw [← hzo] at gO
 clear hbO hko hyv hyv' hkz
 go_upto_region 2 with fail
 rw [← hzo]
 clear hzo
 generalize hV1:W1.alloc (.cells #[.int .i64 y0,.int .i64 y1,.int .i64 y2,.int .i64 y3,.bool y4,.slice ya yn yc,.slice yb ym yd] 35) = V1 at *
 clear hV1
 obtain ⟨a0,a1,a2,a3,a4,a5,a6,_,_,_,_,_,_,_⟩:=cell7k gT.out
 obtain ⟨c0,c1,c2,c3,c4,_,_,_,_,_⟩:=cell5j gX.out
 obtain ⟨r0,r1,r2,r3,r4,r5,r6,s0,s1,s2,s3,s4,s5,s6⟩:=cell7k gZ.out
 obtain ⟨o0,o1,o2,o3,o4,o5,o6,_,_,_,_,_,_,_⟩:=cell7k gO.out
 go_wp2_with fail
 refine (CT.out _ B0.out).mono ?_
 rintro e W2 ⟨rfl,hb⟩
 replace gT:=hid (keepheap hb gT.out)
 replace gX:=hid (keepheap hb gX.out)
 replace gZ:=hid (keepheap hb gZ.out)
 replace gO:=hid (keepheap hb gO.out)
 replace B0:=hid (btrans B0.out hb)
 replace HK:=hid (HK.out.below hb)
 clear a0 a1 a2 a3 a4 a5 a6 c0 c1 c2 c3 c4 r0 r1 r2 r3 r4 r5 r6 s0 s1 s2 s3 s4 s5 s6 o0 o1 o2 o3 o4 o5 o6
 clear hb CT
 obtain ⟨a0,a1,a2,a3,a4,a5,a6,_,_,_,_,_,_,_⟩:=cell7k gT.out
 obtain ⟨c0,c1,c2,c3,c4,_,_,_,_,_⟩:=cell5j gX.out
 obtain ⟨r0,r1,r2,r3,r4,r5,r6,s0,s1,s2,s3,s4,s5,s6⟩:=cell7k gZ.out
 obtain ⟨o0,o1,o2,o3,o4,o5,o6,_,_,_,_,_,_,_⟩:=cell7k gO.out
 cases hok:tokS t
 ·rw [hok] at HA
  clear HY CP
  have HAn:=hid (HA.out (by simp))
  have hF:=setL_new [.int .i64 y0,.int .i64 y1,.int .i64 y2,.int .i64 y3,.bool y4,.slice ya yn yc,.slice yb ym yd] gZ.out rfl
  have hO:=fun x (hx:x ≠ w.heap.size + 2) => setL_blk [.int .i64 y0,.int .i64 y1,.int .i64 y2,.int .i64 y3,.bool y4,.slice ya yn yc,.slice yb ym yd] W2 (w.heap.size + 2) 0 x (fun e => hx e.symm)
  have hBB:=setL_below [.int .i64 y0,.int .i64 y1,.int .i64 y2,.int .i64 y3,.bool y4,.slice ya yn yc,.slice yb ym yd] w W2 (w.heap.size + 2) 0 _ B0.out (by omega)
  simp only [setL,Nat.zero_add,Nat.reduceAdd] at hF hO hBB
  obtain ⟨z0,z1,z2,z3,z4,z5,z6,_,_,_,_,_,_,_⟩:=cell7k hF
  clear hF
  go_wp2_with fail
  refine bodyPost_ret (v:=.tuple #[.agg #[.int .i64 y0,.int .i64 y1,.int .i64 y2,.int .i64 y3,.bool y4,.slice ya yn yc,.slice yb ym yd],.bool false]) (by simp [results,Tryz.results11,go_sem,z0,z1,z2,z3,z4,z5,z6]) rfl ?_
  exact ⟨hc,Sc,by rw [HAn.out.1,HAn.out.2,HYV.out],by rw [HAn.out.1];exact (KO.lo (lo':=w.heap.size) (Nat.le_of_lt (Nat.lt_of_le_of_lt (Nat.le_add_right _ 2) hs2)) HK.out.more).keep (fun b hb' => hO b (by have:=HSc.out b hb';omega)),hBB⟩
 ·rw [hok] at HA HY
  have HOK:=hid hok
  clear hok
  go_wp2_with fail
  refine (CB.out _).mono ?_
  rintro e W3 ⟨rfl,hb⟩
  replace gT:=hid (keepheap hb gT.out)
  replace gX:=hid (keepheap hb gX.out)
  replace gZ:=hid (keepheap hb gZ.out)
  replace gO:=hid (keepheap hb gO.out)
  replace B0:=hid (btrans B0.out hb)
  replace HK:=hid (HK.out.below hb)
  clear a0 a1 a2 a3 a4 a5 a6 c0 c1 c2 c3 c4 r0 r1 r2 r3 r4 r5 r6 s0 s1 s2 s3 s4 s5 s6 o0 o1 o2 o3 o4 o5 o6
  clear hb CB
  obtain ⟨a0,a1,a2,a3,a4,a5,a6,_,_,_,_,_,_,_⟩:=cell7k gT.out
  obtain ⟨c0,c1,c2,c3,c4,_,_,_,_,_⟩:=cell5j gX.out
  obtain ⟨r0,r1,r2,r3,r4,r5,r6,s0,s1,s2,s3,s4,s5,s6⟩:=cell7k gZ.out
  obtain ⟨o0,o1,o2,o3,o4,o5,o6,_,_,_,_,_,_,_⟩:=cell7k gO.out
  cases hbo:bok x1 x2 x3 x4
  ·rw [hbo] at HA
   clear HY CP
   have HAn:=hid (HA.out (by simp))
   have hF:=setL_new [.int .i64 y0,.int .i64 y1,.int .i64 y2,.int .i64 y3,.bool y4,.slice ya yn yc,.slice yb ym yd] gZ.out rfl
   have hO:=fun x (hx:x ≠ w.heap.size + 2) => setL_blk [.int .i64 y0,.int .i64 y1,.int .i64 y2,.int .i64 y3,.bool y4,.slice ya yn yc,.slice yb ym yd] W3 (w.heap.size + 2) 0 x (fun e => hx e.symm)
   have hBB:=setL_below [.int .i64 y0,.int .i64 y1,.int .i64 y2,.int .i64 y3,.bool y4,.slice ya yn yc,.slice yb ym yd] w W3 (w.heap.size + 2) 0 _ B0.out (by omega)
   simp only [setL,Nat.zero_add,Nat.reduceAdd] at hF hO hBB
   obtain ⟨z0,z1,z2,z3,z4,z5,z6,_,_,_,_,_,_,_⟩:=cell7k hF
   clear hF
   go_wp2_with fail
   refine bodyPost_ret (v:=.tuple #[.agg #[.int .i64 y0,.int .i64 y1,.int .i64 y2,.int .i64 y3,.bool y4,.slice ya yn yc,.slice yb ym yd],.bool false]) (by simp [results,Tryz.results11,go_sem,z0,z1,z2,z3,z4,z5,z6]) rfl ?_
   exact ⟨hc,Sc,by rw [HAn.out.1,HAn.out.2,HYV.out],by rw [HAn.out.1];exact (KO.lo (lo':=w.heap.size) (Nat.le_of_lt (Nat.lt_of_le_of_lt (Nat.le_add_right _ 2) hs2)) HK.out.more).keep (fun b hb' => hO b (by have:=HSc.out b hb';omega)),hBB⟩
  ·rw [hbo] at HA HY
   have HBO:=hid hbo
   clear hbo
   go_wp2_with fail
   refine (CH.out _ B0.out).mono ?_
   rintro e W4 ⟨rfl,hb⟩
   replace gT:=hid (keepheap hb gT.out)
   replace gX:=hid (keepheap hb gX.out)
   replace gZ:=hid (keepheap hb gZ.out)
   replace gO:=hid (keepheap hb gO.out)
   replace B0:=hid (btrans B0.out hb)
   replace HK:=hid (HK.out.below hb)
   clear a0 a1 a2 a3 a4 a5 a6 c0 c1 c2 c3 c4 r0 r1 r2 r3 r4 r5 r6 s0 s1 s2 s3 s4 s5 s6 o0 o1 o2 o3 o4 o5 o6
   clear hb CH
   obtain ⟨a0,a1,a2,a3,a4,a5,a6,_,_,_,_,_,_,_⟩:=cell7k gT.out
   obtain ⟨c0,c1,c2,c3,c4,_,_,_,_,_⟩:=cell5j gX.out
   obtain ⟨r0,r1,r2,r3,r4,r5,r6,s0,s1,s2,s3,s4,s5,s6⟩:=cell7k gZ.out
   obtain ⟨o0,o1,o2,o3,o4,o5,o6,_,_,_,_,_,_,_⟩:=cell7k gO.out
   cases hco:((itm 20 t).map (·.1)).contains x0
   ·rw [hco] at HA HY
    clear hco
    go_wp2_with fail
    refine (CI.out _ B0.out).mono ?_
    rintro e W5 ⟨g,c,rfl,hG,hb⟩
    have hcap:=(row_caps hG).1
    have hc63:=(row_caps hG).2
    replace gT:=hid (keepheap hb gT.out)
    replace gX:=hid (keepheap hb gX.out)
    replace gZ:=hid (keepheap hb gZ.out)
    replace gO:=hid (keepheap hb gO.out)
    replace B0:=hid (btrans B0.out hb)
    replace HK:=hid (HK.out.below hb)
    clear a0 a1 a2 a3 a4 a5 a6 c0 c1 c2 c3 c4 r0 r1 r2 r3 r4 r5 r6 s0 s1 s2 s3 s4 s5 s6 o0 o1 o2 o3 o4 o5 o6
    clear hb CI hG
    obtain ⟨a0,a1,a2,a3,a4,a5,a6,_,_,_,_,_,_,_⟩:=cell7k gT.out
    obtain ⟨c0,c1,c2,c3,c4,_,_,_,_,_⟩:=cell5j gX.out
    obtain ⟨r0,r1,r2,r3,r4,r5,r6,s0,s1,s2,s3,s4,s5,s6⟩:=cell7k gZ.out
    obtain ⟨o0,o1,o2,o3,o4,o5,o6,_,_,_,_,_,_,_⟩:=cell7k gO.out
    generalize (itm 20 t).length = nl at *
    by_cases h4:nl < 400
    ·rw [decide_eq_true h4] at HY
     clear HA
     have hn4:¬ ((400:Int) ≤ (nl:Int)):=by omega
     have HAn:=hid (HY.out (by simp))
     have CW:=hid (CP.out hc Sc W5 w.heap.size (KO.lo (lo':=w.heap.size) (Nat.le_of_lt (Nat.lt_of_le_of_lt (Nat.le_add_right _ 2) hs2)) HK.out) B0.out.size HOK.out HBO.out)
     rw [HYV.out] at CW
     clear CP
     go_wp2_with fail
     refine CW.out.mono ?_
     rintro e W6 ⟨h',S',rfl,hk6,hs6,hf6⟩
     have hW5:=B0.out.size
     have hZ5:=lt_of_heap gZ.out
     have gZ6:=hid ((hf6.blk (w.heap.size + 2) (lt_of_heap gZ.out) (fun hc9 => by have:=HSc.out _ hc9;omega)).trans gZ.out)
     have hB6:=Fr.below hf6 hW5 (fun k hk => by have:=HSc.out k hk;omega)
     have B6:=hid (B0.out.trans hB6)
     clear CW hf6 hB6
     clear a0 a1 a2 a3 a4 a5 a6 c0 c1 c2 c3 c4 r0 r1 r2 r3 r4 r5 r6 s0 s1 s2 s3 s4 s5 s6 o0 o1 o2 o3 o4 o5 o6
     clear gT gX gO B0 HK gZ
     have gZ:=gZ6
     have B0:=B6
     clear gZ6 B6
     obtain ⟨v0,v1,v2,v3,v4,va,vn,vc,vb,vm,vd,hvv,_⟩:=kh (pt,h',S')
     have hvv':ckh pt h' = [.int .i64 v0,.int .i64 v1,.int .i64 v2,.int .i64 v3,.bool v4,.slice va vn vc,.slice vb vm vd]:=hvv
     have hkz:kvh pt h' = .agg #[.int .i64 v0,.int .i64 v1,.int .i64 v2,.int .i64 v3,.bool v4,.slice va vn vc,.slice vb vm vd]:=by
      show Value.agg (ckh pt h').toArray = _
      rw [hvv']
     have HVV:=hid hkz
     have HK6:=hid hk6
     have HS6:=hid hs6
     rw [hkz]
     clear hvv hvv' hkz hk6 hs6
     obtain ⟨r0,r1,r2,r3,r4,r5,r6,s0,s1,s2,s3,s4,s5,s6⟩:=cell7k gZ.out
     have hF:=setL_new [.int .i64 v0,.int .i64 v1,.int .i64 v2,.int .i64 v3,.bool v4,.slice va vn vc,.slice vb vm vd] gZ.out rfl
     have hO:=fun x (hx:x ≠ w.heap.size + 2) => setL_blk [.int .i64 v0,.int .i64 v1,.int .i64 v2,.int .i64 v3,.bool v4,.slice va vn vc,.slice vb vm vd] W6 (w.heap.size + 2) 0 x (fun e => hx e.symm)
     have hBB:=setL_below [.int .i64 v0,.int .i64 v1,.int .i64 v2,.int .i64 v3,.bool v4,.slice va vn vc,.slice vb vm vd] w W6 (w.heap.size + 2) 0 _ B0.out (by omega)
     simp only [setL,Nat.zero_add,Nat.reduceAdd] at hF hO hBB
     obtain ⟨z0,z1,z2,z3,z4,z5,z6,_,_,_,_,_,_,_⟩:=cell7k hF
     clear hF
     go_wp2_with fail
     refine bodyPost_ret (v:=.tuple #[.agg #[.int .i64 v0,.int .i64 v1,.int .i64 v2,.int .i64 v3,.bool v4,.slice va vn vc,.slice vb vm vd],.bool true]) (by simp [results,Tryz.results11,go_sem,z0,z1,z2,z3,z4,z5,z6]) rfl ?_
     exact ⟨h',S',by rw [HAn.out.1,HAn.out.2,HVV.out],by rw [HAn.out.1];exact HK6.out.keep (fun b hb' => hO b (by
      rcases HS6.out b hb' with e | e
      ·have:=HSc.out b e;omega
      ·omega)),hBB⟩
    ·rw [decide_eq_false h4] at HA
     have hn4:((400:Int) ≤ (nl:Int)):=by omega
     clear HY CP
     have HAn:=hid (HA.out (by simp))
     have hF:=setL_new [.int .i64 y0,.int .i64 y1,.int .i64 y2,.int .i64 y3,.bool y4,.slice ya yn yc,.slice yb ym yd] gZ.out rfl
     have hO:=fun x (hx:x ≠ w.heap.size + 2) => setL_blk [.int .i64 y0,.int .i64 y1,.int .i64 y2,.int .i64 y3,.bool y4,.slice ya yn yc,.slice yb ym yd] W5 (w.heap.size + 2) 0 x (fun e => hx e.symm)
     have hBB:=setL_below [.int .i64 y0,.int .i64 y1,.int .i64 y2,.int .i64 y3,.bool y4,.slice ya yn yc,.slice yb ym yd] w W5 (w.heap.size + 2) 0 _ B0.out (by omega)
     simp only [setL,Nat.zero_add,Nat.reduceAdd] at hF hO hBB
     obtain ⟨z0,z1,z2,z3,z4,z5,z6,_,_,_,_,_,_,_⟩:=cell7k hF
     clear hF
     go_wp2_with fail
     refine bodyPost_ret (v:=.tuple #[.agg #[.int .i64 y0,.int .i64 y1,.int .i64 y2,.int .i64 y3,.bool y4,.slice ya yn yc,.slice yb ym yd],.bool false]) (by simp [results,Tryz.results11,go_sem,z0,z1,z2,z3,z4,z5,z6]) rfl ?_
     exact ⟨hc,Sc,by rw [HAn.out.1,HAn.out.2,HYV.out],by rw [HAn.out.1];exact (KO.lo (lo':=w.heap.size) (Nat.le_of_lt (Nat.lt_of_le_of_lt (Nat.le_add_right _ 2) hs2)) HK.out.more).keep (fun b hb' => hO b (by have:=HSc.out b hb';omega)),hBB⟩
   ·rw [hco] at HA
    clear HY CP
    have HAn:=hid (HA.out (by simp))
    have hF:=setL_new [.int .i64 y0,.int .i64 y1,.int .i64 y2,.int .i64 y3,.bool y4,.slice ya yn yc,.slice yb ym yd] gZ.out rfl
    have hO:=fun x (hx:x ≠ w.heap.size + 2) => setL_blk [.int .i64 y0,.int .i64 y1,.int .i64 y2,.int .i64 y3,.bool y4,.slice ya yn yc,.slice yb ym yd] W4 (w.heap.size + 2) 0 x (fun e => hx e.symm)
    have hBB:=setL_below [.int .i64 y0,.int .i64 y1,.int .i64 y2,.int .i64 y3,.bool y4,.slice ya yn yc,.slice yb ym yd] w W4 (w.heap.size + 2) 0 _ B0.out (by omega)
    simp only [setL,Nat.zero_add,Nat.reduceAdd] at hF hO hBB
    obtain ⟨z0,z1,z2,z3,z4,z5,z6,_,_,_,_,_,_,_⟩:=cell7k hF
    clear hF
    go_wp2_with fail
    refine bodyPost_ret (v:=.tuple #[.agg #[.int .i64 y0,.int .i64 y1,.int .i64 y2,.int .i64 y3,.bool y4,.slice ya yn yc,.slice yb ym yd],.bool false]) (by simp [results,Tryz.results11,go_sem,z0,z1,z2,z3,z4,z5,z6]) rfl ?_
    exact ⟨hc,Sc,by rw [HAn.out.1,HAn.out.2,HYV.out],by rw [HAn.out.1];exact (KO.lo (lo':=w.heap.size) (Nat.le_of_lt (Nat.lt_of_le_of_lt (Nat.le_add_right _ 2) hs2)) HK.out.more).keep (fun b hb' => hO b (by have:=HSc.out b hb';omega)),hBB⟩
end Go.Proofs.YtjahlofahjgdbaaGreat
