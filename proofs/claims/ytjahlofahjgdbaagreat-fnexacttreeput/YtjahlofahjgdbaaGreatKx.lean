import Derived.Test.YtjahlofahjgdbaaGreatJ24
set_option maxRecDepth 100000
set_option maxHeartbeats 16000000
set_option linter.unusedSimpArgs false
set_option linter.unusedVariables false
namespace Go.Proofs.YtjahlofahjgdbaaGreat
open Go.RowKit
theorem KO.leaf1 (lo n:Nat) (w:World):KO lo (n + 1) w (none,0,none,0) [] (knotL []):=KO.mk' (ps:=[]) (t:=knotL []) rfl (row_nilI w lo 0 rfl) (row_nilK w lo 0 rfl) (KOs.nil lo n w) (fun x hx => by cases hx) (fun x hx => by cases hx)
theorem sum_le {α:Type} (f:α → Nat) (K:Nat):∀ l:List α,(∀ x ∈ l,f x ≤ K) → (l.map f).sum ≤ l.length * K
 | [],_ => by simp
 | a :: r,h => by
  have h1:=h a (List.mem_cons_self ..)
  have h2:=sum_le f K r (fun x hx => h x (List.mem_cons_of_mem _ hx))
  simp only [List.map_cons,List.sum_cons,List.length_cons,Nat.succ_mul]
  omega
theorem ksz_gd:∀ (n d:Nat) (tp:Bool) (t:KT),gd d tp t = true → 3 * ksz n t + 4 ≤ 4 ^ (d + 1)
 | 0,d,tp,t,_ => by
  have:4 ≤ 4 ^ (d + 1):=by rw [Nat.pow_succ];have:=Nat.pow_pos (n:=d) (show 0 < 4 by omega);omega
  show 3 * 0 + 4 ≤ _
  omega
 | n + 1,0,tp,t,g => by cases g
 | n + 1,d + 1,tp,t,g => by
  obtain ⟨hf,_,_,hc⟩:=gd_parts g
  have e:ksz (n + 1) t = t.its.length + t.kids.length + (t.kids.map (ksz n)).sum:=rfl
  have hp:4 ≤ 4 ^ (d + 1):=by rw [Nat.pow_succ];have:=Nat.pow_pos (n:=d) (show 0 < 4 by omega);omega
  have hp2:4 ^ (d + 1 + 1) = 4 * 4 ^ (d + 1):=by rw [Nat.pow_succ,Nat.mul_comm]
  unfold KT.fan at hf
  rcases hc with ⟨e1,e2,_,_⟩ | ⟨e1,e2,_,e4⟩
  ·rw [e1,if_pos rfl] at hf
   rw [e,e2,hp2]
   simp only [List.length_nil,List.map_nil,List.sum_nil]
   omega
  ·rw [e1,if_neg (by simp)] at hf
   rw [e,e2,hp2]
   rw [List.all_eq_true] at e4
   have hk:∀ x ∈ t.kids,ksz n x ≤ (4 ^ (d + 1) - 4) / 3:=fun x hx => by
    have:=ksz_gd n d false x (e4 x hx)
    omega
   have hs:=sum_le (ksz n) _ t.kids hk
   have hm:t.kids.length * ((4 ^ (d + 1) - 4) / 3) ≤ 4 * ((4 ^ (d + 1) - 4) / 3):=Nat.mul_le_mul_right _ hf
   simp only [List.length_nil]
   omega
theorem ksz_tok {n:Nat} {t:KT} (h:tokS t = true):ksz n t ≤ 1048576:=by
 obtain ⟨d,hg,hd,_,_⟩:=tok_gd h
 have h1:=ksz_gd n d true t hg
 have h2:4 ^ (d + 1) ≤ 4 ^ 9:=Nat.pow_le_pow_right (by omega) (by omega)
 have h3:(4:Nat) ^ 9 = 262144:=by decide
 omega
def cutP (L:List It) (id:Int) (i:Nat):KT:=((L.take i).filter (fun x => decide (x.1 ≠ id))).foldl putT (knotL [])
theorem cutP_eq {L:List It} {id:Int} {i:Nat} (h:i < L.length) (e:L[i].1 = id):cutP L id (i + 1) = cutP L id i:=by
 unfold cutP
 rw [List.take_add_one,List.getElem?_eq_getElem h,Option.toList_some,List.filter_append]
 simp [e]
theorem cutP_ne {L:List It} {id:Int} {i:Nat} (h:i < L.length) (e:L[i].1 ≠ id):cutP L id (i + 1) = putT (cutP L id i) L[i]:=by
 unfold cutP
 rw [List.take_add_one,List.getElem?_eq_getElem h,Option.toList_some,List.filter_append,List.foldl_append]
 simp [e]
theorem cutP_tok {t:KT} (id:Int) (i:Nat) (h:tokS t = true):tokS (cutP (itm 20 t) id i) = true:=by
 have e0:itm 20 (knotL []) = []:=rfl
 obtain ⟨d,hg,hd,_,_⟩:=tok_gd h
 have h3:=h
 unfold tokS at h3
 simp only [Bool.and_eq_true,decide_eq_true_eq] at h3
 have hok:=itm_ok 20 d true t hg
 have hsub:((itm 20 t).take i).filter (fun x => decide (x.1 ≠ id)) |>.Sublist (itm 20 t):=List.filter_sublist.trans (List.take_sublist _ _)
 unfold cutP
 refine (tok_puts _ (knotL []) tok_leaf ?_ ?_ ?_).1
 ·rw [List.all_eq_true] at *
  exact fun x hx => hok x (hsub.mem hx)
 ·rw [e0,List.append_nil]
  exact h3.1.2.sublist (hsub.map _)
 ·rw [e0,List.length_nil,Nat.add_zero]
  exact Nat.le_trans hsub.length_le h3.2
theorem spec_TreeCut (m lo:Nat) (t:KT) (ia ka:Option Addr) (id:Int) (w:World) (h:Kn lo m w ia ka t) (hz:ksz m t ≤ 1048576):Calls Tryz.prog 15 #[kvo t ia ka,.int .i64 id] w (PkA w 22 (cutA t id) (cuts t id)):=by
 have hL:=Nat.le_trans (kn_itm m 20 h) hz
 have CI:=hid (fun (W:World) (hb:Below w.heap.size w W) => spec_TreeItems m lo t ia ka W (h.below hb) hz)
 have CT:=hid (fun (W:World) (hb:Below w.heap.size w W) => spec_TreeOk m lo t ia ka W (h.below hb) hz)
 have CC:=hid (fun (W:World) (hb:Below w.heap.size w W) => (show Calls Tryz.prog 40 #[kvo t ia ka,.int .i64 20] W (KAns W 21 (cpy 20 t)) from spec_kcopy 20 (Nat.le_refl _) m t ia ka t.its.length t.kids.length W ((h.below hb).knl hz) hz))
 obtain ⟨b0,b1,b2,b3,b4,ni,nk,hf⟩:=kf t
 rw [kvo_of hf] at CI CT CC ⊢
 have HA:=hid (fun (hn:(tokS t && ((itm 20 t).map (·.1)).contains id) = false) => show cutA t id = cpy 20 t ∧ cuts t id = false from ⟨by unfold cutA cuts;rw [hn];rfl,hn⟩)
 have HY:=hid (fun (hn:(tokS t && ((itm 20 t).map (·.1)).contains id) = true) => show cutA t id = cutT t id ∧ cuts t id = true from ⟨by unfold cutA cuts;rw [hn];rfl,hn⟩)
 have HCT:=hid (show cutT t id = cutP (itm 20 t) id (itm 20 t).length by unfold cutT cutP;rw [List.take_length])
 have HTK:=hid (fun (hok:tokS t = true) => show (∀ i,tokS (cutP (itm 20 t) id i) = true) ∧ ∀ i (hi:i < (itm 20 t).length),bkb (itm 20 t)[i].2 = true from ⟨fun i => cutP_tok id i hok,fun i hi => by
  obtain ⟨d,hg,hd,_,_⟩:=tok_gd hok
  have:=itm_ok 20 d true t hg
  rw [List.all_eq_true] at this
  exact this _ (List.getElem_mem hi)⟩)
 generalize cutA t id = pa at *
 generalize cuts t id = pb at *
 generalize cutT t id = pt at *
 have gT:=hid (old_alloc (o':=.cells #[.int .i64 0,.int .i64 0,.int .i64 0,.int .i64 0,.bool false,.slice none 0 0,.slice none 0 0] 35) (new_alloc w w.heap.size (.cells #[.int .i64 b0,.int .i64 b1,.int .i64 b2,.int .i64 b3,.bool b4,.slice ia ni ni,.slice ka nk nk] 35) rfl))
 have gZ:=hid (new_alloc (w.alloc (.cells #[.int .i64 b0,.int .i64 b1,.int .i64 b2,.int .i64 b3,.bool b4,.slice ia ni ni,.slice ka nk nk] 35)) (w.heap.size + 1) (.cells #[.int .i64 0,.int .i64 0,.int .i64 0,.int .i64 0,.bool false,.slice none 0 0,.slice none 0 0] 35) (by simp))
 have B0:=hid (balloc (balloc (Below.refl w.heap.size w) (.cells #[.int .i64 b0,.int .i64 b1,.int .i64 b2,.int .i64 b3,.bool b4,.slice ia ni ni,.slice ka nk nk] 35)) (.cells #[.int .i64 0,.int .i64 0,.int .i64 0,.int .i64 0,.bool false,.slice none 0 0,.slice none 0 0] 35))
 clear h hf hz
 go_enter Tryz.func15,Tryz.ntmps15
 go_upto_region 1 with fail
 generalize (w.alloc (.cells #[.int .i64 b0,.int .i64 b1,.int .i64 b2,.int .i64 b3,.bool b4,.slice ia ni ni,.slice ka nk nk] 35)).alloc (.cells #[.int .i64 0,.int .i64 0,.int .i64 0,.int .i64 0,.bool false,.slice none 0 0,.slice none 0 0] 35) = V at *
 obtain ⟨a0,a1,a2,a3,a4,a5,a6,_,_,_,_,_,_,_⟩:=cell7k gT.out
 obtain ⟨r0,r1,r2,r3,r4,r5,r6,s0,s1,s2,s3,s4,s5,s6⟩:=cell7k gZ.out
 go_wp2_with fail
 refine (CI.out _ B0.out).mono ?_
 rintro e W1 ⟨g,c,rfl,hG,hb⟩
 have hcap:=(row_caps hG).1
 have hc63:=(row_caps hG).2
 have HR:=hid hG.r
 replace gT:=hid (keepheap hb gT.out)
 replace gZ:=hid (keepheap hb gZ.out)
 replace B0:=hid (btrans B0.out hb)
 clear a0 a1 a2 a3 a4 a5 a6 r0 r1 r2 r3 r4 r5 r6 s0 s1 s2 s3 s4 s5 s6
 clear hG hb CI
 obtain ⟨L,hLq⟩:∃ L,L = itm 20 t:=⟨_,rfl⟩
 rw [← hLq] at HA HY HR hL hcap HCT HTK ⊢
 have CH:=hid (fun (W:World) (hb:Below W1.heap.size W1 W) => spec_has g c id L W hL (HR.out.below hb))
 have B1:=hid (Below.refl W1.heap.size W1)
 clear hLq
 obtain ⟨a0,a1,a2,a3,a4,a5,a6,_,_,_,_,_,_,_⟩:=cell7k gT.out
 obtain ⟨r0,r1,r2,r3,r4,r5,r6,s0,s1,s2,s3,s4,s5,s6⟩:=cell7k gZ.out
 go_wp2_with fail
 refine (CT.out _ B0.out).mono ?_
 rintro e W2 ⟨rfl,hb⟩
 replace gT:=hid (keepheap hb gT.out)
 replace gZ:=hid (keepheap hb gZ.out)
 replace B0:=hid (btrans B0.out hb)
 clear a0 a1 a2 a3 a4 a5 a6 r0 r1 r2 r3 r4 r5 r6 s0 s1 s2 s3 s4 s5 s6
 replace B1:=hid (btrans B1.out hb)
 clear hb CT
 obtain ⟨a0,a1,a2,a3,a4,a5,a6,_,_,_,_,_,_,_⟩:=cell7k gT.out
 obtain ⟨r0,r1,r2,r3,r4,r5,r6,s0,s1,s2,s3,s4,s5,s6⟩:=cell7k gZ.out
 cases hok:tokS t
 ·rw [hok] at HA
  clear HY HTK HCT
  have HAn:=hid (HA.out (by simp))
  go_wp2_with fail
  refine (CC.out _ B0.out).mono ?_
  rintro e W4 ⟨hc,Sc,rfl,hko,hb⟩
  have hW3:=B0.out.size
  have hZ2:=lt_of_heap gZ.out
  replace gT:=hid (keepheap hb gT.out)
  replace gZ:=hid (keepheap hb gZ.out)
  replace B0:=hid (btrans B0.out hb)
  clear a0 a1 a2 a3 a4 a5 a6 r0 r1 r2 r3 r4 r5 r6 s0 s1 s2 s3 s4 s5 s6
  clear hb
  obtain ⟨y0,y1,y2,y3,y4,ya,yn,yc,yb,ym,yd,hyv,_⟩:=kh ((cpy 20 t),hc,Sc)
  have hyv':ckh (cpy 20 t) hc = [.int .i64 y0,.int .i64 y1,.int .i64 y2,.int .i64 y3,.bool y4,.slice ya yn yc,.slice yb ym yd]:=hyv
  have hkz:kvh (cpy 20 t) hc = .agg #[.int .i64 y0,.int .i64 y1,.int .i64 y2,.int .i64 y3,.bool y4,.slice ya yn yc,.slice yb ym yd]:=by
   show Value.agg (ckh (cpy 20 t) hc).toArray = _
   rw [hyv']
  have HKZ:=hid hkz
  rw [hkz]
  obtain ⟨a0,a1,a2,a3,a4,a5,a6,_,_,_,_,_,_,_⟩:=cell7k gT.out
  obtain ⟨r0,r1,r2,r3,r4,r5,r6,s0,s1,s2,s3,s4,s5,s6⟩:=cell7k gZ.out
  clear hyv hyv' hkz
  have hF:=setL_new [.int .i64 y0,.int .i64 y1,.int .i64 y2,.int .i64 y3,.bool y4,.slice ya yn yc,.slice yb ym yd] gZ.out rfl
  have hO:=fun x (hx:x ≠ w.heap.size + 1) => setL_blk [.int .i64 y0,.int .i64 y1,.int .i64 y2,.int .i64 y3,.bool y4,.slice ya yn yc,.slice yb ym yd] W4 (w.heap.size + 1) 0 x (fun e => hx e.symm)
  have hBB:=setL_below [.int .i64 y0,.int .i64 y1,.int .i64 y2,.int .i64 y3,.bool y4,.slice ya yn yc,.slice yb ym yd] w W4 (w.heap.size + 1) 0 _ B0.out (by omega)
  simp only [setL,Nat.zero_add,Nat.reduceAdd] at hF hO hBB
  obtain ⟨z0,z1,z2,z3,z4,z5,z6,_,_,_,_,_,_,_⟩:=cell7k hF
  clear hF
  go_wp2_with fail
  refine bodyPost_ret (v:=.tuple #[.agg #[.int .i64 y0,.int .i64 y1,.int .i64 y2,.int .i64 y3,.bool y4,.slice ya yn yc,.slice yb ym yd],.bool false]) (by simp [results,Tryz.results15,go_sem,z0,z1,z2,z3,z4,z5,z6]) rfl ?_
  exact ⟨hc,Sc,by rw [HAn.out.1,HAn.out.2,HKZ.out],by rw [HAn.out.1];exact (KO.lo hW3 hko.more).keep (fun b hb' => hO b (by have:=(hko.lt b hb').1;omega)),hBB⟩
 ·rw [hok] at HA HY
  have HTK2:=hid (HTK.out hok)
  clear hok HTK
  go_wp2_with fail
  refine (CH.out _ B1.out).mono ?_
  rintro e W3 ⟨rfl,hb⟩
  replace gT:=hid (keepheap hb gT.out)
  replace gZ:=hid (keepheap hb gZ.out)
  replace B0:=hid (btrans B0.out hb)
  clear a0 a1 a2 a3 a4 a5 a6 r0 r1 r2 r3 r4 r5 r6 s0 s1 s2 s3 s4 s5 s6
  replace B1:=hid (btrans B1.out hb)
  clear hb CH
  obtain ⟨a0,a1,a2,a3,a4,a5,a6,_,_,_,_,_,_,_⟩:=cell7k gT.out
  obtain ⟨r0,r1,r2,r3,r4,r5,r6,s0,s1,s2,s3,s4,s5,s6⟩:=cell7k gZ.out
  cases hco:(L.map (·.1)).contains id
  ·rw [hco] at HA
   clear HY HTK2 HCT
   have HAn:=hid (HA.out (by simp))
   go_wp2_with fail
   refine (CC.out _ B0.out).mono ?_
   rintro e W4 ⟨hc,Sc,rfl,hko,hb⟩
   have hW3:=B0.out.size
   have hZ2:=lt_of_heap gZ.out
   replace gT:=hid (keepheap hb gT.out)
   replace gZ:=hid (keepheap hb gZ.out)
   replace B0:=hid (btrans B0.out hb)
   clear a0 a1 a2 a3 a4 a5 a6 r0 r1 r2 r3 r4 r5 r6 s0 s1 s2 s3 s4 s5 s6
   clear hb
   obtain ⟨y0,y1,y2,y3,y4,ya,yn,yc,yb,ym,yd,hyv,_⟩:=kh ((cpy 20 t),hc,Sc)
   have hyv':ckh (cpy 20 t) hc = [.int .i64 y0,.int .i64 y1,.int .i64 y2,.int .i64 y3,.bool y4,.slice ya yn yc,.slice yb ym yd]:=hyv
   have hkz:kvh (cpy 20 t) hc = .agg #[.int .i64 y0,.int .i64 y1,.int .i64 y2,.int .i64 y3,.bool y4,.slice ya yn yc,.slice yb ym yd]:=by
    show Value.agg (ckh (cpy 20 t) hc).toArray = _
    rw [hyv']
   have HKZ:=hid hkz
   rw [hkz]
   obtain ⟨a0,a1,a2,a3,a4,a5,a6,_,_,_,_,_,_,_⟩:=cell7k gT.out
   obtain ⟨r0,r1,r2,r3,r4,r5,r6,s0,s1,s2,s3,s4,s5,s6⟩:=cell7k gZ.out
   clear hyv hyv' hkz
   have hF:=setL_new [.int .i64 y0,.int .i64 y1,.int .i64 y2,.int .i64 y3,.bool y4,.slice ya yn yc,.slice yb ym yd] gZ.out rfl
   have hO:=fun x (hx:x ≠ w.heap.size + 1) => setL_blk [.int .i64 y0,.int .i64 y1,.int .i64 y2,.int .i64 y3,.bool y4,.slice ya yn yc,.slice yb ym yd] W4 (w.heap.size + 1) 0 x (fun e => hx e.symm)
   have hBB:=setL_below [.int .i64 y0,.int .i64 y1,.int .i64 y2,.int .i64 y3,.bool y4,.slice ya yn yc,.slice yb ym yd] w W4 (w.heap.size + 1) 0 _ B0.out (by omega)
   simp only [setL,Nat.zero_add,Nat.reduceAdd] at hF hO hBB
   obtain ⟨z0,z1,z2,z3,z4,z5,z6,_,_,_,_,_,_,_⟩:=cell7k hF
   clear hF
   go_wp2_with fail
   refine bodyPost_ret (v:=.tuple #[.agg #[.int .i64 y0,.int .i64 y1,.int .i64 y2,.int .i64 y3,.bool y4,.slice ya yn yc,.slice yb ym yd],.bool false]) (by simp [results,Tryz.results15,go_sem,z0,z1,z2,z3,z4,z5,z6]) rfl ?_
   exact ⟨hc,Sc,by rw [HAn.out.1,HAn.out.2,HKZ.out],by rw [HAn.out.1];exact (KO.lo hW3 hko.more).keep (fun b hb' => hO b (by have:=(hko.lt b hb').1;omega)),hBB⟩
  ·rw [hco] at HY
   have HAn:=hid (HY.out (by simp))
   clear HA HY hco CC
   clear a0 a1 a2 a3 a4 a5 a6 r0 r1 r2 r3 r4 r5 r6 s0 s1 s2 s3 s4 s5 s6
   have gY:=heap_alloc_new W3 (.cells #[.int .i64 0,.int .i64 0,.int .i64 0,.int .i64 0,.bool true,.slice none 0 0,.slice none 0 0] 35)
   have hbY:=balloc (Below.refl W3.heap.size W3) (.cells #[.int .i64 0,.int .i64 0,.int .i64 0,.int .i64 0,.bool true,.slice none 0 0,.slice none 0 0] 35)
   have hW13:=B1.out.size
   have hz3:=lt_of_heap gZ.out
   replace gT:=hid (keepheap hbY gT.out)
   replace gZ:=hid (keepheap hbY gZ.out)
   replace B0:=hid (btrans B0.out hbY)
   replace B1:=hid (btrans B1.out hbY)
   clear hbY
   obtain ⟨zk,hzk⟩:∃ zk,zk = W3.heap.size:=⟨_,rfl⟩
   rw [← hzk] at gY hz3 hW13
   have HTO:=hid HTK2.out.1
   have HBX:=hid HTK2.out.2
   have HPL:=hid (show ∃ pl,pl = cutP L id L.length from ⟨_,rfl⟩)
   obtain ⟨pl,hpl⟩:=HPL.out
   have HPE:=hid hpl
   have HB0:=B0
   have HB1:=B1
   clear HTK2 HPL hpl B0 B1 gT
   go_upto_region 6 with fail
   rw [← hzk]
   clear hzk
   generalize W3.alloc (.cells #[.int .i64 0,.int .i64 0,.int .i64 0,.int .i64 0,.bool true,.slice none 0 0,.slice none 0 0] 35) = V2 at *
   go_loopw [8] (fun t8 wr => ∃ (i:Nat) (hd:Hd) (S:List Nat),t8 = .int .i64 i ∧ i ≤ L.length ∧ Hid (KO w.heap.size 22 wr hd S (cutP L id i)) ∧ Hid (∀ x ∈ S,zk < x) ∧ Hid (wr.heap[zk]? = some (.cells (ckh (cutP L id i) hd).toArray 35 (0,0))) ∧ Hid (wr.heap[w.heap.size + 1]? = some (.cells #[.int .i64 0,.int .i64 0,.int .i64 0,.int .i64 0,.bool false,.slice none 0 0,.slice none 0 0] 35 (0,0))) ∧ Hid (Below w.heap.size w wr) ∧ Hid (Below W1.heap.size W1 wr)) (fun t8 _ => L.length - (intOf t8).toNat)
   case atStart => exact ⟨0,(none,0,none,0),[],rfl,Nat.zero_le _,hid (KO.leaf1 _ _ _),hid (fun x hx => by cases hx),hid gY,gZ,HB0,HB1⟩
   case round =>
    clear gY gZ HB0 HB1
    obtain ⟨i,hd,S,rfl,hi,HK,HS,GY,gZ,HB0,HB1⟩:=hrel
    by_cases hlt:i < L.length
    ·have d1:(i:Int) < (L.length:Int):=by omega
     have hxi:=HBX.out i hlt
     have hok:=HTO.out i
     have HEQ:=hid (fun e => cutP_eq (id:=id) hlt e)
     have HNE:=hid (fun e => cutP_ne (id:=id) hlt e)
     have HIT:=hid (fun (W:World) (hb:Below W1.heap.size W1 W) => ((HR.out.2 i hlt).below HR.out.1 hb).item)
     generalize L[i] = xx at *
     obtain ⟨x0,x1,x2,x3,x4⟩:=xx
     simp only [] at hxi HEQ HNE HIT
     generalize cutP L id i = T at *
     obtain ⟨y0,y1,y2,y3,y4,ya,yn,yc,yb,ym,yd,hyv,_⟩:=kh (T,hd,S)
     have hyv':ckh T hd = [.int .i64 y0,.int .i64 y1,.int .i64 y2,.int .i64 y3,.bool y4,.slice ya yn yc,.slice yb ym yd]:=hyv
     have hkz:kvh T hd = .agg #[.int .i64 y0,.int .i64 y1,.int .i64 y2,.int .i64 y3,.bool y4,.slice ya yn yc,.slice yb ym yd]:=by
      show Value.agg (ckh T hd).toArray = _
      rw [hyv']
     have gY:=GY.out
     rw [hyv'] at gY
     clear hyv hyv'
     have hwl:=HB0.out.size
     obtain ⟨k0,k1,k2,k3,k4⟩:=HIT.out _ HB1.out
     by_cases he:x0 = id
     ·have HN:=hid (HEQ.out he)
      subst he
      clear HNE HEQ hkz
      go_wp2_with fail
      go_roundw
      case rel => exact ⟨i + 1,hd,S,by go_num,by omega,by rw [HN.out];exact HK,HS,by rw [HN.out];exact GY,gZ,HB0,HB1⟩
      case measure => simp [intOf];omega
     have HN2:=hid (HNE.out he)
     have hne:(x0 == id) = false:=by simpa using he
     clear HNE HEQ he GY
     have SP:=hid (fun (W:World) (hb:Below wr.heap.size wr W) => show Calls Tryz.prog 41 #[kvh T hd,.agg #[.int .i64 x0,.int .i64 x1,.int .i64 x2,.int .i64 x3,.int .i64 x4]] W (KAns W 22 (putT T (x0,x1,x2,x3,x4))) by
      obtain ⟨d,hg,hd8,_,_⟩:=tok_gd hok
      cases d with
      | zero => cases hg
      | succ d => exact spec_put d 22 x0 x1 x2 x3 x4 T hd W hxi hg (by omega) (HK.out.below hb).knl (ksz_tok hok))
     rw [hkz] at SP
     clear hkz hok hxi
     go_upto_region 9 with fail
     clear k0 k1 k2 k3 k4
     refine wp_region_late (L:=[6]) (S:=(fun w' => w'.cell? ⟨zk,0,none⟩ = some (.int .i64 y0) ∧ w'.cell? ⟨zk,1,none⟩ = some (.int .i64 y1) ∧ w'.cell? ⟨zk,2,none⟩ = some (.int .i64 y2) ∧ w'.cell? ⟨zk,3,none⟩ = some (.int .i64 y3) ∧ w'.cell? ⟨zk,4,none⟩ = some (.bool y4) ∧ w'.cell? ⟨zk,5,none⟩ = some (.slice ya yn yc) ∧ w'.cell? ⟨zk,6,none⟩ = some (.slice yb ym yd) ∧ w'.cell? ⟨g,i * 5,none⟩ = some (.int .i64 x0) ∧ w'.cell? ⟨g,i * 5 + 1,none⟩ = some (.int .i64 x1) ∧ w'.cell? ⟨g,i * 5 + 2,none⟩ = some (.int .i64 x2) ∧ w'.cell? ⟨g,i * 5 + 3,none⟩ = some (.int .i64 x3) ∧ w'.cell? ⟨g,i * 5 + 4,none⟩ = some (.int .i64 x4))) (by kernel_rfl) ?_ (fun hHeld => ?_)
     ·(obtain ⟨c0,c1,c2,c3,c4,c5,c6,_,_,_,_,_,_,_⟩:=cell7k gY;obtain ⟨k0,k1,k2,k3,k4⟩:=HIT.out _ HB1.out;exact ⟨c0,c1,c2,c3,c4,c5,c6,k0,k1,k2,k3,k4⟩)
     have hD:=bdrew (Below.refl wr.heap.size wr)
     replace gY:=keepheap hD gY
     replace gZ:=hid (keepheap hD gZ.out)
     replace HB1:=hid (btrans HB1.out hD)
     replace HB0:=hid (btrans HB0.out hD)
     have HBW:=hid hD
     clear hD
     generalize wr.drew = Va at *
     refine tkA 0 hHeld ?_
     try simp only [sq]
     refine tkP 1 hHeld ?_
     try simp only [sq]
     refine tkP 2 hHeld ?_
     try simp only [sq]
     refine tkP 3 hHeld ?_
     try simp only [sq]
     refine tkA 4 hHeld ?_
     try simp only [sq]
     refine anyL_1 (i:=5) rfl (by kernel_rfl) rfl ?_
     refine wpo_call (SP.out Va HBW.out) ?_ (fun e w' hp => ?_) (fun v Vb hp => ?_)
     ·go_simp
     ·obtain ⟨h',S',h,_⟩:=hp;exact ⟨_,h⟩
     clear hHeld SP
     obtain ⟨h',S',e0,hk2,hb2⟩:=hp
     injection e0 with e0
     subst e0
     have hVa:=HBW.out.size
     have hZk:=lt_of_heap gY
     replace gY:=keepheap hb2 gY
     replace gZ:=hid (keepheap hb2 gZ.out)
     replace HB1:=hid (btrans HB1.out hb2)
     replace HB0:=hid (btrans HB0.out hb2)
     have HK2:=hid hk2
     clear hb2 hk2
     obtain ⟨v0,v1,v2,v3,v4,va,vn,vc,vb,vm,vd,hyv,_⟩:=kh ((putT T (x0,x1,x2,x3,x4)),h',S')
     have hyv':ckh (putT T (x0,x1,x2,x3,x4)) h' = [.int .i64 v0,.int .i64 v1,.int .i64 v2,.int .i64 v3,.bool v4,.slice va vn vc,.slice vb vm vd]:=hyv
     have hkz:kvh (putT T (x0,x1,x2,x3,x4)) h' = .agg #[.int .i64 v0,.int .i64 v1,.int .i64 v2,.int .i64 v3,.bool v4,.slice va vn vc,.slice vb vm vd]:=by
      show Value.agg (ckh (putT T (x0,x1,x2,x3,x4)) h').toArray = _
      rw [hyv']
     rw [hkz]
     have HVV:=hid hyv'
     clear hyv hyv' hkz
     refine ⟨by (obtain ⟨c0,c1,c2,c3,c4,c5,c6,_,_,_,_,_,_,_⟩:=cell7k gY;obtain ⟨k0,k1,k2,k3,k4⟩:=HIT.out _ HB1.out;exact ⟨c0,c1,c2,c3,c4,c5,c6,k0,k1,k2,k3,k4⟩),fun hHeld => ?_⟩
     try simp only [sq]
     refine anyL_1 (i:=6) rfl (by kernel_rfl) rfl ?_
     obtain ⟨e0,e1,e2,e3,e4,e5,e6,f0,f1,f2,f3,f4,f5,f6⟩:=cell7k gY
     refine wpo_late (by kernel_rfl) (by go_simp;first | done | with_reducible rfl | rfl | exact ⟨rfl,rfl⟩) ?_
     clear e0 e1 e2 e3 e4 e5 e6 f0 f1 f2 f3 f4 f5 f6
     try simp only [sq]
     refine anyL_done (by kernel_rfl) ?_ _
     have hF:=setL_new [.int .i64 v0,.int .i64 v1,.int .i64 v2,.int .i64 v3,.bool v4,.slice va vn vc,.slice vb vm vd] gY rfl
     have hO:=fun x (hx:x ≠ zk) => setL_blk [.int .i64 v0,.int .i64 v1,.int .i64 v2,.int .i64 v3,.bool v4,.slice va vn vc,.slice vb vm vd] Vb zk 0 x (fun e => hx e.symm)
     have hBB:=setL_below [.int .i64 v0,.int .i64 v1,.int .i64 v2,.int .i64 v3,.bool v4,.slice va vn vc,.slice vb vm vd] w Vb zk 0 _ HB0.out (by omega)
     have hB1B:=setL_below [.int .i64 v0,.int .i64 v1,.int .i64 v2,.int .i64 v3,.bool v4,.slice va vn vc,.slice vb vm vd] W1 Vb zk 0 _ HB1.out (by omega)
     simp only [setL,Nat.zero_add,Nat.reduceAdd] at hF hO hBB hB1B
     have HF:=hid hF
     have HO:=hid hO
     have HBB:=hid hBB
     have HB1B:=hid hB1B
     clear hF hO hBB hB1B
     go_wp2_with fail
     go_roundw
     case rel =>
      refine ⟨i + 1,h',S',by go_num,by omega,hid ?_,hid (fun x hx => by have:=(HK2.out.lt x hx).1;omega),hid ?_,hid ((HO.out _ (by omega)).trans gZ.out),HBB,HB1B⟩
      ·rw [HN2.out]
       exact (KO.lo (Nat.le_trans (by omega) hVa) HK2.out).keep (fun x hx => HO.out x (by have:=(HK2.out.lt x hx).1;omega))
      ·rw [HN2.out,HVV.out]
       exact HF.out
     case measure => simp [intOf];omega
    ·have d1:(L.length:Int) ≤ (i:Int):=by omega
     have hil:i = L.length:=by omega
     subst hil
     rw [← HPE.out] at HK GY
     obtain ⟨y0,y1,y2,y3,y4,ya,yn,yc,yb,ym,yd,hyv,_⟩:=kh (pl,hd,S)
     have hyv':ckh pl hd = [.int .i64 y0,.int .i64 y1,.int .i64 y2,.int .i64 y3,.bool y4,.slice ya yn yc,.slice yb ym yd]:=hyv
     have hkz:kvh pl hd = .agg #[.int .i64 y0,.int .i64 y1,.int .i64 y2,.int .i64 y3,.bool y4,.slice ya yn yc,.slice yb ym yd]:=by
      show Value.agg (ckh pl hd).toArray = _
      rw [hyv']
     have gY:=GY.out
     rw [hyv'] at gY
     have hwl:=HB0.out.size
     have B0:=HB0
     clear GY hyv hyv'
     obtain ⟨a0,a1,a2,a3,a4,a5,a6,_,_,_,_,_,_,_⟩:=cell7k gY
     obtain ⟨r0,r1,r2,r3,r4,r5,r6,s0,s1,s2,s3,s4,s5,s6⟩:=cell7k gZ.out
     have HKZ:=hid hkz
     clear hkz
     have hF:=setL_new [.int .i64 y0,.int .i64 y1,.int .i64 y2,.int .i64 y3,.bool y4,.slice ya yn yc,.slice yb ym yd] gZ.out rfl
     have hO:=fun x (hx:x ≠ w.heap.size + 1) => setL_blk [.int .i64 y0,.int .i64 y1,.int .i64 y2,.int .i64 y3,.bool y4,.slice ya yn yc,.slice yb ym yd] wr (w.heap.size + 1) 0 x (fun e => hx e.symm)
     have hBB:=setL_below [.int .i64 y0,.int .i64 y1,.int .i64 y2,.int .i64 y3,.bool y4,.slice ya yn yc,.slice yb ym yd] w wr (w.heap.size + 1) 0 _ B0.out (by omega)
     simp only [setL,Nat.zero_add,Nat.reduceAdd] at hF hO hBB
     obtain ⟨z0,z1,z2,z3,z4,z5,z6,_,_,_,_,_,_,_⟩:=cell7k hF
     clear hF
     go_wp2_with fail
     refine bodyPost_ret (v:=.tuple #[.agg #[.int .i64 y0,.int .i64 y1,.int .i64 y2,.int .i64 y3,.bool y4,.slice ya yn yc,.slice yb ym yd],.bool true]) (by simp [results,Tryz.results15,go_sem,z0,z1,z2,z3,z4,z5,z6]) rfl ?_
     exact ⟨hd,S,by rw [HAn.out.1,HAn.out.2,HCT.out,← HPE.out,HKZ.out],by rw [HAn.out.1,HCT.out,← HPE.out];exact HK.out.keep (fun x hx => hO x (by have:=HS.out x hx;omega)),hBB⟩
end Go.Proofs.YtjahlofahjgdbaaGreat
