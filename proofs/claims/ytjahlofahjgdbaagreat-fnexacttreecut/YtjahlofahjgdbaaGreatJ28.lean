/- Texts of stores, joined: Kv, Kw, Ky. -/
import Derived.Lib.SliceRun
import Derived.Test.YtjahlofahjgdbaaGreatJ24
import Derived.Test.YtjahlofahjgdbaaGreatKt
import Derived.Test.YtjahlofahjgdbaaGreatJ23
set_option maxRecDepth 100000
set_option maxHeartbeats 16000000
set_option linter.unusedSimpArgs false
set_option linter.unusedVariables false
namespace Go.Proofs.YtjahlofahjgdbaaGreat
open Go.RowKit
theorem KO.leaf0 (lo n:Nat) (w:World):KO lo (n + 1) w (none,0,none,0) [] (knotL []):=KO.mk' (ps:=[]) (t:=knotL []) rfl (row_nilI w lo 0 rfl) (row_nilK w lo 0 rfl) (KOs.nil lo n w) (fun x hx => by cases hx) (fun x hx => by cases hx)
theorem foldl_next {l:List It} {i:Nat} (h:i < l.length) (t:KT):(l.take (i + 1)).foldl putT t = putT ((l.take i).foldl putT t) l[i]:=by
 rw [List.take_add_one,List.getElem?_eq_getElem h,Option.toList_some,List.foldl_append]
 rfl
theorem tok_take {l:List It} (hok:l.all (fun x => bkb x.2) = true) (hn:(l.map (·.1)).Nodup) (hl:l.length ≤ 400) (i:Nat):tokS ((l.take i).foldl putT (knotL [])) = true:=by
 have e0:itm 20 (knotL []) = []:=rfl
 refine (tok_puts (l.take i) (knotL []) tok_leaf ?_ ?_ ?_).1
 ·rw [List.all_eq_true] at *
  exact fun x hx => hok x (List.mem_of_mem_take hx)
 ·rw [e0,List.append_nil,List.map_take]
  exact hn.sublist (List.take_sublist _ _)
 ·rw [e0,List.length_take];simp;omega
theorem impl_treeOf (b c:Nat) (l:List It) (w:World) (hm:l.length ≤ 400) (h:ItR w b l) (hcap:l.length ≤ c) (hok:l.all (fun x => bkb x.2) = true) (hn:(l.map (·.1)).Nodup):Calls Tryz.prog 58 #[.slice (some ⟨b,0,none⟩) l.length c] w (KAns w 22 (l.foldl putT (knotL []))):=by
 have HR:=hid h
 have HT:=hid (tok_take hok hn hm)
 have HX:=hid (fun (i:Nat) (hi:i < l.length) => List.all_eq_true.1 hok l[i] (List.getElem_mem hi))
 have HNX:=hid (fun (i:Nat) (hi:i < l.length) => foldl_next hi (knotL []))
 have HLL:=hid (show l.foldl putT (knotL []) = (l.take l.length).foldl putT (knotL []) by rw [List.take_length])
 obtain ⟨pt,hpt⟩:∃ pt,pt = l.foldl putT (knotL []):=⟨_,rfl⟩
 rw [← hpt] at HLL ⊢
 clear h hok hn hpt
 have gZ:=old_alloc (o':=.cells #[.int .i64 0,.int .i64 0,.int .i64 0,.int .i64 0,.bool true,.slice none 0 0,.slice none 0 0] 35) (new_alloc w w.heap.size (.cells #[.int .i64 0,.int .i64 0,.int .i64 0,.int .i64 0,.bool false,.slice none 0 0,.slice none 0 0] 35) rfl)
 have gT:=new_alloc (w.alloc (.cells #[.int .i64 0,.int .i64 0,.int .i64 0,.int .i64 0,.bool false,.slice none 0 0,.slice none 0 0] 35)) (w.heap.size + 1) (.cells #[.int .i64 0,.int .i64 0,.int .i64 0,.int .i64 0,.bool true,.slice none 0 0,.slice none 0 0] 35) (by simp)
 have B0:=hid (balloc (balloc (Below.refl w.heap.size w) (.cells #[.int .i64 0,.int .i64 0,.int .i64 0,.int .i64 0,.bool false,.slice none 0 0,.slice none 0 0] 35)) (.cells #[.int .i64 0,.int .i64 0,.int .i64 0,.int .i64 0,.bool true,.slice none 0 0,.slice none 0 0] 35))
 go_enter Tryz.func58,Tryz.ntmps58
 go_upto_region 3 with fail
 generalize (w.alloc (.cells #[.int .i64 0,.int .i64 0,.int .i64 0,.int .i64 0,.bool false,.slice none 0 0,.slice none 0 0] 35)).alloc (.cells #[.int .i64 0,.int .i64 0,.int .i64 0,.int .i64 0,.bool true,.slice none 0 0,.slice none 0 0] 35) = V at *
 go_loopw [9] (fun t9 wr => ∃ (i:Nat) (hd:Hd) (S:List Nat),t9 = .int .i64 i ∧ i ≤ l.length ∧ Hid (KO w.heap.size 22 wr hd S ((l.take i).foldl putT (knotL []))) ∧ Hid (∀ x ∈ S,w.heap.size + 2 ≤ x) ∧ Hid (wr.heap[w.heap.size + 1]? = some (.cells (ckh ((l.take i).foldl putT (knotL [])) hd).toArray 35 (0,0))) ∧ Hid (wr.heap[w.heap.size]? = some (.cells #[.int .i64 0,.int .i64 0,.int .i64 0,.int .i64 0,.bool false,.slice none 0 0,.slice none 0 0] 35 (0,0))) ∧ Hid (Below w.heap.size w wr)) (fun t9 _ => l.length - (intOf t9).toNat)
 case atStart => exact ⟨0,(none,0,none,0),[],rfl,Nat.zero_le _,hid (KO.leaf0 _ _ _),hid (fun x hx => by cases hx),hid gT,hid gZ,B0⟩
 case round =>
  clear gT gZ B0
  obtain ⟨i,hd,S,rfl,hi,HK,HS,GT,GZ,HB⟩:=hrel
  by_cases hlt:i < l.length
  ·have d1:(i:Int) < (l.length:Int):=by omega
   have hxi:=HX.out i hlt
   have hnx:=HNX.out i hlt
   have hok:=HT.out i
   obtain ⟨k0,k1,k2,k3,k4⟩:=((HR.out.2 i hlt).below HR.out.1 HB.out).item
   generalize l[i] = xx at *
   obtain ⟨x0,x1,x2,x3,x4⟩:=xx
   generalize (l.take i).foldl putT (knotL []) = T at *
   have HN2:=hid hnx
   clear hnx
   simp only [] at k0 k1 k2 k3 k4 hxi HN2
   obtain ⟨y0,y1,y2,y3,y4,ya,yn,yc,yb,ym,yd,hyv,_⟩:=kh (T,hd,S)
   have hyv':ckh T hd = [.int .i64 y0,.int .i64 y1,.int .i64 y2,.int .i64 y3,.bool y4,.slice ya yn yc,.slice yb ym yd]:=hyv
   have hkz:kvh T hd = .agg #[.int .i64 y0,.int .i64 y1,.int .i64 y2,.int .i64 y3,.bool y4,.slice ya yn yc,.slice yb ym yd]:=by
    show Value.agg (ckh T hd).toArray = _
    rw [hyv']
   have CW:=hid (fun (W:World) (hb:Below wr.heap.size wr W) => show Calls Tryz.prog 48 #[kvh T hd,.agg #[.int .i64 x0,.int .i64 x1,.int .i64 x2,.int .i64 x3,.int .i64 x4]] W (WiA W w.heap.size 22 S (putT T (x0,x1,x2,x3,x4))) by
    obtain ⟨d,hg,hd8,_,_⟩:=tok_gd hok
    cases d with
    | zero => cases hg
    | succ d =>
     have hk:=HK.out.gd' hg
     refine (impl_withItem d d w.heap.size x0 x1 x2 x3 x4 T hd S W hxi hg (by omega) (Nat.le_refl _) (hk.below hb) (Nat.le_trans HB.out.size hb.size)).mono ?_
     rintro e w' ⟨h',S',e1,e2,e3,e4⟩
     exact ⟨h',S',e1,e2.le (by omega),e3,e4⟩)
   rw [hkz] at CW
   have gT:=GT.out
   rw [hyv'] at gT
   have hbA:=balloc (Below.refl wr.heap.size wr) (.cells #[.int .i64 x0,.int .i64 x1,.int .i64 x2,.int .i64 x3,.int .i64 x4] 40)
   have gI:=new_alloc wr wr.heap.size (.cells #[.int .i64 x0,.int .i64 x1,.int .i64 x2,.int .i64 x3,.int .i64 x4] 40) rfl
   have gTA:=keepheap hbA gT
   have GZA:=hid (keepheap hbA GZ.out)
   have HBA:=hid (btrans HB.out hbA)
   have HBW:=hid hbA
   have hwl:=HB.out.size
   clear hyv hyv' hkz GT gT hbA
   obtain ⟨a0,a1,a2,a3,a4,a5,a6,f0,f1,f2,f3,f4,f5,f6⟩:=cell7k gTA
   obtain ⟨c0,c1,c2,c3,c4,_,_,_,_,_⟩:=cell5j gI
   go_upto_region 5 with fail
   generalize wr.alloc (.cells #[.int .i64 x0,.int .i64 x1,.int .i64 x2,.int .i64 x3,.int .i64 x4] 40) = VA at *
   clear k0 k1 k2 k3 k4
   go_wp2_with fail
   refine (CW.out _ HBW.out).mono ?_
   rintro e W2 ⟨h',S',rfl,hk2,hs2,hf2⟩
   have hVA:=HBW.out.size
   have hT1:=lt_of_heap gTA
   have gT2:=(hf2.blk (w.heap.size + 1) hT1 (fun hc => by have:=HS.out _ hc;omega)).trans gTA
   have GZ2:=hid ((hf2.blk w.heap.size (lt_of_heap GZA.out) (fun hc => by have:=HS.out _ hc;omega)).trans GZA.out)
   have HB2:=hid (HBA.out.trans (hf2.below (by omega) (fun k hk => by have:=HS.out k hk;omega)))
   have HS2:=hid (show ∀ x ∈ S',w.heap.size + 2 ≤ x from fun x hx => by
    rcases hs2 x hx with e | e
    ·exact HS.out x e
    ·omega)
   have HK2:=hid hk2
   clear hk2 hs2 hf2 a0 a1 a2 a3 a4 a5 a6 f0 f1 f2 f3 f4 f5 f6 c0 c1 c2 c3 c4 gTA gI GZA HBA HBW CW HK HS
   obtain ⟨v0,v1,v2,v3,v4,va,vn,vc,vb,vm,vd,hvv,_⟩:=kh (putT T (x0,x1,x2,x3,x4),h',S')
   have hvv':ckh (putT T (x0,x1,x2,x3,x4)) h' = [.int .i64 v0,.int .i64 v1,.int .i64 v2,.int .i64 v3,.bool v4,.slice va vn vc,.slice vb vm vd]:=hvv
   have hkz:kvh (putT T (x0,x1,x2,x3,x4)) h' = .agg #[.int .i64 v0,.int .i64 v1,.int .i64 v2,.int .i64 v3,.bool v4,.slice va vn vc,.slice vb vm vd]:=by
    show Value.agg (ckh (putT T (x0,x1,x2,x3,x4)) h').toArray = _
    rw [hvv']
   rw [hkz]
   have HVV:=hid hvv'
   clear hvv hvv' hkz
   obtain ⟨a0,a1,a2,a3,a4,a5,a6,f0,f1,f2,f3,f4,f5,f6⟩:=cell7k gT2
   have hF:=setL_new [.int .i64 v0,.int .i64 v1,.int .i64 v2,.int .i64 v3,.bool v4,.slice va vn vc,.slice vb vm vd] gT2 rfl
   have hO:=fun x (hx:x ≠ w.heap.size + 1) => setL_blk [.int .i64 v0,.int .i64 v1,.int .i64 v2,.int .i64 v3,.bool v4,.slice va vn vc,.slice vb vm vd] W2 (w.heap.size + 1) 0 x (fun e => hx e.symm)
   have hBB:=setL_below [.int .i64 v0,.int .i64 v1,.int .i64 v2,.int .i64 v3,.bool v4,.slice va vn vc,.slice vb vm vd] w W2 (w.heap.size + 1) 0 _ HB2.out (by omega)
   simp only [setL,Nat.zero_add,Nat.reduceAdd] at hF hO hBB
   have HF:=hid hF
   have HO:=hid hO
   have HBB:=hid hBB
   clear hF hO hBB
   go_wp2_with fail
   go_roundw
   case rel =>
    refine ⟨i + 1,h',S',by go_num,by omega,hid ?_,HS2,hid ?_,hid ((HO.out _ (by omega)).trans GZ2.out),HBB⟩
    ·rw [HN2.out]
     exact HK2.out.keep (fun x hx => HO.out x (by have:=HS2.out x hx;omega))
    ·rw [HN2.out,HVV.out]
     exact HF.out
   case measure => simp [intOf];omega
  ·have d1:(l.length:Int) ≤ (i:Int):=by omega
   have hil:i = l.length:=by omega
   have hfin:=HLL.out
   subst hil
   rw [← hfin] at HK GT
   obtain ⟨y0,y1,y2,y3,y4,ya,yn,yc,yb,ym,yd,hyv,_⟩:=kh (pt,hd,S)
   have hyv':ckh pt hd = [.int .i64 y0,.int .i64 y1,.int .i64 y2,.int .i64 y3,.bool y4,.slice ya yn yc,.slice yb ym yd]:=hyv
   have hkz:kvh pt hd = .agg #[.int .i64 y0,.int .i64 y1,.int .i64 y2,.int .i64 y3,.bool y4,.slice ya yn yc,.slice yb ym yd]:=by
    show Value.agg (ckh pt hd).toArray = _
    rw [hyv']
   have gT:=GT.out
   rw [hyv'] at gT
   have gZ:=GZ.out
   have hwl:=HB.out.size
   clear hyv hyv' hfin
   obtain ⟨a0,a1,a2,a3,a4,a5,a6,_,_,_,_,_,_,_⟩:=cell7k gT
   obtain ⟨r0,r1,r2,r3,r4,r5,r6,s0,s1,s2,s3,s4,s5,s6⟩:=cell7k gZ
   have hF:=setL_new [.int .i64 y0,.int .i64 y1,.int .i64 y2,.int .i64 y3,.bool y4,.slice ya yn yc,.slice yb ym yd] gZ rfl
   have hO:=fun x (hx:x ≠ w.heap.size) => setL_blk [.int .i64 y0,.int .i64 y1,.int .i64 y2,.int .i64 y3,.bool y4,.slice ya yn yc,.slice yb ym yd] wr w.heap.size 0 x (fun e => hx e.symm)
   have hBB:=setL_below [.int .i64 y0,.int .i64 y1,.int .i64 y2,.int .i64 y3,.bool y4,.slice ya yn yc,.slice yb ym yd] w wr w.heap.size 0 _ HB.out (by omega)
   simp only [setL,Nat.zero_add,Nat.reduceAdd] at hF hO hBB
   obtain ⟨z0,z1,z2,z3,z4,z5,z6,_,_,_,_,_,_,_⟩:=cell7k hF
   clear hF
   go_wp2_with fail
   refine bodyPost_ret (v:=.agg #[.int .i64 y0,.int .i64 y1,.int .i64 y2,.int .i64 y3,.bool y4,.slice ya yn yc,.slice yb ym yd]) (by simp [results,Tryz.results58,go_sem,z0,z1,z2,z3,z4,z5,z6]) rfl ?_
   exact ⟨hd,S,by rw [hkz],HK.out.keep (fun x hx => hO x (by have:=HS.out x hx;omega)),hBB⟩
def ieq (t:Int) (x:It):Bool:=decide (x.1 = t)
theorem cut_1 (v0 v1 v2 v3 v4 t:Int) (p:Nat) (w:World) (c1:w.cell? ⟨p,0,none⟩ = some (.int .i64 t)):Calls Tryz.prog 57 #[.agg #[.int .i64 v0,.int .i64 v1,.int .i64 v2,.int .i64 v3,.int .i64 v4],.pointer (some ⟨p,0,none⟩)] w fun e w' => e = .returned (.bool (decide (v0 = t))) ∧ Below w.heap.size w w':=by
 have hB:Below w.heap.size w (w.alloc (.cells #[.int .i64 v0,.int .i64 v1,.int .i64 v2,.int .i64 v3,.int .i64 v4] 40)):=balloc (Below.refl _ _) _
 have g0:=new_alloc w w.heap.size (.cells #[.int .i64 v0,.int .i64 v1,.int .i64 v2,.int .i64 v3,.int .i64 v4] 40) rfl
 replace c1:=keepcell hB c1
 go_enter Tryz.func57,Tryz.ntmps57
 go_upto_region 1 with fail
 generalize w.alloc (.cells #[.int .i64 v0,.int .i64 v1,.int .i64 v2,.int .i64 v3,.int .i64 v4] 40) = W at *
 obtain ⟨x0,x1,x2,x3,x4,_,_,_,_,_⟩:=cell5j g0
 go_wp2_with fail
 go_ret
 exact ⟨by congr 2,hB⟩
def ItmAt (w:World) (g:Nat) (xs:List It):Prop:=∀ j (h:j < xs.length),w.cell? ⟨g,j * 5,none⟩ = some (.int .i64 xs[j].1) ∧ w.cell? ⟨g,j * 5 + 1,none⟩ = some (.int .i64 xs[j].2.1) ∧ w.cell? ⟨g,j * 5 + 2,none⟩ = some (.int .i64 xs[j].2.2.1) ∧ w.cell? ⟨g,j * 5 + 3,none⟩ = some (.int .i64 xs[j].2.2.2.1) ∧ w.cell? ⟨g,j * 5 + 4,none⟩ = some (.int .i64 xs[j].2.2.2.2)
theorem own_its {w:World} {base g c n:Nat} {xs:List It} (h:w.ownsRow base 40 5 (.slice (some ⟨g,0,none⟩) n c) n (flI xs)):ItmAt w g xs:=by
 intro j hj
 have hc:=row_itAt h j hj
 exact ⟨hc 0 _ rfl,hc 1 _ rfl,hc 2 _ rfl,hc 3 _ rfl,hc 4 _ rfl⟩
theorem fnd_yes {xs:List It} {q:It → Bool} {i:Nat} (hi:i < xs.length) (hb:∀ m (h:m < xs.length),m < i → q xs[m] = false) (h:q xs[i] = true):xs.findIdx q = i:=by
 rw [List.findIdx_eq hi]
 exact ⟨h,fun j hj => by simp [hb j (by omega) hj]⟩
theorem fnd_no {xs:List It} {q:It → Bool} (hb:∀ m (h:m < xs.length),q xs[m] = false):xs.findIdx q = xs.length:=by
 rw [List.findIdx_eq_length]
 intro x hx
 obtain ⟨m,hm,rfl⟩:=List.getElem_of_mem hx
 simp [hb m hm]
theorem index_cut (g cap:Nat) (xs:List It) (t:Int) (p:Nat) (w:World) (hm:xs.length ≤ 1099511627776) (hg:g < w.heap.size) (h:ItmAt w g xs) (c1:w.cell? ⟨p,0,none⟩ = some (.int .i64 t)):Calls Tryz.prog 85 #[.slice (some ⟨g,0,none⟩) xs.length cap,.func (.func 57) #[] #[.pointer (some ⟨p,0,none⟩)]] w fun e w' => e = .returned (.int .i64 (if xs.findIdx (ieq t) < xs.length then (xs.findIdx (ieq t):Int) else -1)) ∧ Below w.heap.size w w':=by
 have HR:=hid h
 have HC:=hid c1
 clear h c1
 have HNO:Hid ((∀ m (h:m < xs.length),ieq t xs[m] = false) → (if xs.findIdx (ieq t) < xs.length then (xs.findIdx (ieq t):Int) else -1) = -1):=hid (fun hb => by rw [fnd_no hb];simp)
 have HYE:Hid (∀ i (hi:i < xs.length),(∀ m (h:m < xs.length),m < i → ieq t xs[m] = false) → ieq t xs[i] = true → (if xs.findIdx (ieq t) < xs.length then (xs.findIdx (ieq t):Int) else -1) = (i:Int)):=hid (fun i hi hb h => by rw [fnd_yes hi hb h,if_pos hi])
 generalize (if xs.findIdx (ieq t) < xs.length then (xs.findIdx (ieq t):Int) else -1) = q at *
 obtain ⟨n,hn⟩:∃ n,n = xs.length:=⟨_,rfl⟩
 have HN:=hid hn.symm
 rw [← hn] at hm ⊢
 clear hn
 go_enter Tryz.func85,Tryz.ntmps85
 go_wp2_with fail
 go_loopw [8] (fun ti wr => ∃ i:Nat,ti = .int .i64 i ∧ i ≤ n ∧ Hid (∀ m (h:m < xs.length),m < i → ieq t xs[m] = false) ∧ Hid (Below w.heap.size w wr)) (fun ti _ => n - (intOf ti).toNat)
 case atStart => exact ⟨0,rfl,Nat.zero_le _,hid (fun m h hh => absurd hh (by omega)),hid (Below.refl _ _)⟩
 case round =>
  obtain ⟨i,rfl,hi,HA,HBW⟩:=hrel
  by_cases hlt:i < n
  ·have d1:(i:Int) < (n:Int):=by omega
   have hir:i < xs.length:=by rw [HN.out];exact hlt
   obtain ⟨k0,k1,k2,k3,k4⟩:=HR.out i hir
   replace k0:=keepcell HBW.out k0
   replace k1:=keepcell HBW.out k1
   replace k2:=keepcell HBW.out k2
   replace k3:=keepcell HBW.out k3
   replace k4:=keepcell HBW.out k4
   have c1:=keepcell HBW.out HC.out
   have HY:=hid (HYE.out i hir HA.out)
   have HX:Hid (ieq t xs[i] = false → ∀ m (h:m < xs.length),m < i + 1 → ieq t xs[m] = false):=hid (fun e m h hm => by
    by_cases e2:m = i
    ·subst e2;exact e
    ·exact HA.out m h (by omega))
   have HQ:Hid (ieq t xs[i] = decide (xs[i].1 = t)):=hid rfl
   generalize ieq t xs[i] = eb at *
   generalize xs[i].2.2.2.2 = v4 at *
   generalize xs[i].2.2.2.1 = v3 at *
   generalize xs[i].2.2.1 = v2 at *
   generalize xs[i].2.1 = v1 at *
   generalize xs[i].1 = v0 at *
   have HE:=hid (fun W c1 => cut_1 v0 v1 v2 v3 v4 t p W c1)
   rw [← HQ.out] at HE
   clear HQ
   go_wp2_with fail
   refine (HE.out _ c1).mono ?_
   rintro e z ⟨rfl,hz⟩
   have HBz:=hid (btrans HBW.out hz)
   clear hz k0 k1 k2 k3 k4 c1
   cases eb
   ·have HF:=hid (HX.out rfl)
    go_wp2_with fail
    go_roundw
    case rel => exact ⟨i + 1,by go_num,by omega,HF,HBz⟩
    case measure => simp [intOf];omega
   ·have HF:=hid (HY.out rfl)
    go_wp2_with fail
    go_ret
    exact ⟨by rw [HF.out];rfl,HBz.out⟩
  ·have d1:(n:Int) ≤ (i:Int):=by omega
   have HF:=hid (HNO.out (fun m h => HA.out m h (by have:=HN.out;omega)))
   go_wp2_with fail
   go_ret
   exact ⟨by rw [HF.out];rfl,HBW.out⟩
theorem own_frameV {w w':World} {B:Nat} {e:TypeId} {sz:Nat} {v:Value} {n:Nat} {xs:List Value} (h:w.ownsRow B e sz v n xs) (hb:∀ g,v.ownBlock = some g → w'.heap[g]? = w.heap[g]?):w'.ownsRow B e sz v n xs:=by
 refine ⟨h.1,?_⟩
 rcases h.2 with q | ⟨g,c,cur,e1,q1,q2,q3⟩
 ·exact .inl q
 ·refine .inr ⟨g,c,cur,e1,q1,?_,q3⟩
  rw [hb g (by rw [e1];rfl)];exact q2
def But (g:Nat) (w w':World):Prop:=w.heap.size ≤ w'.heap.size ∧ (∀ b,b < w.heap.size → b ≠ g → w'.heap[b]? = w.heap[b]?) ∧ (w'.os = w.os ∧ w'.tape = w.tape ∧ w'.output = w.output)
theorem But.below {g:Nat} {w y z:World} (h:But g w y) (H:Below y.heap.size y z):But g w z:=
 ⟨Nat.le_trans h.1 H.size,fun b h1 h2 => (H.block b (Nat.lt_of_lt_of_le h1 h.1)).trans (h.2.1 b h1 h2),H.os.trans h.2.2.1,H.tape.trans h.2.2.2.1,H.output.trans h.2.2.2.2⟩
theorem But.set {g k:Nat} {w y:World} (h:But g w y) (u:Value):But g w (y.setCell ⟨g,k,none⟩ u):=
 ⟨by have:=h.1;simpa using this,fun b h1 h2 => by rw [Below.heap_setCell _ _ _ _ (by dsimp only;omega)];exact h.2.1 b h1 h2,h.2.2⟩
theorem But.sets {g:Nat} {w:World}:∀ (vs:List Value) (k:Nat) (y:World),But g w y → But g w (y.setCells g k vs)
 | [],_,_,h => h
 | v :: r,k,y,h => But.sets r (k + 1) _ (h.set v)
theorem set5L {α:Type} (L:List α) (k:Nat) (a b c d e:α) (h:k + 5 ≤ L.length):((((L.set k a).set (k + 1) b).set (k + 2) c).set (k + 3) d).set (k + 4) e = L.take k ++ [a,b,c,d,e] ++ L.drop (k + 5):=by
 obtain ⟨A,o0,o1,o2,o3,o4,R,rfl,hA⟩:∃ A o0 o1 o2 o3 o4 R,L = A ++ o0 :: o1 :: o2 :: o3 :: o4 :: R ∧ A.length = k:=by
  have e:=(List.take_append_drop k L).symm
  have hl:(L.drop k).length = L.length - k:=by simp
  match hd:L.drop k,hl with
  | [],hl => simp at hl;omega
  | [_],hl => simp at hl;omega
  | [_,_],hl => simp at hl;omega
  | [_,_,_],hl => simp at hl;omega
  | [_,_,_,_],hl => simp at hl;omega
  | o0 :: o1 :: o2 :: o3 :: o4 :: R,_ => exact ⟨L.take k,o0,o1,o2,o3,o4,R,by rw [← hd];exact e,by simp;omega⟩
 subst hA
 simp [List.set_append,List.take_append,List.drop_append]
theorem own_set5 {w:World} {base g c n i:Nat} {t:TypeId} {xs:List Value} (h:w.ownsRow base t 5 (.slice (some ⟨g,0,none⟩) n c) n xs) (hi:i < n) (x0 x1 x2 x3 x4:Value):(((((w.setCell ⟨g,i * 5,none⟩ x0).setCell ⟨g,i * 5 + 1,none⟩ x1).setCell ⟨g,i * 5 + 2,none⟩ x2).setCell ⟨g,i * 5 + 3,none⟩ x3).setCell ⟨g,i * 5 + 4,none⟩ x4).ownsRow base t 5 (.slice (some ⟨g,0,none⟩) n c) n (xs.take (i * 5) ++ [x0,x1,x2,x3,x4] ++ xs.drop (i * 5 + 5)):=by
 have hxl:=h.1
 refine ⟨by simp;omega,?_⟩
 rcases h.2 with ⟨q,_⟩ | ⟨g',c',cur,e,q1,q2,q3,q4,q5,q6⟩
 ·cases q
 ·cases e
  refine .inr ⟨g,c,_,rfl,q1,set_at (set_at (set_at (set_at (set_at q2)))),q3,q4,by simp;omega,?_⟩
  have hcl:cur.toList.length = c * 5:=by simpa using q5
  have e1:(((((cur.setIfInBounds (i * 5) x0).setIfInBounds (i * 5 + 1) x1).setIfInBounds (i * 5 + 2) x2).setIfInBounds (i * 5 + 3) x3).setIfInBounds (i * 5 + 4) x4).toList = cur.toList.take (i * 5) ++ [x0,x1,x2,x3,x4] ++ cur.toList.drop (i * 5 + 5):=by
   simp only [Array.toList_setIfInBounds]
   exact set5L _ _ _ _ _ _ _ (by omega)
  rw [e1]
  obtain ⟨r,hr⟩:∃ r,cur.toList = xs ++ r:=⟨cur.toList.drop (n * 5),by rw [← q6];exact (List.take_append_drop _ _).symm⟩
  have f1:cur.toList.take (i * 5) = xs.take (i * 5):=by rw [hr,List.take_append_of_le_length (by omega)]
  have f2:cur.toList.drop (i * 5 + 5) = xs.drop (i * 5 + 5) ++ r:=by rw [hr,List.drop_append_of_le_length (by omega)]
  rw [f1,f2,← List.append_assoc,List.take_append_of_le_length (by simp;omega)]
  exact List.take_of_length_le (by simp;omega)
theorem own_cells5 {w:World} {base g c n:Nat} {t:TypeId} {xs:List Value} (h:w.ownsRow base t 5 (.slice (some ⟨g,0,none⟩) n c) n xs):∀ k,k < c * 5 → (w.cell? ⟨g,k,none⟩).isSome = true ∧ w.frozen? ⟨g,k,none⟩ = false:=by
 rcases h.2 with ⟨q,_⟩ | ⟨g',c',cur,e,q1,q2,q3,q4,q5,q6⟩
 ·cases q
 ·cases e
  intro k hk
  refine ⟨?_,by simp [World.frozen?,q2]⟩
  simp [World.cell?,q2,Array.getElem?_eq_getElem (show k < cur.size by omega)]
theorem set_at' {w:World} {p:Nat} {cs:Array Value} {t:TypeId} {fr:Nat × Nat}:∀ (vs:List Value) (k:Nat),w.heap[p]? = some (.cells cs t fr) → ∃ cs',(w.setCells p k vs).heap[p]? = some (.cells cs' t fr) ∧ cs'.size = cs.size ∧ cs'.toList.take k = cs.toList.take k:=by
 intro vs
 induction vs generalizing w cs with
 | nil => intro k h;exact ⟨cs,h,rfl,rfl⟩
 | cons v r ih =>
  intro k h
  obtain ⟨cs',e1,e2,e3⟩:=ih (w:=w.setCell ⟨p,k,none⟩ v) (cs:=cs.setIfInBounds k v) (k + 1) (set_at h)
  refine ⟨cs',e1,by simpa using e2,?_⟩
  have:=congrArg (List.take k) e3
  rw [List.take_take,List.take_take,Nat.min_eq_left (by omega)] at this
  rw [this,Array.toList_setIfInBounds]
  apply List.ext_getElem?
  intro m
  rw [List.getElem?_take,List.getElem?_take,List.getElem?_set]
  by_cases hm:m < k
  ·rw [if_pos hm,if_pos hm,if_neg (by omega)]
  ·rw [if_neg hm,if_neg hm]
theorem flI_takeX (xs:List It) (i:Nat):(flI xs).take (i * 5) = flI (xs.take i):=(flat_take ci_len xs i).symm
theorem own_cut {w:World} {base g c n i:Nat} {t:TypeId} {ys:List It} (h:w.ownsRow base t 5 (.slice (some ⟨g,0,none⟩) n c) n (flI ys)) (hy:ys.length = n) (hi:i ≤ n) (vs:List Value):(w.setCells g (i * 5) vs).ownsRow base t 5 (.slice (some ⟨g,0,none⟩) i c) i (flI (ys.take i)):=by
 refine ⟨by rw [flI_len];simp;omega,?_⟩
 rcases h.2 with ⟨q,_⟩ | ⟨g',c',cur,e,q1,q2,q3,q4,q5,q6⟩
 ·cases q
 ·cases e
  obtain ⟨cs,e1,e2,e3⟩:=set_at' vs (i * 5) q2
  refine .inr ⟨g,c,cs,rfl,q1,e1,by omega,q4,by omega,?_⟩
  rw [e3,← flI_takeX,← q6,List.take_take,Nat.min_eq_left (by omega)]
theorem run_clear_rows (w:World) (base g c n i:Nat) (xs:List Value) (h:w.ownsRow base 40 5 (.slice (some ⟨g,0,none⟩) n c) n xs) (hi:i < n) (cc:Nat):∃ vs,∀ ty,(Builtin.clear_ #[32] ty #[.slice (some ⟨g,i * 5,none⟩) (n - i) cc]).run Tryz.prog w = .ok (.tuple #[]) (w.setCells g (i * 5) vs):=by
 obtain ⟨i0,hi0,hz0,hz1,hz2⟩:=info_parts Tryz.infoIt
 have hc:=own_cells5 h
 have hnc:n ≤ c:=by
  rcases h.2 with ⟨q,_⟩ | ⟨g',c',cur,e,q1,q2,q3,q4,q5,q6⟩
  ·cases q
  ·cases e;exact q3
 refine ⟨(Builtin.zeroCells #[.int .i64 0,.int .i64 0,.int .i64 0,.int .i64 0,.int .i64 0] (n - i)).toList,fun ty => ?_⟩
 have hl:(Builtin.zeroCells #[.int .i64 0,.int .i64 0,.int .i64 0,.int .i64 0,.int .i64 0] (n - i)).toList.length = (n - i) * 5:=by simp [Builtin.zeroCells]
 have h1:∀ v ∈ (Builtin.zeroCells #[.int .i64 0,.int .i64 0,.int .i64 0,.int .i64 0,.int .i64 0] (n - i)).toList,v.oneCell' = true:=by
  intro v hv
  simp [Builtin.zeroCells] at hv
  obtain ⟨k,hk,rfl⟩:=hv
  obtain e | e | e | e | e:k % 5 = 0 ∨ k % 5 = 1 ∨ k % 5 = 2 ∨ k % 5 = 3 ∨ k % 5 = 4:=by omega
  all_goals (rw [e];rfl)
 have hst:=run_storeCells_cells (P:=Tryz.prog) g (i * 5) _ 0 w (fun j hj => by rw [hl] at hj;exact (hc _ (by omega)).1) (fun j hj => by rw [hl] at hj;exact (hc _ (by omega)).2) h1
 rw [Nat.add_zero] at hst
 have hzv:(zeroValue 40).run Tryz.prog w = .ok (.agg #[.int .i64 0,.int .i64 0,.int .i64 0,.int .i64 0,.int .i64 0]) w:=by
  have key:∀ (P:Program) (i:TypeInfo) (z:Value),P.info? 40 = some i → i.zero = some z → (zeroValue 40).run P w = .ok z w:=by intro P i z h1 h2;simp [zeroValue,typeInfo,h1,h2]
  exact key _ _ _ hi0 hz0
 obtain ⟨m,hm⟩:∃ m,n - i = m + 1:=⟨n - i - 1,by omega⟩
 rw [hm] at hst ⊢
 simp [Builtin.clear_,run_underlying Tryz.underlying32,hzv,Value.cells,hst]
theorem keep_next {xs:List It} {q:It → Bool} {j:Nat} (h:j < xs.length):(xs.take (j + 1)).filter q = if q xs[j] = true then (xs.take j).filter q ++ [xs[j]] else (xs.take j).filter q:=by
 rw [List.take_succ_eq_append_getElem h,List.filter_append]
 by_cases e:q xs[j] = true
 ·simp [e]
 ·simp [e]
theorem del_cut (base g cap n:Nat) (xs:List It) (t:Int) (p:Nat) (w:World) (hn:xs.length = n) (hm:n ≤ 1099511627776) (h:w.ownsRow base 40 5 (.slice (some ⟨g,0,none⟩) n cap) n (flI xs)) (hp:p ≠ g) (hpw:p < w.heap.size) (c1:w.cell? ⟨p,0,none⟩ = some (.int .i64 t)):Calls Tryz.prog 56 #[.slice (some ⟨g,0,none⟩) n cap,.func (.func 57) #[] #[.pointer (some ⟨p,0,none⟩)]] w fun e w' => ∃ m,m = (xs.filter (fun x => !ieq t x)).length ∧ e = .returned (.slice (some ⟨g,0,none⟩) m cap) ∧ w'.ownsRow base 40 5 (.slice (some ⟨g,0,none⟩) m cap) m (flI (xs.filter (fun x => !ieq t x))) ∧ But g w w':=by
 have hgw:g < w.heap.size:=(h.lt g rfl).2
 have hnc:n ≤ cap:=by
  rcases h.2 with ⟨q,_⟩ | ⟨g',c',cur,e,q1,q2,q3,q4,q5,q6⟩
  ·cases q
  ·cases e;exact q3
 have HIX:=hid (index_cut g cap xs t p w (by omega) hgw (own_its h) c1)
 rw [hn] at HIX
 have HO:=hid h
 have HC:=hid c1
 have HN:=hid hn
 clear h c1
 have hle:=List.findIdx_le_length (xs:=xs) (p:=ieq t)
 have HNO:Hid (xs.findIdx (ieq t) = n → xs.filter (fun x => !ieq t x) = xs):=hid (fun e => by
  rw [← hn,List.findIdx_eq_length] at e
  exact List.filter_eq_self.2 (fun x hx => by simp [e x hx]))
 have HYE:Hid (xs.findIdx (ieq t) < n → xs.take (xs.findIdx (ieq t)) = (xs.take (xs.findIdx (ieq t) + 1)).filter (fun x => !ieq t x)):=hid (fun e => by
  rw [← hn] at e
  rw [keep_next e,if_neg (by simp [List.findIdx_getElem (p:=ieq t) (w:=e)])]
  refine (List.filter_eq_self.2 (fun x hx => ?_)).symm
  obtain ⟨m,hm,rfl⟩:=List.getElem_of_mem hx
  have hm1:m < xs.findIdx (ieq t):=by simp at hm;omega
  have:=List.not_of_lt_findIdx hm1
  simpa using this)
 rw [hn] at hle
 clear hn
 generalize xs.findIdx (ieq t) = f at *
 go_enter Tryz.func56,Tryz.ntmps56
 go_wp2_with fail
 refine HIX.out.mono ?_
 rintro e z ⟨rfl,hz⟩
 clear HIX
 by_cases hf:f < n
 ·rw [if_pos hf]
  have hf1:((f:Int) == -1) = false:=by simp
  have HO1:=hid (own_frameV (w':=z) HO.out (fun k e => hz.block k (by simp [Value.ownBlock] at e;omega)))
  have HB1:Hid (But g w z):=hid ⟨hz.size,fun b h1 _ => hz.block b h1,hz.os,hz.tape,hz.output⟩
  clear hz HO HNO
  have HS:=hid (HYE.out hf)
  clear HYE
  go_wp2_with fail
  go_loopw [5,6] (fun t5 t6 wr => ∃ i j:Nat,∃ ys:List It,t5 = .int .i64 i ∧ t6 = .int .i64 j ∧ i < j ∧ j ≤ n ∧ ys.length = n ∧ Hid (ys.take i = (xs.take j).filter (fun x => !ieq t x)) ∧ Hid (ys.drop j = xs.drop j) ∧ Hid (wr.ownsRow base 40 5 (.slice (some ⟨g,0,none⟩) n cap) n (flI ys)) ∧ Hid (But g w wr)) (fun _ t6 _ => n - (intOf t6).toNat)
  case atStart => exact ⟨f,f + 1,xs,rfl,by go_num,by omega,by omega,HN.out,HS,hid rfl,HO1,HB1⟩
  case round =>
   clear HS HO1 HB1
   obtain ⟨i,j,ys,rfl,rfl,hij,hj,hyl,HT,HD,HO,HB⟩:=hrel
   by_cases hlt:j < n
   ·have d1:(j:Int) < (n:Int):=by omega
    have hjy:j < ys.length:=by omega
    obtain ⟨k0,k1,k2,k3,k4⟩:=own_its HO.out j hjy
    have hxj:xs[j]'(by rw [HN.out];exact hlt) = ys[j]:=by
     have e:=HD.out
     rw [List.drop_eq_getElem_cons hjy,List.drop_eq_getElem_cons (l:=xs) (by rw [HN.out];exact hlt)] at e
     exact (List.cons.inj e).1.symm
    have HD2:Hid (ys.drop (j + 1) = xs.drop (j + 1)):=hid (by
     have e:=HD.out
     rw [List.drop_eq_getElem_cons hjy,List.drop_eq_getElem_cons (l:=xs) (by rw [HN.out];exact hlt)] at e
     exact (List.cons.inj e).2)
    have HK:=hid (keep_next (xs:=xs) (q:=fun x => !ieq t x) (j:=j) (by rw [HN.out];exact hlt))
    rw [hxj] at HK
    clear hxj HD
    have HQ:Hid (ieq t ys[j] = decide (ys[j].1 = t)):=hid rfl
    have HX:Hid (∀ y,ys[j] = y → y = ys[j]):=hid (fun y e => e.symm)
    generalize ys[j] = y at *
    clear HX
    generalize ieq t y = eb at *
    obtain ⟨v0,v1,v2,v3,v4⟩:=y
    simp only at k0 k1 k2 k3 k4 HQ
    have HE:=hid (fun W c1 => cut_1 v0 v1 v2 v3 v4 t p W c1)
    rw [← HQ.out] at HE
    clear HQ
    have c1:wr.cell? ⟨p,0,none⟩ = some (.int .i64 t):=by rw [World.cell?_of_block (a:=⟨p,0,none⟩) (HB.out.2.1 p hpw hp)];exact HC.out
    have hgr:g < wr.heap.size:=Nat.lt_of_lt_of_le hgw HB.out.1
    go_upto_region 8 with fail
    have hbx:Below wr.heap.size wr (wr.alloc (.cells #[.int .i64 v0,.int .i64 v1,.int .i64 v2,.int .i64 v3,.int .i64 v4] 40)):=balloc (Below.refl _ _) _
    have gx:=new_alloc wr wr.heap.size (.cells #[.int .i64 v0,.int .i64 v1,.int .i64 v2,.int .i64 v3,.int .i64 v4] 40) rfl
    have hal:wr.heap.size ≠ g:=by omega
    have HB2:=hid (HB.out.below hbx)
    have HO2:=hid (own_frameV (w':=wr.alloc (.cells #[.int .i64 v0,.int .i64 v1,.int .i64 v2,.int .i64 v3,.int .i64 v4] 40)) HO.out (fun k e => hbx.block k (by simp [Value.ownBlock] at e;omega)))
    replace c1:=keepcell hbx c1
    have hgr2:g < (wr.alloc (.cells #[.int .i64 v0,.int .i64 v1,.int .i64 v2,.int .i64 v3,.int .i64 v4] 40)).heap.size:=by simp;omega
    clear hbx HB HO k0 k1 k2 k3 k4
    generalize wr.alloc (.cells #[.int .i64 v0,.int .i64 v1,.int .i64 v2,.int .i64 v3,.int .i64 v4] 40) = W at *
    generalize wr.heap.size = X at *
    obtain ⟨x0,x1,x2,x3,x4,_,_,_,_,_⟩:=cell5j gx
    cases eb
    ·have HK2:Hid ((xs.take (j + 1)).filter (fun x => !ieq t x) = (xs.take j).filter (fun x => !ieq t x) ++ [(v0,v1,v2,v3,v4)]):=hid (by rw [HK.out];rfl)
     clear HK
     go_upto_region 9 with (refine (HE.out _ c1).mono ?_;rintro e z2 ⟨rfl,hz⟩)
     have HB3:=hid (HB2.out.below hz)
     have HO3:=hid (own_frameV (w':=z2) HO2.out (fun k e => hz.block k (by simp [Value.ownBlock] at e;omega)))
     replace gx:=(hz.block X (by rcases Nat.lt_or_ge X W.heap.size with h' | h';exact h';simp [Array.getElem?_eq_none h'] at gx)).trans gx
     clear hz HB2 HO2 c1 x0 x1 x2 x3 x4 HE
     obtain ⟨x0,x1,x2,x3,x4,_,_,_,_,_⟩:=cell5j gx
     obtain ⟨⟨u0,k0⟩,⟨u1,k1⟩,⟨u2,k2⟩,⟨u3,k3⟩,⟨u4,k4⟩⟩:(∃ u,z2.cell? ⟨g,i * 5,none⟩ = some u) ∧ (∃ u,z2.cell? ⟨g,i * 5 + 1,none⟩ = some u) ∧ (∃ u,z2.cell? ⟨g,i * 5 + 2,none⟩ = some u) ∧ (∃ u,z2.cell? ⟨g,i * 5 + 3,none⟩ = some u) ∧ (∃ u,z2.cell? ⟨g,i * 5 + 4,none⟩ = some u):=by
      have hh:=own_cells5 HO3.out
      exact ⟨Option.isSome_iff_exists.1 (hh _ (by omega)).1,Option.isSome_iff_exists.1 (hh _ (by omega)).1,Option.isSome_iff_exists.1 (hh _ (by omega)).1,Option.isSome_iff_exists.1 (hh _ (by omega)).1,Option.isSome_iff_exists.1 (hh _ (by omega)).1⟩
     have f0:=(own_cells5 HO3.out (i * 5) (by omega)).2
     have f1:=(own_cells5 HO3.out (i * 5 + 1) (by omega)).2
     have f2:=(own_cells5 HO3.out (i * 5 + 2) (by omega)).2
     have f3:=(own_cells5 HO3.out (i * 5 + 3) (by omega)).2
     have f4:=(own_cells5 HO3.out (i * 5 + 4) (by omega)).2
     have e1:(i:Int) < (n:Int):=by omega
     have HO4:=hid (own_set5 HO3.out (show i < n by omega) (.int .i64 v0) (.int .i64 v1) (.int .i64 v2) (.int .i64 v3) (.int .i64 v4))
     have HB4:=hid (((((HB3.out.set (k:=i * 5) (.int .i64 v0)).set (k:=i * 5 + 1) (.int .i64 v1)).set (k:=i * 5 + 2) (.int .i64 v2)).set (k:=i * 5 + 3) (.int .i64 v3)).set (k:=i * 5 + 4) (.int .i64 v4))
     have HFS:=hid (flI_set ys i (v0,v1,v2,v3,v4) (by omega))
     rw [show ([.int .i64 v0,.int .i64 v1,.int .i64 v2,.int .i64 v3,.int .i64 v4]:List Value) = ci (v0,v1,v2,v3,v4) from rfl,← HFS.out] at HO4
     clear HFS HO3 HB3
     have HT2:Hid ((ys.set i (v0,v1,v2,v3,v4)).take (i + 1) = (xs.take (j + 1)).filter (fun x => !ieq t x)):=hid (by
      rw [HK2.out,← HT.out,List.take_succ_eq_append_getElem (by simp;omega)]
      simp [List.take_set_of_le])
     have HD3:Hid ((ys.set i (v0,v1,v2,v3,v4)).drop (j + 1) = xs.drop (j + 1)):=hid (by
      rw [← HD2.out,List.drop_set_of_lt (by omega)])
     have hsl:(ys.set i (v0,v1,v2,v3,v4)).length = n:=by simp;exact hyl
     go_wp2_with fail
     go_roundw
     case rel => exact ⟨i + 1,j + 1,_,by go_num,by go_num,by omega,by omega,hsl,HT2,HD3,HO4,HB4⟩
     case measure => simp [intOf];omega
    ·have HK2:Hid ((xs.take (j + 1)).filter (fun x => !ieq t x) = (xs.take j).filter (fun x => !ieq t x)):=hid (by rw [HK.out];rfl)
     clear HK
     go_wp2_with fail
     refine (HE.out _ c1).mono ?_
     rintro e z2 ⟨rfl,hz⟩
     have HB3:=hid (HB2.out.below hz)
     have HO3:=hid (own_frameV (w':=z2) HO2.out (fun k e => hz.block k (by simp [Value.ownBlock] at e;omega)))
     have HT2:Hid (ys.take i = (xs.take (j + 1)).filter (fun x => !ieq t x)):=hid (by rw [HK2.out];exact HT.out)
     clear hz HB2 HO2 c1 x0 x1 x2 x3 x4 HE
     go_wp2_with fail
     go_roundw
     case rel => exact ⟨i,j + 1,ys,by go_num,by go_num,by omega,by omega,hyl,HT2,HD2,HO3,HB3⟩
     case measure => simp [intOf];omega
   ·have d1:(n:Int) ≤ (j:Int):=by omega
    have d2:(i:Int) ≤ (cap:Int):=by omega
    have d3:(i:Int) ≤ (n:Int):=by omega
    have hjn:j = n:=by omega
    subst hjn
    have hnei:cap ≠ i:=by omega
    obtain ⟨vs,hcl⟩:=run_clear_rows wr base g cap j i (flI ys) HO.out (by omega) (cap - i)
    have HOF:=hid (own_cut (i:=i) HO.out hyl (by omega) vs)
    have HBF:=hid (But.sets (g:=g) vs (i * 5) wr HB.out)
    rw [HT.out,List.take_of_length_le (l:=xs) (by have:=HN.out;omega)] at HOF
    have hil:Hid (i = (xs.filter (fun x => !ieq t x)).length):=hid (by
     have:=congrArg List.length HT.out
     rw [List.take_of_length_le (l:=xs) (by have:=HN.out;omega),List.length_take] at this
     omega)
    go_wp2_with fail
    go_ret
    exact ⟨i,hil.out,rfl,HOF.out,HBF.out⟩
 ·rw [if_neg hf]
  have HF:=hid (HNO.out (by omega))
  go_wp2_with fail
  go_ret
  rw [HF.out]
  exact ⟨_,HN.out.symm,rfl,own_frameV HO.out (fun k e => hz.block k (by simp [Value.ownBlock] at e;omega)),⟨hz.size,fun b h1 _ => hz.block b h1,hz.os,hz.tape,hz.output⟩⟩
theorem But.bel {g n:Nat} {w y:World} (h:But g w y) (hn:n ≤ w.heap.size) (hg:n ≤ g):Below n w y:=
 ⟨h.2.2.1,h.2.2.2.1,h.2.2.2.2,h.1,fun k hk => h.2.1 k (by omega) (by omega)⟩
theorem cut_list {t:KT} (id:Int) (h:tokS t = true):(((itm 20 t).filter (fun x => !ieq id x)).all (fun x => bkb x.2) = true ∧ (((itm 20 t).filter (fun x => !ieq id x)).map (·.1)).Nodup ∧ ((itm 20 t).filter (fun x => !ieq id x)).length ≤ 400) ∧ ((itm 20 t).filter (fun x => !ieq id x)).foldl putT (knotL []) = cutT t id:=by
 have e:(fun x:It => !ieq id x) = (fun x:It => decide (x.1 ≠ id)):=by
  funext x
  unfold ieq
  rw [decide_not]
 obtain ⟨d,hg,hd,_,_⟩:=tok_gd h
 have h3:=h
 unfold tokS at h3
 simp only [Bool.and_eq_true,decide_eq_true_eq] at h3
 refine ⟨⟨?_,?_,?_⟩,by unfold cutT;rw [e]⟩
 ·have:=itm_ok 20 d true t hg
  rw [List.all_eq_true] at *
  exact fun x hx => this x (List.mem_filter.1 hx).1
 ·exact h3.1.2.sublist (List.filter_sublist.map _)
 ·exact Nat.le_trans (List.length_filter_le _ _) h3.2
theorem impl_TreeCut (m lo:Nat) (t:KT) (ia ka:Option Addr) (id:Int) (w:World) (h:Kn lo m w ia ka t) (hz:ksz m t ≤ 1048576):Calls Tryz.prog 16 #[kvo t ia ka,.int .i64 id] w (PkA w 22 (cutA t id) (cuts t id)):=by
 have hL:=Nat.le_trans (kn_itm m 20 h) hz
 have CI:=hid (fun (W:World) (hb:Below w.heap.size w W) => impl_TreeItems m lo t ia ka W (h.below hb) hz)
 have CT:=hid (fun (W:World) (hb:Below w.heap.size w W) => impl_TreeOk m lo t ia ka W (h.below hb) hz)
 have CH:=hid (fun (W:World) (hb:Below w.heap.size w W) => impl_hasId id m lo t ia ka W (h.below hb) hz)
 have CC:=hid (fun (W:World) (hb:Below w.heap.size w W) => (show Calls Tryz.prog 45 #[kvo t ia ka,.int .i64 20] W (KAns W 21 (cpy 20 t)) from impl_copied 20 (Nat.le_refl _) m t ia ka t.its.length t.kids.length W ((h.below hb).knr hz) hz))
 have CL:=hid (fun (hok:tokS t = true) => cut_list id hok)
 obtain ⟨b0,b1,b2,b3,b4,ni,nk,hf⟩:=kf t
 rw [kvo_of hf] at CI CT CC CH ⊢
 have HA:=hid (fun (hn:(tokS t && ((itm 20 t).map (·.1)).contains id) = false) => show cutA t id = cpy 20 t ∧ cuts t id = false from ⟨by unfold cutA cuts;rw [hn];rfl,hn⟩)
 have HY:=hid (fun (hn:(tokS t && ((itm 20 t).map (·.1)).contains id) = true) => show cutA t id = cutT t id ∧ cuts t id = true from ⟨by unfold cutA cuts;rw [hn];rfl,hn⟩)
 have hhi:hid1 id (itm 20 t) = ((itm 20 t).map (·.1)).contains id:=rfl
 rw [hhi] at CH
 generalize cutA t id = pa at *
 generalize cuts t id = pb at *
 generalize cutT t id = pt at *
 have hmf:∀ (fn:Fn) (first cap:Array Value) (w:World),(Instr.makeFunc fn first cap).run Tryz.prog w = .ok (.func fn first cap) w:=fun _ _ _ _ => rfl
 have gT:=hid (old_alloc (o':=.cells #[.int .i64 0,.int .i64 0,.int .i64 0,.int .i64 0,.bool false,.slice none 0 0,.slice none 0 0] 35) (old_alloc (o':=.cells #[.int .i64 id] 3) (new_alloc w w.heap.size (.cells #[.int .i64 b0,.int .i64 b1,.int .i64 b2,.int .i64 b3,.bool b4,.slice ia ni ni,.slice ka nk nk] 35) rfl)))
 have gX:=hid (old_alloc (o':=.cells #[.int .i64 0,.int .i64 0,.int .i64 0,.int .i64 0,.bool false,.slice none 0 0,.slice none 0 0] 35) (new_alloc (w.alloc (.cells #[.int .i64 b0,.int .i64 b1,.int .i64 b2,.int .i64 b3,.bool b4,.slice ia ni ni,.slice ka nk nk] 35)) (w.heap.size + 1) (.cells #[.int .i64 id] 3) (by simp)))
 have gZ:=hid (new_alloc ((w.alloc (.cells #[.int .i64 b0,.int .i64 b1,.int .i64 b2,.int .i64 b3,.bool b4,.slice ia ni ni,.slice ka nk nk] 35)).alloc (.cells #[.int .i64 id] 3)) (w.heap.size + 2) (.cells #[.int .i64 0,.int .i64 0,.int .i64 0,.int .i64 0,.bool false,.slice none 0 0,.slice none 0 0] 35) (by simp))
 have B0:=hid (balloc (balloc (balloc (Below.refl w.heap.size w) (.cells #[.int .i64 b0,.int .i64 b1,.int .i64 b2,.int .i64 b3,.bool b4,.slice ia ni ni,.slice ka nk nk] 35)) (.cells #[.int .i64 id] 3)) (.cells #[.int .i64 0,.int .i64 0,.int .i64 0,.int .i64 0,.bool false,.slice none 0 0,.slice none 0 0] 35))
 clear h hf hz hhi
 go_enter Tryz.func16,Tryz.ntmps16
 go_upto_region 1 with fail
 generalize ((w.alloc (.cells #[.int .i64 b0,.int .i64 b1,.int .i64 b2,.int .i64 b3,.bool b4,.slice ia ni ni,.slice ka nk nk] 35)).alloc (.cells #[.int .i64 id] 3)).alloc (.cells #[.int .i64 0,.int .i64 0,.int .i64 0,.int .i64 0,.bool false,.slice none 0 0,.slice none 0 0] 35) = V at *
 obtain ⟨a0,a1,a2,a3,a4,a5,a6,_,_,_,_,_,_,_⟩:=cell7k gT.out
 obtain ⟨c0,_⟩:=cell1k gX.out
 obtain ⟨r0,r1,r2,r3,r4,r5,r6,s0,s1,s2,s3,s4,s5,s6⟩:=cell7k gZ.out
 go_wp2_with fail
 refine (CT.out _ B0.out).mono ?_
 rintro e W2 ⟨rfl,hb⟩
 replace gT:=hid (keepheap hb gT.out)
 replace gX:=hid (keepheap hb gX.out)
 replace gZ:=hid (keepheap hb gZ.out)
 replace B0:=hid (btrans B0.out hb)
 clear a0 a1 a2 a3 a4 a5 a6 c0 r0 r1 r2 r3 r4 r5 r6 s0 s1 s2 s3 s4 s5 s6
 clear hb CT
 obtain ⟨a0,a1,a2,a3,a4,a5,a6,_,_,_,_,_,_,_⟩:=cell7k gT.out
 obtain ⟨c0,_⟩:=cell1k gX.out
 obtain ⟨r0,r1,r2,r3,r4,r5,r6,s0,s1,s2,s3,s4,s5,s6⟩:=cell7k gZ.out
 cases hok:tokS t
 ·rw [hok] at HA
  clear HY CL
  have HAn:=hid (HA.out (by simp))
  go_wp2_with fail
  refine (CC.out _ B0.out).mono ?_
  rintro e W4 ⟨hc,Sc,rfl,hko,hb⟩
  have hW3:=B0.out.size
  have hZ2:=lt_of_heap gZ.out
  replace gT:=hid (keepheap hb gT.out)
  replace gX:=hid (keepheap hb gX.out)
  replace gZ:=hid (keepheap hb gZ.out)
  replace B0:=hid (btrans B0.out hb)
  clear a0 a1 a2 a3 a4 a5 a6 c0 r0 r1 r2 r3 r4 r5 r6 s0 s1 s2 s3 s4 s5 s6
  clear hb
  obtain ⟨y0,y1,y2,y3,y4,ya,yn,yc,yb,ym,yd,hyv,_⟩:=kh ((cpy 20 t),hc,Sc)
  have hyv':ckh (cpy 20 t) hc = [.int .i64 y0,.int .i64 y1,.int .i64 y2,.int .i64 y3,.bool y4,.slice ya yn yc,.slice yb ym yd]:=hyv
  have hkz:kvh (cpy 20 t) hc = .agg #[.int .i64 y0,.int .i64 y1,.int .i64 y2,.int .i64 y3,.bool y4,.slice ya yn yc,.slice yb ym yd]:=by
   show Value.agg (ckh (cpy 20 t) hc).toArray = _
   rw [hyv']
  have HKZ:=hid hkz
  rw [hkz]
  obtain ⟨a0,a1,a2,a3,a4,a5,a6,_,_,_,_,_,_,_⟩:=cell7k gT.out
  obtain ⟨c0,_⟩:=cell1k gX.out
  obtain ⟨r0,r1,r2,r3,r4,r5,r6,s0,s1,s2,s3,s4,s5,s6⟩:=cell7k gZ.out
  have hF:=setL_new [.int .i64 y0,.int .i64 y1,.int .i64 y2,.int .i64 y3,.bool y4,.slice ya yn yc,.slice yb ym yd] gZ.out rfl
  have hO:=fun x (hx:x ≠ w.heap.size + 2) => setL_blk [.int .i64 y0,.int .i64 y1,.int .i64 y2,.int .i64 y3,.bool y4,.slice ya yn yc,.slice yb ym yd] W4 (w.heap.size + 2) 0 x (fun e => hx e.symm)
  have hBB:=setL_below [.int .i64 y0,.int .i64 y1,.int .i64 y2,.int .i64 y3,.bool y4,.slice ya yn yc,.slice yb ym yd] w W4 (w.heap.size + 2) 0 _ B0.out (by omega)
  simp only [setL,Nat.zero_add,Nat.reduceAdd] at hF hO hBB
  obtain ⟨z0,z1,z2,z3,z4,z5,z6,_,_,_,_,_,_,_⟩:=cell7k hF
  clear hF hyv hyv' hkz
  go_wp2_with fail
  refine bodyPost_ret (v:=.tuple #[.agg #[.int .i64 y0,.int .i64 y1,.int .i64 y2,.int .i64 y3,.bool y4,.slice ya yn yc,.slice yb ym yd],.bool false]) (by simp [results,Tryz.results16,go_sem,z0,z1,z2,z3,z4,z5,z6]) rfl ?_
  exact ⟨hc,Sc,by rw [HAn.out.1,HAn.out.2,HKZ.out],by rw [HAn.out.1];exact (KO.lo hW3 hko.more).keep (fun b hb' => hO b (by have:=(hko.lt b hb').1;omega)),hBB⟩
 ·rw [hok] at HA HY
  have HL:=hid (CL.out hok)
  clear hok CL
  go_wp2_with fail
  refine (CH.out _ B0.out).mono ?_
  rintro e W3 ⟨rfl,hb⟩
  replace gT:=hid (keepheap hb gT.out)
  replace gX:=hid (keepheap hb gX.out)
  replace gZ:=hid (keepheap hb gZ.out)
  replace B0:=hid (btrans B0.out hb)
  clear a0 a1 a2 a3 a4 a5 a6 c0 r0 r1 r2 r3 r4 r5 r6 s0 s1 s2 s3 s4 s5 s6
  clear hb CH
  obtain ⟨a0,a1,a2,a3,a4,a5,a6,_,_,_,_,_,_,_⟩:=cell7k gT.out
  obtain ⟨c0,_⟩:=cell1k gX.out
  obtain ⟨r0,r1,r2,r3,r4,r5,r6,s0,s1,s2,s3,s4,s5,s6⟩:=cell7k gZ.out
  cases hco:((itm 20 t).map (·.1)).contains id
  ·rw [hco] at HA
   clear HY HL
   have HAn:=hid (HA.out (by simp))
   go_wp2_with fail
   refine (CC.out _ B0.out).mono ?_
   rintro e W4 ⟨hc,Sc,rfl,hko,hb⟩
   have hW3:=B0.out.size
   have hZ2:=lt_of_heap gZ.out
   replace gT:=hid (keepheap hb gT.out)
   replace gX:=hid (keepheap hb gX.out)
   replace gZ:=hid (keepheap hb gZ.out)
   replace B0:=hid (btrans B0.out hb)
   clear a0 a1 a2 a3 a4 a5 a6 c0 r0 r1 r2 r3 r4 r5 r6 s0 s1 s2 s3 s4 s5 s6
   clear hb
   obtain ⟨y0,y1,y2,y3,y4,ya,yn,yc,yb,ym,yd,hyv,_⟩:=kh ((cpy 20 t),hc,Sc)
   have hyv':ckh (cpy 20 t) hc = [.int .i64 y0,.int .i64 y1,.int .i64 y2,.int .i64 y3,.bool y4,.slice ya yn yc,.slice yb ym yd]:=hyv
   have hkz:kvh (cpy 20 t) hc = .agg #[.int .i64 y0,.int .i64 y1,.int .i64 y2,.int .i64 y3,.bool y4,.slice ya yn yc,.slice yb ym yd]:=by
    show Value.agg (ckh (cpy 20 t) hc).toArray = _
    rw [hyv']
   have HKZ:=hid hkz
   rw [hkz]
   obtain ⟨a0,a1,a2,a3,a4,a5,a6,_,_,_,_,_,_,_⟩:=cell7k gT.out
   obtain ⟨c0,_⟩:=cell1k gX.out
   obtain ⟨r0,r1,r2,r3,r4,r5,r6,s0,s1,s2,s3,s4,s5,s6⟩:=cell7k gZ.out
   have hF:=setL_new [.int .i64 y0,.int .i64 y1,.int .i64 y2,.int .i64 y3,.bool y4,.slice ya yn yc,.slice yb ym yd] gZ.out rfl
   have hO:=fun x (hx:x ≠ w.heap.size + 2) => setL_blk [.int .i64 y0,.int .i64 y1,.int .i64 y2,.int .i64 y3,.bool y4,.slice ya yn yc,.slice yb ym yd] W4 (w.heap.size + 2) 0 x (fun e => hx e.symm)
   have hBB:=setL_below [.int .i64 y0,.int .i64 y1,.int .i64 y2,.int .i64 y3,.bool y4,.slice ya yn yc,.slice yb ym yd] w W4 (w.heap.size + 2) 0 _ B0.out (by omega)
   simp only [setL,Nat.zero_add,Nat.reduceAdd] at hF hO hBB
   obtain ⟨z0,z1,z2,z3,z4,z5,z6,_,_,_,_,_,_,_⟩:=cell7k hF
   clear hF hyv hyv' hkz
   go_wp2_with fail
   refine bodyPost_ret (v:=.tuple #[.agg #[.int .i64 y0,.int .i64 y1,.int .i64 y2,.int .i64 y3,.bool y4,.slice ya yn yc,.slice yb ym yd],.bool false]) (by simp [results,Tryz.results16,go_sem,z0,z1,z2,z3,z4,z5,z6]) rfl ?_
   exact ⟨hc,Sc,by rw [HAn.out.1,HAn.out.2,HKZ.out],by rw [HAn.out.1];exact (KO.lo hW3 hko.more).keep (fun b hb' => hO b (by have:=(hko.lt b hb').1;omega)),hBB⟩
  ·rw [hco] at HY
   have HAn:=hid (HY.out (by simp))
   clear HA HY hco CC
   go_wp2_with fail
   refine (CI.out _ B0.out).mono ?_
   rintro e W5 ⟨g,c,rfl,hG,hb⟩
   have hW3:=B0.out.size
   have hz3:=lt_of_heap gZ.out
   have hgg:=(row_lt hG g (List.mem_singleton.2 rfl:g ∈ [g])).1
   replace gT:=hid (keepheap hb gT.out)
   replace gX:=hid (keepheap hb gX.out)
   replace gZ:=hid (keepheap hb gZ.out)
   replace B0:=hid (btrans B0.out hb)
   clear a0 a1 a2 a3 a4 a5 a6 c0 r0 r1 r2 r3 r4 r5 r6 s0 s1 s2 s3 s4 s5 s6
   clear hb CI
   have hW5:=lt_of_heap gZ.out
   have DEL:=hid (del_cut _ g c (itm 20 t).length (itm 20 t) id (w.heap.size + 1) W5 rfl (by omega) hG (by omega) (by omega) (cell1k gX.out).1)
   clear hG
   obtain ⟨a0,a1,a2,a3,a4,a5,a6,_,_,_,_,_,_,_⟩:=cell7k gT.out
   obtain ⟨c0,_⟩:=cell1k gX.out
   obtain ⟨r0,r1,r2,r3,r4,r5,r6,s0,s1,s2,s3,s4,s5,s6⟩:=cell7k gZ.out
   go_wp2_with fail
   refine DEL.out.mono ?_
   rintro e W6 ⟨mm,hmm,rfl,hO6,hb6⟩
   clear DEL
   have hb6':=hb6.bel (n:=w.heap.size) B0.out.size (by omega)
   have gZ6:=hid ((hb6.2.1 (w.heap.size + 2) (lt_of_heap gZ.out) (by omega)).trans gZ.out)
   have B6:=hid (B0.out.trans hb6')
   clear a0 a1 a2 a3 a4 a5 a6 c0 r0 r1 r2 r3 r4 r5 r6 s0 s1 s2 s3 s4 s5 s6
   clear hb6 hb6' gT gX gZ B0
   have gZ:=gZ6
   have B0:=B6
   have hca:=(row_caps hO6).1
   obtain ⟨⟨q1,q2,q3⟩,q4⟩:=HL.out
   generalize (itm 20 t).filter (fun x => !ieq id x) = fl at *
   subst hmm
   have TR:=hid (impl_treeOf g c fl W6 q3 (ItG.r hO6) hca q1 q2)
   rw [q4] at TR
   clear gZ6 B6 hO6 HL q1 q2 q4
   obtain ⟨r0,r1,r2,r3,r4,r5,r6,s0,s1,s2,s3,s4,s5,s6⟩:=cell7k gZ.out
   go_wp2_with fail
   have gT:=gZ
   have gX:=gZ
   refine (TR.out).mono ?_
   rintro e W4 ⟨hc,Sc,rfl,hko,hb⟩
   have hW3:=B0.out.size
   have hZ2:=lt_of_heap gZ.out
   replace gT:=hid (keepheap hb gT.out)
   replace gX:=hid (keepheap hb gX.out)
   replace gZ:=hid (keepheap hb gZ.out)
   replace B0:=hid (btrans B0.out hb)
   clear r0 r1 r2 r3 r4 r5 r6 s0 s1 s2 s3 s4 s5 s6
   clear hb
   obtain ⟨y0,y1,y2,y3,y4,ya,yn,yc,yb,ym,yd,hyv,_⟩:=kh (pt,hc,Sc)
   have hyv':ckh pt hc = [.int .i64 y0,.int .i64 y1,.int .i64 y2,.int .i64 y3,.bool y4,.slice ya yn yc,.slice yb ym yd]:=hyv
   have hkz:kvh pt hc = .agg #[.int .i64 y0,.int .i64 y1,.int .i64 y2,.int .i64 y3,.bool y4,.slice ya yn yc,.slice yb ym yd]:=by
    show Value.agg (ckh pt hc).toArray = _
    rw [hyv']
   have HKZ:=hid hkz
   rw [hkz]
   obtain ⟨r0,r1,r2,r3,r4,r5,r6,s0,s1,s2,s3,s4,s5,s6⟩:=cell7k gZ.out
   have hF:=setL_new [.int .i64 y0,.int .i64 y1,.int .i64 y2,.int .i64 y3,.bool y4,.slice ya yn yc,.slice yb ym yd] gZ.out rfl
   have hO:=fun x (hx:x ≠ w.heap.size + 2) => setL_blk [.int .i64 y0,.int .i64 y1,.int .i64 y2,.int .i64 y3,.bool y4,.slice ya yn yc,.slice yb ym yd] W4 (w.heap.size + 2) 0 x (fun e => hx e.symm)
   have hBB:=setL_below [.int .i64 y0,.int .i64 y1,.int .i64 y2,.int .i64 y3,.bool y4,.slice ya yn yc,.slice yb ym yd] w W4 (w.heap.size + 2) 0 _ B0.out (by omega)
   simp only [setL,Nat.zero_add,Nat.reduceAdd] at hF hO hBB
   obtain ⟨z0,z1,z2,z3,z4,z5,z6,_,_,_,_,_,_,_⟩:=cell7k hF
   clear hF hyv hyv' hkz
   go_wp2_with fail
   refine bodyPost_ret (v:=.tuple #[.agg #[.int .i64 y0,.int .i64 y1,.int .i64 y2,.int .i64 y3,.bool y4,.slice ya yn yc,.slice yb ym yd],.bool true]) (by simp [results,Tryz.results16,go_sem,z0,z1,z2,z3,z4,z5,z6]) rfl ?_
   exact ⟨hc,Sc,by rw [HAn.out.1,HAn.out.2,HKZ.out],by rw [HAn.out.1];exact (KO.lo hW3 hko).keep (fun b hb' => hO b (by have:=(hko.lt b hb').1;omega)),hBB⟩
end Go.Proofs.YtjahlofahjgdbaaGreat
