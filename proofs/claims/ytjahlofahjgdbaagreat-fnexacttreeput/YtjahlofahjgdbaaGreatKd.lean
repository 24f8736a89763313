import Derived.Test.YtjahlofahjgdbaaGreatJ18
import Derived.Test.YtjahlofahjgdbaaGreatJs
import Derived.BigQuiet
set_option maxRecDepth 100000
set_option maxHeartbeats 16000000
set_option linter.unusedSimpArgs false
set_option linter.unusedVariables false
namespace Go.Proofs.YtjahlofahjgdbaaGreat
open Go.RowKit
theorem KOs.swap {lo n:Nat} {w W:World} {ps qs:List KP} {q:Nat} (hps:KOs lo n w ps) (hq:q < ps.length) (hqs:KOs lo n W qs) (hsub:∀ b ∈ qs.flatMap (·.2.2),b ∈ ps[q].2.2 ∨ w.heap.size ≤ b) (hkeep:∀ b,b ∈ ps.flatMap (·.2.2) → b ∉ ps[q].2.2 → W.heap[b]? = w.heap[b]?):KOs lo n W (ps.take q ++ qs ++ ps.drop (q + 1)):=by
 have hlt:=KO_blk hps
 have hsp:ps.flatMap (·.2.2) = (ps.take q).flatMap (·.2.2) ++ (ps[q].2.2 ++ (ps.drop (q + 1)).flatMap (·.2.2)):=by
  rw [← List.flatMap_cons (f:=fun (x:KP) => x.2.2),List.getElem_cons_drop hq,← List.flatMap_append,List.take_append_drop]
 have hn:=hps.1
 rw [hsp,List.nodup_append,List.nodup_append] at hn
 obtain ⟨n1,⟨n2,n3,d2⟩,d1⟩:=hn
 have mA:∀ b ∈ (ps.take q).flatMap (·.2.2),b ∈ ps.flatMap (·.2.2):=fun b h => by rw [hsp];exact List.mem_append_left _ h
 have mB:∀ b ∈ (ps.drop (q + 1)).flatMap (·.2.2),b ∈ ps.flatMap (·.2.2):=fun b h => by rw [hsp];exact List.mem_append_right _ (List.mem_append_right _ h)
 have aP:∀ b ∈ (ps.take q).flatMap (·.2.2),b ∉ ps[q].2.2:=fun b h hc => d1 b h b (List.mem_append_left _ hc) rfl
 have bP:∀ b ∈ (ps.drop (q + 1)).flatMap (·.2.2),b ∉ ps[q].2.2:=fun b h hc => d2 b hc b h rfl
 have kA:=(hps.sub (List.take_sublist q ps)).keep (w':=W) (fun b h => hkeep b (mA b h) (aP b h))
 have kB:=(hps.sub (List.drop_sublist (q + 1) ps)).keep (w':=W) (fun b h => hkeep b (mB b h) (bP b h))
 refine KOs.app (KOs.app kA hqs fun b h hc => ?_) kB fun b h hc => ?_
 ·rcases hsub b hc with e | e
  ·exact aP b h e
  ·have:=hlt b (mA b h);omega
 ·rw [List.flatMap_append] at h
  rcases List.mem_append.1 h with h | h
  ·exact d1 b h b (List.mem_append_right _ hc) rfl
  ·rcases hsub b h with e | e
   ·exact bP b hc e
   ·have:=hlt b (mB b hc);omega
theorem putI_K {m:Nat} {b:Bx} {ks:List KT} {it:It} {q:Nat} (hq:kidF it.2 ks = q) (h:q < ks.length):putI (m + 1) (.mk b false [] ks) it = knotK (ks.take q ++ dn (putI m ks[q] it) ++ ks.drop (q + 1)):=by
 show (match ks[kidF it.2 ks]? with | none => _ | some k => knotK (ks.take (kidF it.2 ks) ++ dn (putI m k it) ++ ks.drop (kidF it.2 ks + 1))) = _
 rw [hq,List.getElem?_eq_getElem h]
theorem rb_knotK {b:Bx} {ks:List KT} (h:ks ≠ []):rb (.mk b false [] ks) = knotK ks:=by
 cases ks with
 | nil => exact absurd rfl h
 | cons k r => rfl
theorem spec_downK (lo n1 m d:Nat) (b0 b1 b2 b3:Int) (ks:List KT) (ia ka:Option Addr) (ic kc:Nat) (x0 x1 x2 x3 x4:Int) (S:List Nat) (w:World) (k:KO lo (n1 + 1 + 1) w (ia,ic,ka,kc) S (.mk (b0,b1,b2,b3) false [] ks)) (hlo:lo ≤ w.heap.size) (h2:2 ≤ ks.length) (h4:ks.length ≤ 4) (hgd:ks.all (gd (d + 1) false) = true) (hdm:d < m) (hx:bkb (x1,x2,x3,x4) = true)
  (IH:∀ (kid:KT) (h':Hd) (S':List Nat) (W:World),KO lo (n1 + 1) W h' S' kid → lo ≤ W.heap.size → gd (d + 1) false kid = true → Calls Tryz.prog 76 #[kvh kid h',.agg #[.int .i64 x0,.int .i64 x1,.int .i64 x2,.int .i64 x3,.int .i64 x4]] W (KRow W lo (n1 + 1) S' (dn (putI m kid (x0,x1,x2,x3,x4))))) :
  Calls Tryz.prog 76 #[.agg #[.int .i64 b0,.int .i64 b1,.int .i64 b2,.int .i64 b3,.bool false,.slice ia 0 ic,.slice ka ks.length kc],.agg #[.int .i64 x0,.int .i64 x1,.int .i64 x2,.int .i64 x3,.int .i64 x4]] w (KRow w lo (n1 + 1 + 1) S (dn (putI (m + 1) (.mk (b0,b1,b2,b3) false [] ks) (x0,x1,x2,x3,x4)))):=by
 obtain ⟨k0,hki0,hkz0,hkz1,hkzz⟩:=info_parts Tryz.infoKn
 have hSl:∀ x ∈ S,x < w.heap.size:=fun x hx => (k.lt x hx).2
 obtain ⟨ps,l1,r1,r2,hS,hN,hk⟩:=k
 have hks:ks = ps.map (·.1):=l1
 subst hks
 have hpl:(ps.map (·.1)).length = ps.length:=List.length_map _
 have hbx:∀ p ∈ ps,bkb p.1.box = true:=fun p hp => gd_box (d + 1) _ (List.all_eq_true.1 hgd p.1 (List.mem_map_of_mem hp))
 have hkid:kidF (x1,x2,x3,x4) (ps.map (·.1)) < ps.length:=by rw [← hpl];exact kidF_lt _ _ (by omega)
 rw [hpl] at h2 h4 ⊢
 have r2':w.ownsRow lo 35 7 (.slice ka ps.length kc) ps.length (flK ps):=r2
 have r1':w.ownsRow lo 40 5 (.slice ia 0 ic) 0 []:=r1
 obtain ⟨g,e0,hg,_⟩:=row_cs r2' (by omega)
 subst e0
 have hgS:g ∈ S:=hS.mem_iff.2 (by simp [hb])
 obtain ⟨hc3,hc63⟩:ps.length ≤ kc ∧ kc ≤ 9223372036854775807:=row_caps r2'
 have HR:=hid r2'
 have HRI:=hid r1'
 have HY0:=hid (fun (i:Nat) (hi:i < ps.length) (W:World) (hB:Below w.heap.size w W) => row_knAt (row_blk HR.out (fun x hx => hB.block x (row_lt HR.out x hx).2)) i hi)
 have HKF:=hid (fun (i:Nat) (hi:i < ps.length) => kfr_step (b:=(x1,x2,x3,x4)) (ks:=ps.map (·.1)) (k:=i) (by rw [List.length_map];exact hi))
 have HBX:=hid (fun (i:Nat) (hi:i < ps.length) => hbx ps[i] (List.getElem_mem hi))
 have HXB:=hid hx
 have hnk:∃ nk,nk = ps.length:=⟨_,rfl⟩
 obtain ⟨nk,hnk⟩:=hnk
 have HNK:=hid hnk
 rw [← hnk] at h2 h4 hc3 hkid ⊢
 have gT:=old_alloc (o':=.cells #[.int .i64 x0,.int .i64 x1,.int .i64 x2,.int .i64 x3,.int .i64 x4] 40) (new_alloc w w.heap.size (.cells #[.int .i64 b0,.int .i64 b1,.int .i64 b2,.int .i64 b3,.bool false,.slice ia 0 ic,.slice (some ⟨g,0,none⟩) nk kc] 35) rfl)
 have gX:=new_alloc (w.alloc (.cells #[.int .i64 b0,.int .i64 b1,.int .i64 b2,.int .i64 b3,.bool false,.slice ia 0 ic,.slice (some ⟨g,0,none⟩) nk kc] 35)) (w.heap.size + 1) (.cells #[.int .i64 x0,.int .i64 x1,.int .i64 x2,.int .i64 x3,.int .i64 x4] 40) (by simp)
 have hB:=balloc (balloc (Below.refl w.heap.size w) (.cells #[.int .i64 b0,.int .i64 b1,.int .i64 b2,.int .i64 b3,.bool false,.slice ia 0 ic,.slice (some ⟨g,0,none⟩) nk kc] 35)) (.cells #[.int .i64 x0,.int .i64 x1,.int .i64 x2,.int .i64 x3,.int .i64 x4] 40)
 have hs:((w.alloc (.cells #[.int .i64 b0,.int .i64 b1,.int .i64 b2,.int .i64 b3,.bool false,.slice ia 0 ic,.slice (some ⟨g,0,none⟩) nk kc] 35)).alloc (.cells #[.int .i64 x0,.int .i64 x1,.int .i64 x2,.int .i64 x3,.int .i64 x4] 40)).heap.size = w.heap.size + 2:=by simp
 generalize hts:dn (putI (m + 1) (.mk (b0,b1,b2,b3) false [] (ps.map (·.1))) (x0,x1,x2,x3,x4)) = ts
 have HTS:=hid hts
 have HGD:=hid hgd
 have HPS:=hid (show S.Perm (hb ia ++ hb (some (⟨g,0,none⟩:Addr)) ++ ps.flatMap (·.2.2)) ∧ S.Nodup ∧ ∀ p ∈ ps,KO lo (n1 + 1) w p.2.1 p.2.2 p.1 from ⟨hS,hN,hk⟩)
 clear r1 r2 r1' r2' hS hN hk l1 hts hgd hbx hnk hpl hx
 obtain ⟨a0,a1,a2,a3,a4,a5,a6,f0,f1,f2,f3,f4,f5,f6⟩:=cell7k gT
 go_enter Tryz.func76,Tryz.ntmps76
 go_upto_region 1 with fail
 generalize (w.alloc (.cells #[.int .i64 b0,.int .i64 b1,.int .i64 b2,.int .i64 b3,.bool false,.slice ia 0 ic,.slice (some ⟨g,0,none⟩) nk kc] 35)).alloc (.cells #[.int .i64 x0,.int .i64 x1,.int .i64 x2,.int .i64 x3,.int .i64 x4] 40) = V at *
 have HB:=hid hB
 go_wp2_with fail
 clear a0 a1 a2 a3 a4 a5 a6 f0 f1 f2 f3 f4 f5 f6 hB
 go_loopw [5,6,7,8] (fun t5 t6 t7 t8 wr => ∃ i:Nat,t8 = .int .i64 i ∧ t5 = .int .i64 ((kfr (x1,x2,x3,x4) (ps.map (·.1)) i).1:Nat) ∧ t6 = .int .i64 (kfr (x1,x2,x3,x4) (ps.map (·.1)) i).2.1 ∧ t7 = .int .i64 (kfr (x1,x2,x3,x4) (ps.map (·.1)) i).2.2 ∧ i ≤ nk ∧ wr.heap[w.heap.size]? = some (.cells #[.int .i64 b0,.int .i64 b1,.int .i64 b2,.int .i64 b3,.bool false,.slice ia 0 ic,.slice (some ⟨g,0,none⟩) nk kc] 35 (0,0)) ∧ wr.heap[w.heap.size + 1]? = some (.cells #[.int .i64 x0,.int .i64 x1,.int .i64 x2,.int .i64 x3,.int .i64 x4] 40 (0,0)) ∧ Hid (Below w.heap.size w wr)) (fun _ _ _ t8 _ => nk - (intOf t8).toNat)
 case atStart => exact ⟨0,rfl,rfl,rfl,rfl,Nat.zero_le _,gT,gX,HB⟩
 case round =>
  clear gT gX HB hs
  obtain ⟨i,rfl,rfl,rfl,rfl,hik,gT,gX,HB⟩:=hrel
  obtain ⟨_,_,_,_,_,_,a6,_,_,_,_,_,_,_⟩:=cell7k gT
  by_cases hlt:i < nk
  ·have c1:(i:Int) < (nk:Int):=by omega
   have hip:i < ps.length:=by rw [← HNK.out];exact hlt
   have HST0:=hid (HKF.out i hip)
   have HR0':Hid (kfr (x1,x2,x3,x4) (ps.map (·.1)) i = kfr (x1,x2,x3,x4) (ps.map (·.1)) i):=hid rfl
   have hbb:=HBX.out i hip
   have HYC:=hid (fun (W:World) hB => HY0.out i hip W hB)
   have egi:(ps.map (·.1))[i]'(by rw [List.length_map];exact hip) = ps[i].1:=List.getElem_map _
   rw [egi] at HST0
   clear egi
   generalize ps[i] = p at *
   obtain ⟨y0,y1,y2,y3,y4,ya,yn,yc,yb,ym,yd,hyv,hyb⟩:=kh p
   rw [hyb] at HST0 hbb
   rw [hyv] at HYC
   have HY:=HYC
   clear HYC hyv hyb
   have la:=ara_le hbb
   have lj:=ara_le (jnb_ok hbb HXB.out)
   have AREA1:=hid (fun (W:World) => spec_area y0 y1 y2 y3 W)
   have JOIN:=hid (fun (W:World) => spec_join y0 y1 y2 y3 x1 x2 x3 x4 W)
   have AREA2:=hid (fun (W:World) => spec_area (min y0 x1) (min y1 x2) (max y2 x3) (max y3 x4) W)
   change Hid (∀ W,Calls _ _ _ W (fun e w' => e = .returned (.int .i64 (ara (y0,y1,y2,y3))) ∧ Below W.heap.size W w')) at AREA1
   change Hid (∀ W,Calls _ _ _ W (fun e w' => e = .returned (.int .i64 (ara (jnb (y0,y1,y2,y3) (x1,x2,x3,x4)))) ∧ Below W.heap.size W w')) at AREA2
   generalize ara (jnb (y0,y1,y2,y3) (x1,x2,x3,x4)) = J at *
   generalize ara (y0,y1,y2,y3) = A at *
   obtain ⟨G,hG⟩:∃ G,G = J - A:=⟨_,rfl⟩
   rw [← hG] at HST0
   have hwr:IntKind.i64.wrap (J - A) = G:=by rw [hG,IntKind.wrap_i64] <;> omega
   have HST:=HST0
   clear HST0 hG la lj hbb hip
   generalize hkf0:kfr (x1,x2,x3,x4) (ps.map (·.1)) i = kf0 at *
   obtain ⟨r0,r1,r2⟩:=kf0
   have HR0:=hid hkf0
   clear hkf0 HR0'
   simp only [] at HST
   obtain ⟨q0,q1,q2,q3,_,_,_⟩:=Cs.knot7 (HY.out _ HB.out)
   go_wp2_with fail
   refine (AREA1.out _).mono ?_
   rintro e wr1 ⟨rfl,hb1⟩
   replace gT:=keepheap hb1 gT
   replace gX:=keepheap hb1 gX
   replace HB:=hid (btrans HB.out hb1)
   clear hb1 AREA1 a6 q0 q1 q2 q3
   go_upto_region 9 with fail
   refine wp_region_late (L:=[]) (S:=(fun w' => w'.cell? ⟨w.heap.size,6,none⟩ = some (.slice (some ⟨g,0,none⟩) nk kc) ∧ w'.cell? ⟨w.heap.size + 1,1,none⟩ = some (.int .i64 x1) ∧ w'.cell? ⟨w.heap.size + 1,2,none⟩ = some (.int .i64 x2) ∧ w'.cell? ⟨w.heap.size + 1,3,none⟩ = some (.int .i64 x3) ∧ w'.cell? ⟨w.heap.size + 1,4,none⟩ = some (.int .i64 x4) ∧ w'.cell? ⟨g,i * 7,none⟩ = some (.int .i64 y0) ∧ w'.cell? ⟨g,i * 7 + 1,none⟩ = some (.int .i64 y1) ∧ w'.cell? ⟨g,i * 7 + 2,none⟩ = some (.int .i64 y2) ∧ w'.cell? ⟨g,i * 7 + 3,none⟩ = some (.int .i64 y3))) (by kernel_rfl) ?_ (fun hHeld => ?_)
   ·(obtain ⟨_,_,_,_,_,_,a6,_,_,_,_,_,_,_⟩:=cell7k gT;obtain ⟨_,c1,c2,c3,c4,_,_,_,_,_⟩:=cell5j gX;obtain ⟨q0,q1,q2,q3,q4,q5,q6⟩:=Cs.knot7 (HY.out _ HB.out);exact ⟨a6,c1,c2,c3,c4,q0,q1,q2,q3⟩)
   have hD:=bdrew (Below.refl wr1.heap.size wr1)
   replace gT:=keepheap hD gT
   replace gX:=keepheap hD gX
   replace HB:=hid (btrans HB.out hD)
   clear hD
   generalize wr1.drew = Va at *
   refine tkP 0 hHeld ?_
   try simp only [sq]
   refine tkA 1 hHeld ?_
   try simp only [sq]
   refine tkP 2 hHeld ?_
   try simp only [sq]
   refine tkP 3 hHeld ?_
   try simp only [sq]
   refine tkP 4 hHeld ?_
   try simp only [sq]
   refine tkA 5 hHeld ?_
   try simp only [sq]
   refine tkP 6 hHeld ?_
   try simp only [sq]
   refine tkA 7 hHeld ?_
   try simp only [sq]
   refine tkP 10 hHeld ?_
   try simp only [sq]
   refine anyL_1 (i:=8) rfl (by kernel_rfl) rfl ?_
   refine wpo_call (JOIN.out Va) ?_ (fun e w' hp => ?_) (fun v Vb hp => ?_)
   ·go_simp
   ·exact ⟨_,hp.1⟩
   clear hHeld
   obtain ⟨e0,hb1⟩:=hp
   injection e0 with e0
   subst e0
   replace gT:=keepheap hb1 gT
   replace gX:=keepheap hb1 gX
   replace HB:=hid (btrans HB.out hb1)
   clear hb1
   refine ⟨by (obtain ⟨_,_,_,_,_,_,a6,_,_,_,_,_,_,_⟩:=cell7k gT;obtain ⟨_,c1,c2,c3,c4,_,_,_,_,_⟩:=cell5j gX;obtain ⟨q0,q1,q2,q3,q4,q5,q6⟩:=Cs.knot7 (HY.out _ HB.out);exact ⟨a6,c1,c2,c3,c4,q0,q1,q2,q3⟩),fun hHeld => ?_⟩
   try simp only [sq]
   refine anyL_1 (i:=9) rfl (by kernel_rfl) rfl ?_
   refine wpo_call (AREA2.out Vb) ?_ (fun e w' hp => ?_) (fun v Vc hp => ?_)
   ·go_simp
   ·exact ⟨_,hp.1⟩
   clear hHeld
   obtain ⟨e0,hb1⟩:=hp
   injection e0 with e0
   subst e0
   replace gT:=keepheap hb1 gT
   replace gX:=keepheap hb1 gX
   replace HB:=hid (btrans HB.out hb1)
   clear hb1
   refine ⟨by (obtain ⟨_,_,_,_,_,_,a6,_,_,_,_,_,_,_⟩:=cell7k gT;obtain ⟨_,c1,c2,c3,c4,_,_,_,_,_⟩:=cell5j gX;obtain ⟨q0,q1,q2,q3,q4,q5,q6⟩:=Cs.knot7 (HY.out _ HB.out);exact ⟨a6,c1,c2,c3,c4,q0,q1,q2,q3⟩),fun hHeld => ?_⟩
   try simp only [sq]
   refine tkP 11 hHeld ?_
   try simp only [sq]
   refine tkP 12 hHeld ?_
   try simp only [sq]
   refine anyL_done (by kernel_rfl) ?_ _
   by_cases h1:r1 < 0
   ·have d1:decide (r1 < 0) = true:=decide_eq_true h1
    go_wp2_with fail
    go_roundw
    case rel => exact ⟨i + 1,by go_num,by rw [HST.out,if_pos (by rw [Bool.or_eq_true,Bool.or_eq_true,Bool.and_eq_true];simp only [decide_eq_true_eq];omega)],by rw [HST.out,if_pos (by rw [Bool.or_eq_true,Bool.or_eq_true,Bool.and_eq_true];simp only [decide_eq_true_eq];omega)],by rw [HST.out,if_pos (by rw [Bool.or_eq_true,Bool.or_eq_true,Bool.and_eq_true];simp only [decide_eq_true_eq];omega)],by omega,gT,gX,HB⟩
    case measure => simp [intOf];omega
   ·have d1:decide (r1 < 0) = false:=decide_eq_false h1
    by_cases h2:G < r1
    ·have d2:decide (G < r1) = true:=decide_eq_true h2
     go_wp2_with fail
     go_roundw
     case rel => exact ⟨i + 1,by go_num,by rw [HST.out,if_pos (by rw [Bool.or_eq_true,Bool.or_eq_true,Bool.and_eq_true];simp only [decide_eq_true_eq];omega)],by rw [HST.out,if_pos (by rw [Bool.or_eq_true,Bool.or_eq_true,Bool.and_eq_true];simp only [decide_eq_true_eq];omega)],by rw [HST.out,if_pos (by rw [Bool.or_eq_true,Bool.or_eq_true,Bool.and_eq_true];simp only [decide_eq_true_eq];omega)],by omega,gT,gX,HB⟩
     case measure => simp [intOf];omega
    ·have d2:decide (G < r1) = false:=decide_eq_false h2
     by_cases h3:G = r1
     ·subst h3
      clear d2
      have d2:decide (G < G) = false:=decide_eq_false (by omega)
      by_cases h4:A < r2
      ·have d4:decide (A < r2) = true:=decide_eq_true h4
       go_wp2_with fail
       go_roundw
       case rel => exact ⟨i + 1,by go_num,by rw [HST.out,if_pos (by rw [Bool.or_eq_true,Bool.or_eq_true,Bool.and_eq_true];simp only [decide_eq_true_eq];exact .inr ⟨trivial,h4⟩)],by rw [HST.out,if_pos (by rw [Bool.or_eq_true,Bool.or_eq_true,Bool.and_eq_true];simp only [decide_eq_true_eq];exact .inr ⟨trivial,h4⟩)],by rw [HST.out,if_pos (by rw [Bool.or_eq_true,Bool.or_eq_true,Bool.and_eq_true];simp only [decide_eq_true_eq];exact .inr ⟨trivial,h4⟩)],by omega,gT,gX,HB⟩
       case measure => simp [intOf];omega
      ·have d4:decide (A < r2) = false:=decide_eq_false h4
       go_wp2_with fail
       go_roundw
       case rel => exact ⟨i + 1,by go_num,by rw [HST.out,if_neg (by rw [Bool.or_eq_true,Bool.or_eq_true,Bool.and_eq_true];simp only [decide_eq_true_eq];rintro ((q | q) | ⟨_,q⟩) <;> omega)],by rw [HST.out,if_neg (by rw [Bool.or_eq_true,Bool.or_eq_true,Bool.and_eq_true];simp only [decide_eq_true_eq];rintro ((q | q) | ⟨_,q⟩) <;> omega)],by rw [HST.out,if_neg (by rw [Bool.or_eq_true,Bool.or_eq_true,Bool.and_eq_true];simp only [decide_eq_true_eq];rintro ((q | q) | ⟨_,q⟩) <;> omega)],by omega,gT,gX,HB⟩
       case measure => simp [intOf];omega
     ·have d3:(G == r1) = false:=by rw [beq_eq_false_iff_ne];exact h3
      have d3':decide (G = r1) = false:=decide_eq_false h3
      go_wp2_with fail
      go_roundw
      case rel => exact ⟨i + 1,by go_num,by rw [HST.out,if_neg (by rw [Bool.or_eq_true,Bool.or_eq_true,Bool.and_eq_true];simp only [decide_eq_true_eq];omega)],by rw [HST.out,if_neg (by rw [Bool.or_eq_true,Bool.or_eq_true,Bool.and_eq_true];simp only [decide_eq_true_eq];omega)],by rw [HST.out,if_neg (by rw [Bool.or_eq_true,Bool.or_eq_true,Bool.and_eq_true];simp only [decide_eq_true_eq];omega)],by omega,gT,gX,HB⟩
      case measure => simp [intOf];omega
  ·obtain rfl:nk = i:=by omega
   have c1:¬ (nk:Int) < (nk:Int):=by omega
   have hke:(kfr (x1,x2,x3,x4) (ps.map (·.1)) nk).1 = kidF (x1,x2,x3,x4) (ps.map (·.1)):=by unfold kidF;rw [List.length_map,← HNK.out]
   rw [hke]
   generalize hkq:kidF (x1,x2,x3,x4) (ps.map (·.1)) = q at *
   have HKQ:=hid hkq
   clear hkq hke
   generalize (kfr (x1,x2,x3,x4) (ps.map (·.1)) nk).2.1 = r1 at *
   generalize (kfr (x1,x2,x3,x4) (ps.map (·.1)) nk).2.2 = r2 at *
   have hqp:q < ps.length:=by rw [← HNK.out];exact hkid
   have hqI:(q:Int) ≤ (kc:Int):=by omega
   have hq0:(0:Int) ≤ (q:Int):=by omega
   have hqn:(q:Int) < (nk:Int):=by omega
   have hXs:=lt_of_heap gX
   have HE:=hid (World.ownsRow_made (base:=w.heap.size) (e:=35) (size:=7) wr #[] 0 HB.out.size (by decide) rfl)
   have hbE:=balloc (Below.refl wr.heap.size wr) (.cells #[] 35)
   have hsE:w.heap.size ≤ (wr.alloc (.cells #[] 35)).heap.size:=by have:=HB.out.size;simp;omega
   have HLT:=hid (show (flK (ps.take q)).length = q * 7 by rw [flK_len,List.length_take];congr 1;omega)
   have SRC1:=hid (show SrcA (wr.alloc (.cells #[] 35)) (some ⟨g,0,none⟩) q (flK (ps.take q)) from .inr ⟨_,rfl,fun j u e => by
    rw [Addr.add_mid]
    have hrw:=row_blk HR.out (fun x hx => (btrans HB.out hbE).block x (row_lt HR.out x hx).2)
    obtain ⟨g',e1,_,hc⟩:=row_cs hrw (by omega)
    cases e1
    refine hc j u ?_
    rw [show flK (ps.take q) = (flK ps).take (q * 7) from flat_take ckp_len ps q,List.getElem?_take] at e
    split at e
    ·exact e
    ·cases e⟩)
   have a6E:=(cell7k (old_alloc (o':=.cells #[] 35) gT)).2.2.2.2.2.2.1
   go_upto_region 15 with (at_builtin;refine wpList_app rfl (.tmp 68) (.tmp 72) 33 rfl w.heap.size 35 k0 _ 7 88 Tryz.underlying33 hki0 hkz0 hkz1 hkzz rfl (by decide) (some ⟨wr.heap.size,0,none⟩) 0 0 [] (by rfl) HE.out (some ⟨g,0,none⟩) q kc (flK (ps.take q)) (by rfl) SRC1.out HLT.out (flK_one _) (by unfold maxLen;omega) (by omega) hsE ?_;intro a1 c1' W1 hown hgrow hat)
   have hgE:∀ b,b < wr.heap.size → b ∉ hb (some (⟨wr.heap.size,0,none⟩:Addr)):=fun b hb' => by simp [hb];omega
   have gT1:=(app_blk hgrow (by have:=lt_of_heap gT;simp;omega) (hgE _ (lt_of_heap gT))).trans (old_alloc (o':=.cells #[] 35) gT)
   have gX1:=(app_blk hgrow (by have:=lt_of_heap gX;simp;omega) (hgE _ (lt_of_heap gX))).trans (old_alloc (o':=.cells #[] 35) gX)
   have hB1:Below w.heap.size w W1:=Below.grown (btrans HB.out hbE) hgrow hsE (fun r e => by cases e;exact HB.out.size)
   have hl1:∀ b ∈ hb a1,w.heap.size + 2 ≤ b:=fun b hb' => by
    rcases hat b hb' with e | e
    ·have:b = wr.heap.size:=by simpa [hb] using e
     omega
    ·simp at e;omega
   have hown1:W1.ownsRow w.heap.size 35 7 (.slice a1 q c1') q (flK (ps.take q)):=by simpa using hown
   have hrg:=row_blk HR.out (fun x hx => hB1.block x (row_lt HR.out x hx).2)
   refine wp_wld (fun X => X.heap[w.heap.size]? = some (.cells #[.int .i64 b0,.int .i64 b1,.int .i64 b2,.int .i64 b3,.bool false,.slice ia 0 ic,.slice (some ⟨g,0,none⟩) nk kc] 35 (0,0)) ∧ X.heap[w.heap.size + 1]? = some (.cells #[.int .i64 x0,.int .i64 x1,.int .i64 x2,.int .i64 x3,.int .i64 x4] 40 (0,0)) ∧ Hid (Below w.heap.size w X) ∧ Hid (X.ownsRow w.heap.size 35 7 (.slice a1 q c1') q (flK (ps.take q))) ∧ Hid (X.ownsRow lo 35 7 (.slice (some ⟨g,0,none⟩) nk kc) nk (flK ps))) ⟨gT1,gX1,hid hB1,hid hown1,hid (by rw [HNK.out];exact hrg)⟩ ?_
   clear gT1 gX1 hB1 hown1 hrg hown hgrow hat hgE SRC1 HLT hsE hbE HE gT gX HB a6 a6E
   rintro Wd ⟨gT,gX,HB,HO1,HRg⟩
   have HPQ:=hid (show ps[q] = ps[q] from rfl)
   have hpm:ps[q] ∈ ps:=List.getElem_mem hqp
   have hpS:∀ x ∈ ps[q].2.2,x ∈ S:=fun x hx => HPS.out.1.mem_iff.2 (by simp only [List.mem_append];exact .inr (List.mem_flatMap.2 ⟨_,hpm,hx⟩))
   have hgp:g ∉ ps[q].2.2:=fun hc => by
    have hN2:=HPS.out.1.nodup_iff.1 HPS.out.2.1
    rw [List.nodup_append] at hN2
    exact hN2.2.2 g (by simp [hb]) g (List.mem_flatMap.2 ⟨_,hpm,hc⟩) rfl
   have hgdq:gd (d + 1) false ps[q].1 = true:=List.all_eq_true.1 HGD.out _ (List.mem_map_of_mem hpm)
   have IHQ:=hid (fun (W:World) (hB:Below w.heap.size w W) => IH ps[q].1 ps[q].2.1 ps[q].2.2 W ((HPS.out.2.2 _ hpm).keep (fun x hx => hB.block x (hSl x (hpS x hx)))) (Nat.le_trans hlo hB.size) hgdq)
   have HYR:=hid (fun (W:World) (h:W.ownsRow lo 35 7 (.slice (some ⟨g,0,none⟩) nk kc) nk (flK ps)) => row_knAt h q hqp)
   have HQL:=hid (fun (qs:List KP) (h:qs.map (·.1) = dn (putI m ps[q].1 (x0,x1,x2,x3,x4))) => show qs.length ≤ 2 by
    have hg5:=(putI_g5 (it:=(x0,x1,x2,x3,x4)) HXB.out m d false ps[q].1 hgdq hdm).1
    have hl:qs.length = (dn (putI m ps[q].1 (x0,x1,x2,x3,x4))).length:=by rw [← h,List.length_map]
    rcases dn_gd hg5 with ⟨_,e,_⟩ | ⟨a,b,e,_,_⟩
    ·rw [hl,e];simp
    ·rw [hl,e];simp)
   have hgb:∀ b,b ∈ hb (some (⟨g,0,none⟩:Addr)) → b = g:=fun b hb' => by simpa [hb] using hb'
   have hgw:g < w.heap.size:=hg
   generalize hpp:ps[q] = p at *
   have HPP:=hid hpp
   clear hpp HPQ
   obtain ⟨y0,y1,y2,y3,y4,ya,yn,yc,yb,ym,yd,hyv,hyb⟩:=kh p
   have hkv:kvh p.1 p.2.1 = .agg (ckh p.1 p.2.1).toArray:=rfl
   rw [hkv,hyv] at IHQ
   rw [hyv] at HYR
   clear hkv
   refine wp_region_late (L:=[]) (S:=(fun w' => w'.cell? ⟨w.heap.size,6,none⟩ = some (.slice (some ⟨g,0,none⟩) nk kc) ∧ w'.cell? ⟨w.heap.size + 1,0,none⟩ = some (.int .i64 x0) ∧ w'.cell? ⟨w.heap.size + 1,1,none⟩ = some (.int .i64 x1) ∧ w'.cell? ⟨w.heap.size + 1,2,none⟩ = some (.int .i64 x2) ∧ w'.cell? ⟨w.heap.size + 1,3,none⟩ = some (.int .i64 x3) ∧ w'.cell? ⟨w.heap.size + 1,4,none⟩ = some (.int .i64 x4) ∧ w'.cell? ⟨g,q * 7,none⟩ = some (.int .i64 y0) ∧ w'.cell? ⟨g,q * 7 + 1,none⟩ = some (.int .i64 y1) ∧ w'.cell? ⟨g,q * 7 + 2,none⟩ = some (.int .i64 y2) ∧ w'.cell? ⟨g,q * 7 + 3,none⟩ = some (.int .i64 y3) ∧ w'.cell? ⟨g,q * 7 + 4,none⟩ = some (.bool y4) ∧ w'.cell? ⟨g,q * 7 + 5,none⟩ = some (.slice ya yn yc) ∧ w'.cell? ⟨g,q * 7 + 6,none⟩ = some (.slice yb ym yd))) (by kernel_rfl) ?_ (fun hHeld => ?_)
   ·(obtain ⟨_,_,_,_,_,_,a6,_,_,_,_,_,_,_⟩:=cell7k gT;obtain ⟨c0,c1,c2,c3,c4,_,_,_,_,_⟩:=cell5j gX;obtain ⟨q0,q1,q2,q3,q4,q5,q6⟩:=Cs.knot7 (HYR.out _ HRg.out);exact ⟨a6,c0,c1,c2,c3,c4,q0,q1,q2,q3,q4,q5,q6⟩)
   have hD:=bdrew (Below.refl Wd.heap.size Wd)
   replace gT:=keepheap hD gT
   replace gX:=keepheap hD gX
   replace HRg:=hid (HRg.out.drew)
   replace HO1:=hid (HO1.out.drew)
   replace HB:=hid (btrans HB.out hD)
   clear hD
   generalize Wd.drew = We at *
   have hXe:=lt_of_heap gX
   refine tkP 0 hHeld ?_
   try simp only [sq]
   refine tkP 1 hHeld ?_
   try simp only [sq]
   refine tkA 2 hHeld ?_
   try simp only [sq]
   refine tkP 3 hHeld ?_
   try simp only [sq]
   refine tkP 4 hHeld ?_
   try simp only [sq]
   refine tkA 5 hHeld ?_
   try simp only [sq]
   refine tkA 6 hHeld ?_
   try simp only [sq]
   refine anyL_1 (i:=7) rfl (by kernel_rfl) rfl ?_
   refine wpo_call (IHQ.out We HB.out) ?_ (fun e w' hp => ?_) (fun v W2 hp => ?_)
   ·go_simp
   ·obtain ⟨_,_,_,hp,_⟩:=hp;exact ⟨_,hp⟩
   clear hHeld
   obtain ⟨a2,c2,qs,e0,hqs,ro2,hk2,hs2,hd2,hf2⟩:=hp
   injection e0 with e0
   subst e0
   have hWs:=HB.out.size
   have hnT:∀ b,w.heap.size ≤ b → b ∉ p.2.2:=fun b hb' hc => by have:=hSl b (hpS b hc);omega
   replace gT:=(hf2.blk _ (lt_of_heap gT) (hnT _ (Nat.le_refl _))).trans gT
   replace gX:=(hf2.blk _ (lt_of_heap gX) (hnT _ (by omega))).trans gX
   replace HRg:=hid (row_blk HRg.out (fun b hb' => hf2.blk b (row_lt HRg.out b hb').2 (by have h9:=hgb b hb';rw [h9];exact hgp)))
   have hlo1:=row_lt HO1.out
   replace HO1:=hid (row_blk HO1.out (fun b hb' => hf2.blk b (row_lt HO1.out b hb').2 (hnT _ (row_lt HO1.out b hb').1)))
   have HF2:=hid (fr_step (Fr.of HB.out S) hf2 (fun b hb' => .inl (hpS b hb')))
   have HQ2:=hid (And.intro hqs (And.intro hk2 (And.intro hs2 hd2)))
   have HRO:=hid ro2
   have HFQ:=hid hf2
   clear hqs ro2 hk2 hs2 hd2 hf2
   refine ⟨by (obtain ⟨_,_,_,_,_,_,a6,_,_,_,_,_,_,_⟩:=cell7k gT;obtain ⟨c0,c1,c2,c3,c4,_,_,_,_,_⟩:=cell5j gX;obtain ⟨q0,q1,q2,q3,q4,q5,q6⟩:=Cs.knot7 (HYR.out _ HRg.out);exact ⟨a6,c0,c1,c2,c3,c4,q0,q1,q2,q3,q4,q5,q6⟩),fun hHeld => ?_⟩
   try simp only [sq]
   refine anyL_1 (i:=8) rfl (by kernel_rfl) rfl ?_
   clear hHeld
   have hsW2:=HF2.out.size
   have hql:=(row_caps HRO.out).1
   refine wpo_app (.tmp 74) (.tmp 81) 33 rfl w.heap.size 35 k0 _ 7 88 Tryz.underlying33 hki0 hkz0 hkz1 hkzz rfl (by decide) a1 q c1' (flK (ps.take q)) (by rfl) HO1.out a2 qs.length c2 (flK qs) (by rfl) (src_own HRO.out) (flK_len qs) (flK_one _) (by unfold maxLen;have:=HQL.out qs HQ2.out.1;omega) (by have:=HQL.out qs HQ2.out.1;omega) hsW2 ?_
   intro a3 c3 W3 hown hgrow hat
   have hnA:∀ b ∈ hb a1,w.heap.size + 2 ≤ b:=hl1
   replace gT:=(app_blk hgrow (lt_of_heap gT) (fun hc => by have:=hnA _ hc;omega)).trans gT
   replace gX:=(app_blk hgrow (lt_of_heap gX) (fun hc => by have:=hnA _ hc;omega)).trans gX
   replace HRg:=hid (row_blk HRg.out (fun b hb' => app_blk hgrow (row_lt HRg.out b hb').2 (fun hc => by have:=hnA _ hc;have h9:=hgb b hb';omega)))
   have HG3:=hid hgrow
   have HA3:=hid hat
   have HO3:=hid hown
   clear hown hgrow hat
   refine ⟨by (obtain ⟨_,_,_,_,_,_,a6,_,_,_,_,_,_,_⟩:=cell7k gT;obtain ⟨c0,c1,c2,c3,c4,_,_,_,_,_⟩:=cell5j gX;obtain ⟨q0,q1,q2,q3,q4,q5,q6⟩:=Cs.knot7 (HYR.out _ HRg.out);exact ⟨a6,c0,c1,c2,c3,c4,q0,q1,q2,q3,q4,q5,q6⟩),fun hHeld => ?_⟩
   try simp only [sq]
   refine tkP 9 hHeld ?_
   try simp only [sq]
   refine anyL_done (by kernel_rfl) ?_ _
   have hkeepW:∀ b,b < w.heap.size → b ∉ p.2.2 → W3.heap[b]? = w.heap[b]?:=fun b hb' hn => (app_blk HG3.out (Nat.lt_of_lt_of_le hb' hsW2) (fun hc => by have:=hl1 b hc;omega)).trans ((HFQ.out.blk b (Nat.lt_of_lt_of_le hb' hWs) hn).trans (HB.out.block b hb'))
   have hX2:=hXe
   have hK0:KOs lo (n1 + 1) w ps:=⟨by
    have hN2:=HPS.out.1.nodup_iff.1 HPS.out.2.1
    rw [List.nodup_append] at hN2
    exact hN2.2.1,HPS.out.2.2⟩
   have hpsS:∀ b ∈ ps.flatMap (·.2.2),b ∈ S:=fun b hb' => HPS.out.1.mem_iff.2 (by simp only [List.mem_append];exact .inr hb')
   have hqs3:KOs lo (n1 + 1) W3 qs:=HQ2.out.2.1.keep (fun b hb' => app_blk HG3.out (KO_blk HQ2.out.2.1 b hb') (fun hc => by
    have h1:=hlo1 b hc
    have h2:=hl1 b hc
    rcases HQ2.out.2.2.1 b hb' with e | e
    ·have:=hSl b (hpS b e);omega
    ·omega))
   have hKW:KOs lo (n1 + 1) W3 (ps.take q ++ qs ++ ps.drop (q + 1)):=KOs.swap hK0 hqp hqs3 (fun b hb' => by
    rw [HPP.out]
    rcases HQ2.out.2.2.1 b hb' with e | e
    ·exact .inl e
    ·exact .inr (by omega)) (fun b hb' hn => hkeepW b (hSl b (hpsS b hb')) (by rw [HPP.out] at hn;exact hn))
   have hLb:∀ b ∈ (ps.take q ++ qs ++ ps.drop (q + 1)).flatMap (·.2.2),(b ∈ S ∧ b < w.heap.size) ∨ (We.heap.size ≤ b ∧ b < W2.heap.size):=fun b hb' => by
    rw [List.flatMap_append,List.flatMap_append] at hb'
    rcases List.mem_append.1 hb' with h | h
    ·rcases List.mem_append.1 h with h | h
     ·have:=hpsS b ((sub_flat (List.take_sublist q ps)).mem h)
      exact .inl ⟨this,hSl b this⟩
     ·rcases HQ2.out.2.2.1 b h with e | e
      ·exact .inl ⟨hpS b e,hSl b (hpS b e)⟩
      ·exact .inr ⟨e,KO_blk HQ2.out.2.1 b h⟩
    ·have:=hpsS b ((sub_flat (List.drop_sublist (q + 1) ps)).mem h)
     exact .inl ⟨this,hSl b this⟩
   have hiS:∀ b ∈ hb ia,b ∈ S:=fun b hb' => HPS.out.1.mem_iff.2 (by simp only [List.mem_append];exact .inl (.inl hb'))
   have hN2:=HPS.out.1.nodup_iff.1 HPS.out.2.1
   rw [List.nodup_append] at hN2
   have hip:∀ b ∈ hb ia,b ∉ ps.flatMap (·.2.2):=fun b h hc => hN2.2.2 b (List.mem_append_left _ h) b hc rfl
   have hpmf:∀ b ∈ p.2.2,b ∈ ps.flatMap (·.2.2):=fun b hb' => List.mem_flatMap.2 ⟨p,hpm,hb'⟩
   have hRJ:=row_blk HRI.out (fun b hb' => hkeepW b (hSl b (hiS b hb')) (fun hc => hip b hb' (hpmf b hc)))
   have hF3:=fr_step HF2.out (app_fr HG3.out) (fun b hb' => .inr (by have:=hl1 b hb';omega))
   have d3:∀ b ∈ hb a3,b ∉ (ps.take q ++ qs ++ ps.drop (q + 1)).flatMap (·.2.2) ∧ w.heap.size + 2 ≤ b:=fun b hb' => by
    have h1:(b ∈ hb a1 ∧ w.heap.size + 2 ≤ b ∧ b < We.heap.size) ∨ b = W2.heap.size:=by
     rcases HA3.out b hb' with e | e
     ·exact .inl ⟨e,hl1 b e,(hlo1 b e).2⟩
     ·exact .inr e
    refine ⟨fun hc => ?_,?_⟩
    ·rcases hLb b hc with e | e <;> rcases h1 with h1 | h1 <;> omega
    ·rcases h1 with h1 | h1
     ·exact h1.2.1
     ·have:=HFQ.out.size;omega
   have hLs:∀ b ∈ (ps.take q ++ qs ++ ps.drop (q + 1)).flatMap (·.2.2),(b ∈ S ∧ b < w.heap.size) ∨ w.heap.size + 2 ≤ b:=fun b hb' => by
    rcases hLb b hb' with e | e
    ·exact .inl e
    ·exact .inr (by omega)
   have hdi:∀ b ∈ hb ia,b ∉ (ps.take q ++ qs ++ ps.drop (q + 1)).flatMap (·.2.2):=fun b hb' hc => by
    have hbw:=hSl b (hiS b hb')
    rw [List.flatMap_append,List.flatMap_append] at hc
    rcases List.mem_append.1 hc with h | h
    ·rcases List.mem_append.1 h with h | h
     ·exact hip b hb' ((sub_flat (List.take_sublist q ps)).mem h)
     ·rcases HQ2.out.2.2.1 b h with e | e
      ·exact hip b hb' (hpmf b e)
      ·omega
    ·exact hip b hb' ((sub_flat (List.drop_sublist (q + 1) ps)).mem h)
   have hql2:=HQL.out qs HQ2.out.1
   have HQM:=hid HQ2.out.1
   have hks5:∀ k ∈ (ps.take q ++ qs ++ ps.drop (q + 1)).map (·.1),gd (d + 1) false k = true:=fun k hk => by
    rw [List.map_append,List.map_append,HQM.out] at hk
    have hps9:∀ k ∈ ps.map (·.1),gd (d + 1) false k = true:=fun k hk => List.all_eq_true.1 HGD.out k hk
    rcases List.mem_append.1 hk with h | h
    ·rcases List.mem_append.1 h with h | h
     ·exact hps9 k (by rw [List.map_take] at h;exact List.mem_of_mem_take h)
     ·rcases dn_gd (putI_g5 (it:=(x0,x1,x2,x3,x4)) HXB.out m d false p.1 hgdq hdm).1 with ⟨_,e,e2⟩ | ⟨a,b,e,e2,e3⟩
      ·rw [e,List.mem_singleton] at h
       rw [h];exact e2
      ·rw [e] at h
       rcases List.mem_cons.1 h with h | h
       ·rw [h];exact e2
       ·rw [List.mem_singleton] at h;rw [h];exact e3
    ·exact hps9 k (by rw [List.map_drop] at h;exact List.mem_of_mem_drop h)
   have hLl:(ps.take q ++ qs ++ ps.drop (q + 1)).length = q + qs.length + (nk - (q + 1)):=by
    rw [List.length_append,List.length_append,List.length_take,List.length_drop,← HNK.out]
    omega
   have hLm:((ps.take q ++ qs ++ ps.drop (q + 1)).map (·.1)).length = q + qs.length + (nk - (q + 1)):=by rw [List.length_map];exact hLl
   have hts9:dn (rb (.mk (b0,b1,b2,b3) false [] ((ps.take q ++ qs ++ ps.drop (q + 1)).map (·.1)))) = ts:=by
    rw [rb_knotK (fun e => by rw [e] at hLm;simp at hLm;omega),← HTS.out,putI_K (q:=q) HKQ.out (by rw [List.length_map];exact hqp)]
    have e9:(ps.map (·.1))[q]'(by rw [List.length_map];exact hqp) = p.1:=by rw [List.getElem_map,HPP.out]
    rw [e9,← HQM.out,List.map_append,List.map_append,List.map_take,List.map_drop]
   have DOWN:=hid (fun (W:World) (a4:Option Addr) (c4:Nat) (W4:World) (HKW:KOs lo (n1 + 1) W (ps.take q ++ qs ++ ps.drop (q + 1))) (HRJ:W.ownsRow lo 40 5 (.slice ia 0 ic) 0 []) (HF3:Fr S w W) (hTW9:w.heap.size < W.heap.size) (hown:W4.ownsRow w.heap.size 35 7 (.slice a4 (q + qs.length + (nk - (q + 1))) c4) (q + qs.length + (nk - (q + 1))) (flK (ps.take q) ++ flK qs ++ flK (ps.drop (q + 1)))) (hgrow:W.grownBy W4 (Value.ownBlock (.slice a3 (q + qs.length) c3))) (hat:∀ b ∈ hb a4,b ∈ hb a3 ∨ b = W.heap.size) => show Calls Tryz.prog 102 #[.agg #[.int .i64 b0,.int .i64 b1,.int .i64 b2,.int .i64 b3,.bool false,.slice ia 0 ic,.slice a4 (q + qs.length + (nk - (q + 1))) c4]] (W4.setCell ⟨w.heap.size,6,none⟩ (.slice a4 (q + qs.length + (nk - (q + 1))) c4)) (KRow w lo (n1 + 1 + 1) S ts) by
    have hsW:=HF3.size
    have ha4:∀ b ∈ hb a4,w.heap.size + 2 ≤ b ∨ b = W.heap.size:=fun b hb' => by
     rcases hat b hb' with e | e
     ·exact .inl (d3 b e).2
     ·exact .inr e
    have hTW:w.heap.size < W.heap.size:=hTW9
    have hLlt:=KO_blk HKW
    have kL:KOs lo (n1 + 1) (W4.setCell ⟨w.heap.size,6,none⟩ (.slice a4 (q + qs.length + (nk - (q + 1))) c4)) (ps.take q ++ qs ++ ps.drop (q + 1)):=HKW.keep (fun b hb' => (heap_set W4 w.heap.size 6 b _ (by rcases hLs b hb' with e | e <;> omega)).trans (app_blk hgrow (hLlt b hb') (fun hc => (d3 b hc).1 hb')))
    have rI:=row_blk HRJ (fun b hb' => (heap_set W4 w.heap.size 6 b (.slice a4 (q + qs.length + (nk - (q + 1))) c4) (by have:=hSl b (hiS b hb');omega)).trans (app_blk hgrow (row_lt HRJ b hb').2 (fun hc => by have:=(d3 b hc).2;have:=hSl b (hiS b hb');omega)))
    have rK:=row_blk hown (fun b hb' => heap_set W4 w.heap.size 6 b (.slice a4 (q + qs.length + (nk - (q + 1))) c4) (by rcases ha4 b hb' with e | e <;> omega))
    have hF5:=fr_set (b:=w.heap.size) (k:=6) (u:=.slice a4 (q + qs.length + (nk - (q + 1))) c4) (fr_step HF3 (app_fr hgrow) (fun b hb' => .inr (by have:=(d3 b hb').2;omega))) (.inr (Nat.le_refl _))
    have da:∀ b ∈ hb a4,b ∉ (ps.take q ++ qs ++ ps.drop (q + 1)).flatMap (·.2.2):=fun b hb' hc => by
     rcases hat b hb' with e | e
     ·exact (d3 b e).1 hc
     ·have:=hLlt b hc;omega
    have kk:KO lo (n1 + 1 + 1) _ (ia,ic,a4,c4) (hb ia ++ hb a4 ++ (ps.take q ++ qs ++ ps.drop (q + 1)).flatMap (·.2.2)) (.mk (b0,b1,b2,b3) false [] ((ps.take q ++ qs ++ ps.drop (q + 1)).map (·.1))):=KO.mk' (ps:=ps.take q ++ qs ++ ps.drop (q + 1)) rfl rI (by rw [hLl,flK_app,flK_app];exact own_base rK hlo) kL (fun b hb' => ⟨fun hc => by have:=hSl b (hiS b hb');rcases ha4 b hc with e | e <;> omega,hdi b hb'⟩) da
    have:=spec_split lo (n1 + 1) _ _ _ _ kk (Nat.le_trans hlo hF5.size) ⟨by show ((ps.take q ++ qs ++ ps.drop (q + 1)).map (·.1)).length ≤ 5;rw [hLm];omega,.inr ⟨rfl,rfl,List.all_eq_true.2 (fun k hk => gd_box (d + 1) k (hks5 k hk))⟩⟩
    rw [hts9] at this
    have hv:kvh (.mk (b0,b1,b2,b3) false [] ((ps.take q ++ qs ++ ps.drop (q + 1)).map (·.1))) (ia,ic,a4,c4) = .agg #[.int .i64 b0,.int .i64 b1,.int .i64 b2,.int .i64 b3,.bool false,.slice ia 0 ic,.slice a4 (q + qs.length + (nk - (q + 1))) c4]:=by
     show Value.agg #[_,_,_,_,_,_,Value.slice a4 ((ps.take q ++ qs ++ ps.drop (q + 1)).map (·.1)).length c4] = _
     rw [hLm]
     rfl
    rw [hv] at this
    refine this.mono (fun e w' hr => hr.from hF5 (fun b hb' => ?_))
    simp only [List.mem_append] at hb'
    rcases hb' with (h | h) | h
    ·exact .inl (hiS b h)
    ·rcases ha4 b h with e | e <;> exact .inr (by omega)
    ·rcases hLs b (by simpa only [List.flatMap_append,List.mem_append] using h) with e | e
     ·exact .inl e.1
     ·exact .inr (by omega))
   have HO3':=hid HO3.out
   go_upto_region 16 with fail
   refine wp_wld (fun X => X.heap[w.heap.size]? = some (.cells #[.int .i64 b0,.int .i64 b1,.int .i64 b2,.int .i64 b3,.bool false,.slice ia 0 ic,.slice (some ⟨g,0,none⟩) nk kc] 35 (0,0)) ∧ Hid (X.ownsRow lo 35 7 (.slice (some ⟨g,0,none⟩) nk kc) nk (flK ps)) ∧ Hid (X.ownsRow w.heap.size 35 7 (.slice a3 (q + qs.length) c3) (q + qs.length) (flK (ps.take q) ++ flK qs)) ∧ Hid (KOs lo (n1 + 1) X (ps.take q ++ qs ++ ps.drop (q + 1))) ∧ Hid (X.ownsRow lo 40 5 (.slice ia 0 ic) 0 []) ∧ Hid (Fr S w X)) ⟨gT,HRg,HO3,hid hKW,hid hRJ,hid hF3⟩ ?_
   clear hKW hRJ hF3 hqs3 hkeepW hN2 hLb HG3 HA3 HO3 HO3' HQ2 HFQ HF2 HRO gT gX HRg HO1 HB hK0 hsW2 hWs hlo1 hnA hnT IHQ HYR hql
   rintro W ⟨gT,HRg,HO3,HKW,HRJ,HF3⟩
   have HLD:=hid (show (flK (ps.drop (q + 1))).length = (nk - (q + 1)) * 7 by rw [flK_len,List.length_drop,← HNK.out])
   have hTa3:w.heap.size ∉ hb a3:=fun hc => by have:=(d3 _ hc).2;omega
   have hwq:IntKind.i64.wrap ((q:Int) + 1) = ((q + 1:Nat):Int):=by rw [IntKind.wrap_i64] <;> omega
   have hwq':IntKind.i64.wrap ((q:Int) + 1) = (q:Int) + 1:=by rw [IntKind.wrap_i64] <;> omega
   have hw1:(q:Int) + 1 ≤ (nk:Int):=by omega
   have hw2:(nk:Int) ≤ (kc:Int):=by omega
   have hw3:(0:Int) ≤ (q:Int) + 1:=by omega
   have hw4:q + 1 ≤ nk:=by omega
   have hw5:nk ≤ kc:=hc3
   obtain ⟨_,_,_,_,_,_,a6,_,_,_,_,_,_,_⟩:=cell7k gT
   by_cases hkc:kc = q + 1
   ·have hnq:nk = q + 1:=by omega
    have SRC3:=hid (show SrcA W (some ⟨g,0,none⟩) (nk - (q + 1)) (flK (ps.drop (q + 1))) from .inl ⟨by omega,by rw [List.drop_of_length_le (by rw [← HNK.out];omega)];rfl⟩)
    subst hkc
    subst hnq
    rw [Nat.sub_self] at SRC3 HLD DOWN
    go_wp2_with (at_builtin;refine wpList_app rfl (.tmp 83) (.tmp 88) 33 rfl w.heap.size 35 k0 _ 7 88 Tryz.underlying33 hki0 hkz0 hkz1 hkzz rfl (by decide) a3 (q + qs.length) c3 (flK (ps.take q) ++ flK qs) (by rfl) HO3.out (some ⟨g,0,none⟩) 0 _ (flK (ps.drop (q + 1))) (by rfl) SRC3.out HLD.out (flK_one _) (by unfold maxLen;omega) (by omega) HF3.out.size ?_;intro a4 c4 W4 hown hgrow hat;have gT4:=(app_blk hgrow (lt_of_heap gT) hTa3).trans gT;obtain ⟨_,_,_,_,_,_,b6,_,_,_,_,_,_,e6⟩:=cell7k gT4)
    refine (DOWN.out W a4 c4 W4 HKW.out HRJ.out HF3.out (lt_of_heap gT) hown hgrow hat).mono ?_
    intro e Y hr
    obtain ⟨ra,rc,rps,rfl,hrest⟩:=hr
    go_wp2_with fail
    go_ret
    exact ⟨ra,rc,rps,rfl,hrest⟩
   ·have SRC3:=hid (show SrcA W (some ⟨g,(q + 1) * 7,none⟩) (nk - (q + 1)) (flK (ps.drop (q + 1))) from .inr ⟨_,rfl,fun j u e => by
     rw [Addr.add_mid]
     obtain ⟨g',e1,_,hc⟩:=row_cs HRg.out (by omega)
     cases e1
     have:=hc ((q + 1) * 7 + j) u (by
      rw [show flK (ps.drop (q + 1)) = (flK ps).drop ((q + 1) * 7) from flat_drop ckp_len ps (q + 1),List.getElem?_drop] at e
      exact e)
     rwa [Nat.zero_add] at this⟩)
    go_wp2_with (at_builtin;refine wpList_app rfl (.tmp 83) (.tmp 88) 33 rfl w.heap.size 35 k0 _ 7 88 Tryz.underlying33 hki0 hkz0 hkz1 hkzz rfl (by decide) a3 (q + qs.length) c3 (flK (ps.take q) ++ flK qs) (by rfl) HO3.out (some ⟨g,(q + 1) * 7,none⟩) (nk - (q + 1)) _ (flK (ps.drop (q + 1))) (by rfl) SRC3.out HLD.out (flK_one _) (by unfold maxLen;omega) (by omega) HF3.out.size ?_;intro a4 c4 W4 hown hgrow hat;have gT4:=(app_blk hgrow (lt_of_heap gT) hTa3).trans gT;obtain ⟨_,_,_,_,_,_,b6,_,_,_,_,_,_,e6⟩:=cell7k gT4)
    refine (DOWN.out W a4 c4 W4 HKW.out HRJ.out HF3.out (lt_of_heap gT) hown hgrow hat).mono ?_
    intro e Y hr
    obtain ⟨ra,rc,rps,rfl,hrest⟩:=hr
    go_wp2_with fail
    go_ret
    exact ⟨ra,rc,rps,rfl,hrest⟩
end Go.Proofs.YtjahlofahjgdbaaGreat
