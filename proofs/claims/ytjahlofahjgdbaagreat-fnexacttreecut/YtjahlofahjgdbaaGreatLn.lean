import Derived.Test.YtjahlofahjgdbaaGreatJ28
import Derived.Test.YtjahlofahjgdbaaGreatKx
import Derived.Test.YtjahlofahjgdbaaGreatJ27
set_option maxRecDepth 100000
set_option maxHeartbeats 16000000
set_option linter.unusedSimpArgs false
set_option linter.unusedVariables false
namespace Go.Proofs.YtjahlofahjgdbaaGreat
open Go.RowKit
theorem ksz_cutA {w:World} {m:Nat} {t:KT} {id:Int} {ia ka:Option Addr} {ic kc:Nat} (h:KnL m w ia ic ka kc t) (hz:ksz m t ≤ 1048576):ksz 22 (cutA t id) ≤ 1048576:=by
 unfold cutA
 by_cases hp:cuts t id = true
 ·rw [if_pos hp]
  unfold cuts at hp
  simp only [Bool.and_eq_true] at hp
  exact ksz_tok (tok_cutT id hp.1).1
 ·rw [if_neg hp]
  exact Nat.le_trans (ksz_cpy m 22 20 t _ _ _ _ h) hz
theorem treecut_w (t:KT) (ia:Option Addr) (ic:Nat) (ka:Option Addr) (kc n:Nat) (id:Int) (w:World) (h:KnL n w ia ic ka kc t):Calls Tryz.prog 4 #[kv t ia ic ka kc,.int .i64 id] w fun e w' => e = .returned (.bool true) ∧ Below w.heap.size w w':=by
 have CZ:=hid (fun (W:World) (hb:Below w.heap.size w W) => sz_knot n t ia ic ka kc 1048576 W (h.below hb) (by omega) (by omega))
 have CT:=hid (fun (W:World) (hb:Below w.heap.size w W) (hz:ksz n t ≤ 1048576) => to_knot n t ia ic ka kc W (h.below hb) hz)
 have CS:=hid (fun (W:World) (lo:Nat) (i k:Option Addr) (hk:Kn lo n W i k t) (hz:ksz n t ≤ 1048576) => spec_TreeCut n lo t i k id W hk hz)
 have CI:=hid (fun (W:World) (lo:Nat) (i k:Option Addr) (hk:Kn lo n W i k t) (hz:ksz n t ≤ 1048576) => impl_TreeCut n lo t i k id W hk hz)
 have CE:=hid (fun (W:World) (lo lo':Nat) (i k i' k':Option Addr) (hz:ksz n t ≤ 1048576) (hk:Kn lo n W i k t) (hk':Kn lo' n W i' k' t) => eq_knot lo lo' n t i k i' k' W hz hk hk')
 have CM:=hid (fun (lo:Nat) (i k:Option Addr) (wk W:World) (hk:Kn lo n wk i k t) (hz:ksz n t ≤ 1048576) (hb:Below wk.heap.size wk W) => mark_knot lo n t i k wk W hk hz hb)
 have HKP:=hid (fun (hz:ksz n t ≤ 1048576) => ksz_cutA (id:=id) h hz)
 obtain ⟨b0,b1,b2,b3,b4,ni,nk,hf⟩:=kf t
 rw [kv_of' hf] at CZ CT ⊢
 simp only [kvo_of hf] at CT CS CI CE CM
 have gL:=hid (new_alloc w w.heap.size (.cells #[.int .i64 b0,.int .i64 b1,.int .i64 b2,.int .i64 b3,.bool b4,.slice ia ni ic,.slice ka nk kc] 27) rfl)
 have B0:=hid (balloc (Below.refl w.heap.size w) (.cells #[.int .i64 b0,.int .i64 b1,.int .i64 b2,.int .i64 b3,.bool b4,.slice ia ni ic,.slice ka nk kc] 27))
 clear h hf
 obtain ⟨pa,hpa⟩:∃ pa,pa = cutA t id:=⟨_,rfl⟩
 obtain ⟨pb,hpb⟩:∃ pb,pb = cuts t id:=⟨_,rfl⟩
 rw [← hpa] at CS CI HKP
 rw [← hpb] at CS CI
 clear hpa hpb
 by_cases hz:ksz n t ≤ 1048576
 ·have hkp:=HKP.out hz
  have hle:¬ (szr 1048576 (ksz n t)) < 0:=by unfold szr;split <;> omega
  generalize szr 1048576 (ksz n t) = zz at *
  have EQ:=hid (fun (W:World) (lo lo':Nat) (h1 h2:Hd) (S1 S2:List Nat) (k1:KO lo 22 W h1 S1 pa) (k2:KO lo' 22 W h2 S2 pa) => show Calls Tryz.prog 12 #[kvh pa h1,kvh pa h2] W (fun e w' => e = .returned (.bool true) ∧ Below W.heap.size W w') from eqL_knot 22 22 pa _ _ _ _ _ _ _ _ W hkp k1.knl k2.knl)
  have MG:=hid (fun (lo:Nat) (h1:Hd) (S1:List Nat) (W:World) (k1:KO lo 22 W h1 S1 pa) => markO_knot lo 22 pa h1 S1 W hkp k1)
  have HG:=hid (fun (lo:Nat) (h1:Hd) (S1:List Nat) (W:World) (k1:KO lo 22 W h1 S1 (mkt 22 1 pa)) => show Calls Tryz.prog 14 #[kvh pa h1,.int .i64 1] W (fun e w' => e = .returned (.int .i64 (1 + 5 * (ksz 22 pa:Int))) ∧ Below W.heap.size W w') by
   have:=heldL_knot 22 (mkt 22 1 pa) h1.1 h1.2.2.1 h1.2.1 h1.2.2.2 W (by rw [ksz_mkt];exact hkp) k1.knl (mkt_idem 22 1 pa)
   rw [ksz_mkt,show kv (mkt 22 1 pa) h1.1 h1.2.1 h1.2.2.1 h1.2.2.2 = kvh (mkt 22 1 pa) h1 from rfl,kvh_mkt] at this
   exact this)
  have hmm0:¬ (1 + 5 * (ksz 22 pa:Int)) < 0:=by omega
  have hpp:(pb != pb) = false:=by simp
  clear HKP hkp
  go_enter Tryz.func4,Tryz.ntmps4
  go_wp2_with fail
  generalize w.alloc (.cells #[.int .i64 b0,.int .i64 b1,.int .i64 b2,.int .i64 b3,.bool b4,.slice ia ni ic,.slice ka nk kc] 27) = v0 at *
  refine (CZ.out _ B0.out).mono ?_
  rintro e v1 ⟨rfl,hb1⟩
  replace gL:=hid (keepheap hb1 gL.out)
  replace B0:=hid (btrans B0.out hb1)
  clear hb1 CZ
  obtain ⟨a0,a1,a2,a3,a4,a5,a6,_,_,_,_,_,_,_⟩:=cell7k gL.out
  go_wp2_with fail
  refine (CT.out _ B0.out hz).mono ?_
  rintro e v2 ⟨yi,yk,rfl,hKN,hb2⟩
  replace gL:=hid (keepheap hb2 gL.out)
  replace B0:=hid (btrans B0.out hb2)
  clear hb2 a0 a1 a2 a3 a4 a5 a6
  go_wp2_with fail
  refine (CS.out _ _ _ _ hKN hz).mono ?_
  rintro e v3q ⟨hw,Sw,rfl,hko,hbn⟩
  have hlowf:=hbn.size
  replace gL:=hid (keepheap hbn gL.out)
  replace B0:=hid (btrans B0.out hbn)
  clear hbn
  obtain ⟨f0,f1,f2,f3,f4,fa,fn,fc,fb,fm,fd,hyv,_⟩:=kh (pa,hw,Sw)
  have hyv':ckh pa hw = [.int .i64 f0,.int .i64 f1,.int .i64 f2,.int .i64 f3,.bool f4,.slice fa fn fc,.slice fb fm fd]:=hyv
  have hkf:kvh pa hw = .agg #[.int .i64 f0,.int .i64 f1,.int .i64 f2,.int .i64 f3,.bool f4,.slice fa fn fc,.slice fb fm fd]:=by
   rw [kvh_cells,hyv']
  rw [hkf]
  clear hyv hyv'
  have qf:=heap_alloc_new v3q (.cells #[.int .i64 f0,.int .i64 f1,.int .i64 f2,.int .i64 f3,.bool f4,.slice fa fn fc,.slice fb fm fd] 35)
  have hbA:=balloc (Below.refl v3q.heap.size v3q) (.cells #[.int .i64 f0,.int .i64 f1,.int .i64 f2,.int .i64 f3,.bool f4,.slice fa fn fc,.slice fb fm fd] 35)
  have hnf:v3q.heap.size ∉ Sw:=fun hc => by have:=(hko.lt _ hc).2;omega
  have hK3f:=hid (fun b (hb:b ∈ Sw) => (hko.lt b hb).2)
  replace gL:=hid (keepheap hbA gL.out)
  replace B0:=hid (btrans B0.out hbA)
  have KW:=hid (hko.below hbA)
  clear hbA hko
  have gW:=hid qf
  go_upto_region 6 with fail
  clear hKN qf
  have hzwl:v3q.heap.size < (v3q.alloc (.cells #[.int .i64 f0,.int .i64 f1,.int .i64 f2,.int .i64 f3,.bool f4,.slice fa fn fc,.slice fb fm fd] 35)).heap.size:=by simp
  generalize hv3w:v3q.alloc (.cells #[.int .i64 f0,.int .i64 f1,.int .i64 f2,.int .i64 f3,.bool f4,.slice fa fn fc,.slice fb fm fd] 35) = wc at *
  clear hv3w
  generalize hzw:v3q.heap.size = zw at *
  have hKW3:=hid (fun b (hb:b ∈ Sw) => Nat.lt_trans (hK3f.out b hb) hzwl)
  have hzw3:=hzwl
  have hgL3:=lt_of_heap gL.out
  clear hzw hK3f
  obtain ⟨a0,a1,a2,a3,a4,a5,a6,_,_,_,_,_,_,_⟩:=cell7k gL.out
  go_wp2_with fail
  refine (CT.out _ B0.out hz).mono ?_
  rintro e v4 ⟨xi,xk,rfl,hK4,hb4⟩
  have hlo2:=hb4.size
  replace gL:=hid (keepheap hb4 gL.out)
  replace gW:=hid (keepheap hb4 gW.out)
  replace KW:=hid (KW.out.below hb4)
  replace B0:=hid (btrans B0.out hb4)
  have KX4:=hid hK4
  have hbx:=balloc (Below.refl v4.heap.size v4) (.cells #[.int .i64 b0,.int .i64 b1,.int .i64 b2,.int .i64 b3,.bool b4,.slice xi ni ni,.slice xk nk nk] 35)
  have gX:=hid (new_alloc v4 v4.heap.size (.cells #[.int .i64 b0,.int .i64 b1,.int .i64 b2,.int .i64 b3,.bool b4,.slice xi ni ni,.slice xk nk nk] 35) rfl)
  have KX:=hid (hK4.below hbx)
  have hbx5:=hid hbx
  replace gL:=hid (keepheap hbx gL.out)
  replace gW:=hid (keepheap hbx gW.out)
  replace KW:=hid (KW.out.below hbx)
  replace B0:=hid (btrans B0.out hbx)
  have BX:=hid hbx5.out
  clear hb4 hbx hbx5 hK4 a0 a1 a2 a3 a4 a5 a6
  have hKW4:=hid (fun b (hb:b ∈ Sw) => hKW3.out b hb)
  go_upto_region 7 with fail
  have hv5s:v4.heap.size + 1 = (v4.alloc (.cells #[.int .i64 b0,.int .i64 b1,.int .i64 b2,.int .i64 b3,.bool b4,.slice xi ni ni,.slice xk nk nk] 35)).heap.size:=by simp
  generalize hv5:v4.alloc (.cells #[.int .i64 b0,.int .i64 b1,.int .i64 b2,.int .i64 b3,.bool b4,.slice xi ni ni,.slice xk nk nk] 35) = v5 at *
  clear hv5
  generalize hxb:v4.heap.size = xb at gX ⊢
  obtain ⟨a0,a1,a2,a3,a4,a5,a6,_,_,_,_,_,_,_⟩:=cell7k gX.out
  go_wp2_with fail
  refine (CI.out _ _ _ _ KX.out hz).mono ?_
  rintro e v6q ⟨hg,Sg,rfl,hko,hbn⟩
  have hlowg:=hbn.size
  replace gL:=hid (keepheap hbn gL.out)
  replace gW:=hid (keepheap hbn gW.out)
  replace gX:=hid (keepheap hbn gX.out)
  replace KW:=hid (KW.out.below hbn)
  replace KX:=hid (KX.out.below hbn)
  replace B0:=hid (btrans B0.out hbn)
  replace BX:=hid (BX.out.trans (hbn.mono BX.out.size))
  clear hbn
  obtain ⟨g0,g1,g2,g3,g4,ga,gn,gc,gb,gm,gd,hyv,_⟩:=kh (pa,hg,Sg)
  have hyv':ckh pa hg = [.int .i64 g0,.int .i64 g1,.int .i64 g2,.int .i64 g3,.bool g4,.slice ga gn gc,.slice gb gm gd]:=hyv
  have hkg:kvh pa hg = .agg #[.int .i64 g0,.int .i64 g1,.int .i64 g2,.int .i64 g3,.bool g4,.slice ga gn gc,.slice gb gm gd]:=by
   rw [kvh_cells,hyv']
  rw [hkg]
  clear hyv hyv'
  have qg:=heap_alloc_new v6q (.cells #[.int .i64 g0,.int .i64 g1,.int .i64 g2,.int .i64 g3,.bool g4,.slice ga gn gc,.slice gb gm gd] 35)
  have hbA:=balloc (Below.refl v6q.heap.size v6q) (.cells #[.int .i64 g0,.int .i64 g1,.int .i64 g2,.int .i64 g3,.bool g4,.slice ga gn gc,.slice gb gm gd] 35)
  have hng:v6q.heap.size ∉ Sg:=fun hc => by have:=(hko.lt _ hc).2;omega
  have hK3g:=hid (fun b (hb:b ∈ Sg) => (hko.lt b hb).2)
  replace gL:=hid (keepheap hbA gL.out)
  replace gW:=hid (keepheap hbA gW.out)
  replace gX:=hid (keepheap hbA gX.out)
  replace KW:=hid (KW.out.below hbA)
  replace KX:=hid (KX.out.below hbA)
  replace B0:=hid (btrans B0.out hbA)
  replace BX:=hid (BX.out.trans (hbA.mono BX.out.size))
  have KG:=hid (hko.below hbA)
  clear hbA hko
  have gG:=hid qg
  clear a0 a1 a2 a3 a4 a5 a6
  go_upto_region 8 with fail
  clear qg
  have hzgl:v6q.heap.size < (v6q.alloc (.cells #[.int .i64 g0,.int .i64 g1,.int .i64 g2,.int .i64 g3,.bool g4,.slice ga gn gc,.slice gb gm gd] 35)).heap.size:=by simp
  generalize hv6w:v6q.alloc (.cells #[.int .i64 g0,.int .i64 g1,.int .i64 g2,.int .i64 g3,.bool g4,.slice ga gn gc,.slice gb gm gd] 35) = wg at *
  clear hv6w
  have hzg5:=hlowg
  generalize hzg:v6q.heap.size = zg at *
  have hng:=hng
  clear hzg hK3g
  have EQ1:=hid (fun (W:World) (k1:KO v5.heap.size 22 W hg Sg pa) (k2:KO v2.heap.size 22 W hw Sw pa) => EQ.out W _ _ _ _ _ _ k1 k2)
  have EQ2:=hid (fun (W:World) (lo:Nat) (h1:Hd) (S1:List Nat) (k1:KO lo 22 W h1 S1 pa) (k2:KO v2.heap.size 22 W hw Sw pa) => EQ.out W _ _ _ _ _ _ k1 k2)
  have MG1:=hid (fun (W:World) (k1:KO v5.heap.size 22 W hg Sg pa) => MG.out _ hg Sg W k1)
  have HG1:=hid (fun (W:World) (k1:KO v5.heap.size 22 W hg Sg (mkt 22 1 pa)) => HG.out _ hg Sg W k1)
  rw [hkf,hkg] at EQ1
  rw [hkf] at EQ2
  rw [hkg] at MG1 HG1
  clear hkf hkg EQ MG HG
  obtain ⟨a0,a1,a2,a3,a4,a5,a6,_,_,_,_,_,_,_⟩:=cell7k gG.out
  obtain ⟨d0,d1,d2,d3,d4,d5,d6,_,_,_,_,_,_,_⟩:=cell7k gW.out
  go_wp2_with fail
  refine (EQ1.out _ KG.out KW.out).mono ?_
  rintro e v8 ⟨rfl,hb8⟩
  replace gL:=hid (keepheap hb8 gL.out)
  replace gW:=hid (keepheap hb8 gW.out)
  replace gX:=hid (keepheap hb8 gX.out)
  replace gG:=hid (keepheap hb8 gG.out)
  replace KW:=hid (KW.out.below hb8)
  replace KX:=hid (KX.out.below hb8)
  replace KG:=hid (KG.out.below hb8)
  replace B0:=hid (btrans B0.out hb8)
  replace BX:=hid (BX.out.trans (hb8.mono BX.out.size))
  clear hb8 a0 a1 a2 a3 a4 a5 a6 d0 d1 d2 d3 d4 d5 d6
  go_upto_region 10 with fail
  have BF:=hid (fun (X:World) (hb:Below v8.heap.size v8 X) => btrans B0.out hb)
  obtain ⟨a0,a1,a2,a3,a4,a5,a6,_,_,_,_,_,_,_⟩:=cell7k gX.out
  obtain ⟨l0,l1,l2,l3,l4,l5,l6,_,_,_,_,_,_,_⟩:=cell7k gL.out
  go_region_held3 (fun w' => w'.cell? ⟨w.heap.size,0,none⟩ = some (.int .i64 b0) ∧ w'.cell? ⟨w.heap.size,1,none⟩ = some (.int .i64 b1) ∧ w'.cell? ⟨w.heap.size,2,none⟩ = some (.int .i64 b2) ∧ w'.cell? ⟨w.heap.size,3,none⟩ = some (.int .i64 b3) ∧ w'.cell? ⟨w.heap.size,4,none⟩ = some (.bool b4) ∧ w'.cell? ⟨w.heap.size,5,none⟩ = some (.slice ia ni ic) ∧ w'.cell? ⟨w.heap.size,6,none⟩ = some (.slice ka nk kc) ∧ w'.cell? ⟨xb,0,none⟩ = some (.int .i64 b0) ∧ w'.cell? ⟨xb,1,none⟩ = some (.int .i64 b1) ∧ w'.cell? ⟨xb,2,none⟩ = some (.int .i64 b2) ∧ w'.cell? ⟨xb,3,none⟩ = some (.int .i64 b3) ∧ w'.cell? ⟨xb,4,none⟩ = some (.bool b4) ∧ w'.cell? ⟨xb,5,none⟩ = some (.slice xi ni ni) ∧ w'.cell? ⟨xb,6,none⟩ = some (.slice xk nk nk)) ((go_split_ands;(repeat' apply And.intro) <;> (with_reducible repeat (first | assumption | refine keepdrew ?_ | exact keepcell hv2 (by assumption) | exact keepcell hv1 (by assumption)))))
   (first
    | (go_at_call 9;refine (CT.out _ (BF.out _ (bdrew (Below.refl v8.heap.size v8))) hz).mono ?_;rintro e w1 ⟨yi,yk,rfl,hK1,hb1⟩;have hv1:Below v8.heap.size v8 w1:=btrans (bdrew (Below.refl _ _)) hb1;have KX1:=KX.out.below hv1)
    | (go_at_call 12;refine (CE.out _ _ _ _ _ _ _ hz KX1 hK1).mono ?_;rintro e w2 ⟨rfl,hb2⟩;have hv2:Below v8.heap.size v8 w2:=btrans hv1 hb2))
  replace gL:=hid (keepheap hv2 gL.out)
  replace gW:=hid (keepheap hv2 gW.out)
  replace gX:=hid (keepheap hv2 gX.out)
  replace gG:=hid (keepheap hv2 gG.out)
  replace KW:=hid (KW.out.below hv2)
  replace KX:=hid (KX.out.below hv2)
  replace KG:=hid (KG.out.below hv2)
  replace B0:=hid (btrans B0.out hv2)
  replace BX:=hid (BX.out.trans (hv2.mono BX.out.size))
  clear hb1 hb2 hv1 hv2 KX1 hK1 KX a0 a1 a2 a3 a4 a5 a6 l0 l1 l2 l3 l4 l5 l6 CE BF
  obtain ⟨a0,a1,a2,a3,a4,a5,a6,_,_,_,_,_,_,_⟩:=cell7k gX.out
  go_wp2_with fail
  refine (CM.out _ _ _ _ _ KX4.out hz BX.out).mono ?_
  rintro e v9 ⟨rfl,hM⟩
  have hk0:¬ (1 + 5 * (ksz n t:Int)) < 0:=by omega
  generalize 1 + 5 * (ksz n t:Int) = kk at *
  have hsB:=B0.out.size
  have hKGl:=fun b (hb:b ∈ Sg) => (KG.out.lt b hb)
  have hKWu:=fun b (hb:b ∈ Sw) => hKW4.out b hb
  have hgLl:=lt_of_heap gL.out
  replace gL:=hid (hM.blk gL.out (.inl (by omega)))
  replace gW:=hid (hM.blk gW.out (.inl (by omega)))
  replace gG:=hid (hM.blk gG.out (.inr (by omega)))
  replace KW:=hid (KW.out.keep (fun b hb => hM.out b (KW.out.lt b hb).2 (.inl (by have:=hKWu b hb;omega))))
  replace KG:=hid (KG.out.keep (fun b hb => hM.out b (hKGl b hb).2 (.inr (by have:=(hKGl b hb).1;omega))))
  replace B0:=hid (hM.bel B0.out (by omega) hsB)
  clear hM CM KX4 BX gX a0 a1 a2 a3 a4 a5 a6 hKWu
  obtain ⟨a0,a1,a2,a3,a4,a5,a6,_,_,_,_,_,_,_⟩:=cell7k gG.out
  obtain ⟨d0,d1,d2,d3,d4,d5,d6,_,_,_,_,_,_,_⟩:=cell7k gW.out
  go_wp2_with fail
  refine (EQ1.out _ KG.out KW.out).mono ?_
  rintro e v10 ⟨rfl,hb10⟩
  replace gL:=hid (keepheap hb10 gL.out)
  replace gW:=hid (keepheap hb10 gW.out)
  replace gG:=hid (keepheap hb10 gG.out)
  replace KW:=hid (KW.out.below hb10)
  replace KG:=hid (KG.out.below hb10)
  replace B0:=hid (btrans B0.out hb10)
  clear hb10 a0 a1 a2 a3 a4 a5 a6 d0 d1 d2 d3 d4 d5 d6 EQ1
  obtain ⟨a0,a1,a2,a3,a4,a5,a6,_,_,_,_,_,_,_⟩:=cell7k gG.out
  go_wp2_with fail
  refine (MG1.out _ KG.out).mono ?_
  rintro e v11 ⟨rfl,hKM,hfm⟩
  have hsB10:=B0.out.size
  have hKW10:=fun b (hb:b ∈ Sw) => hKW4.out b hb
  replace gL:=hid ((hfm.blk _ (lt_of_heap gL.out) (fun hc => by have:=(hKGl _ hc).1;omega)).trans gL.out)
  replace gW:=hid ((hfm.blk _ (lt_of_heap gW.out) (fun hc => by have:=(hKGl _ hc).1;omega)).trans gW.out)
  replace gG:=hid ((hfm.blk _ (lt_of_heap gG.out) hng).trans gG.out)
  replace KW:=hid (KW.out.keep (fun b hb => hfm.blk b (KW.out.lt b hb).2 (fun hc => by have:=(hKGl _ hc).1;have:=hKW10 b hb;omega)))
  replace B0:=hid (B0.out.trans (hfm.below hsB10 (fun b hb => by have:=(hKGl _ hb).1;omega)))
  replace KG:=hid hKM
  clear hKM hfm a0 a1 a2 a3 a4 a5 a6 MG1 hKW10
  obtain ⟨a0,a1,a2,a3,a4,a5,a6,_,_,_,_,_,_,_⟩:=cell7k gG.out
  go_wp2_with fail
  refine (HG1.out _ KG.out).mono ?_
  rintro e v12 ⟨rfl,hb12⟩
  generalize hmmv:1 + 5 * (ksz 22 pa:Int) = mm at *
  have HMM:=hid hmmv
  have hqq:(mm != mm) = false:=by simp
  replace gL:=hid (keepheap hb12 gL.out)
  replace gW:=hid (keepheap hb12 gW.out)
  replace gG:=hid (keepheap hb12 gG.out)
  replace KW:=hid (KW.out.below hb12)
  replace KG:=hid (KG.out.below hb12)
  replace B0:=hid (btrans B0.out hb12)
  clear hb12 hmmv a0 a1 a2 a3 a4 a5 a6
  obtain ⟨a0,a1,a2,a3,a4,a5,a6,_,_,_,_,_,_,_⟩:=cell7k gL.out
  go_wp2_with fail
  refine (CT.out _ B0.out hz).mono ?_
  rintro e v13 ⟨yi,yk,rfl,hKN,hb13⟩
  replace gL:=hid (keepheap hb13 gL.out)
  replace gW:=hid (keepheap hb13 gW.out)
  replace gG:=hid (keepheap hb13 gG.out)
  replace KW:=hid (KW.out.below hb13)
  replace KG:=hid (KG.out.below hb13)
  replace B0:=hid (btrans B0.out hb13)
  clear hb13 a0 a1 a2 a3 a4 a5 a6
  go_wp2_with fail
  refine (CI.out _ _ _ _ hKN hz).mono ?_
  rintro e v14q ⟨hh,Sh,rfl,hko,hbn⟩
  have hlowj:=hbn.size
  replace gL:=hid (keepheap hbn gL.out)
  replace gW:=hid (keepheap hbn gW.out)
  replace gG:=hid (keepheap hbn gG.out)
  replace KW:=hid (KW.out.below hbn)
  replace KG:=hid (KG.out.below hbn)
  replace B0:=hid (btrans B0.out hbn)
  clear hbn
  obtain ⟨j0,j1,j2,j3,j4,ja,jn,jc,jb,jm,jd,hyv,_⟩:=kh (pa,hh,Sh)
  have hyv':ckh pa hh = [.int .i64 j0,.int .i64 j1,.int .i64 j2,.int .i64 j3,.bool j4,.slice ja jn jc,.slice jb jm jd]:=hyv
  have hkq:kvh pa hh = .agg #[.int .i64 j0,.int .i64 j1,.int .i64 j2,.int .i64 j3,.bool j4,.slice ja jn jc,.slice jb jm jd]:=by
   rw [kvh_cells,hyv']
  rw [hkq]
  clear hyv hyv'
  have qj:=heap_alloc_new v14q (.cells #[.int .i64 j0,.int .i64 j1,.int .i64 j2,.int .i64 j3,.bool j4,.slice ja jn jc,.slice jb jm jd] 35)
  have hbA:=balloc (Below.refl v14q.heap.size v14q) (.cells #[.int .i64 j0,.int .i64 j1,.int .i64 j2,.int .i64 j3,.bool j4,.slice ja jn jc,.slice jb jm jd] 35)
  have hnj:v14q.heap.size ∉ Sh:=fun hc => by have:=(hko.lt _ hc).2;omega
  have hK3j:=hid (fun b (hb:b ∈ Sh) => (hko.lt b hb).2)
  replace gL:=hid (keepheap hbA gL.out)
  replace gW:=hid (keepheap hbA gW.out)
  replace gG:=hid (keepheap hbA gG.out)
  replace KW:=hid (KW.out.below hbA)
  replace KG:=hid (KG.out.below hbA)
  replace B0:=hid (btrans B0.out hbA)
  have KH:=hid (hko.below hbA)
  clear hbA hko
  have gH:=hid qj
  go_upto_region 25 with fail
  clear qj hKN
  generalize v14q.alloc (.cells #[.int .i64 j0,.int .i64 j1,.int .i64 j2,.int .i64 j3,.bool j4,.slice ja jn jc,.slice jb jm jd] 35) = wh at *
  generalize v14q.heap.size = zh at *
  clear hK3j hnj hlowj
  have EQ3:=hid (EQ2.out _ _ hh Sh KH.out KW.out)
  rw [hkq] at EQ3
  clear hkq EQ2
  obtain ⟨a0,a1,a2,a3,a4,a5,a6,_,_,_,_,_,_,_⟩:=cell7k gH.out
  obtain ⟨d0,d1,d2,d3,d4,d5,d6,_,_,_,_,_,_,_⟩:=cell7k gW.out
  go_wp2_with fail
  refine EQ3.out.mono ?_
  rintro e v14 ⟨rfl,hb14⟩
  replace gL:=hid (keepheap hb14 gL.out)
  replace gW:=hid (keepheap hb14 gW.out)
  replace gG:=hid (keepheap hb14 gG.out)
  replace gH:=hid (keepheap hb14 gH.out)
  replace KW:=hid (KW.out.below hb14)
  replace KG:=hid (KG.out.below hb14)
  replace KH:=hid (KH.out.below hb14)
  replace B0:=hid (btrans B0.out hb14)
  clear hb14 a0 a1 a2 a3 a4 a5 a6 d0 d1 d2 d3 d4 d5 d6 EQ3
  obtain ⟨a0,a1,a2,a3,a4,a5,a6,_,_,_,_,_,_,_⟩:=cell7k gG.out
  go_wp2_with fail
  refine (HG1.out _ KG.out).mono ?_
  rintro e v15 ⟨rfl,hb15⟩
  have BFF:=hid (btrans B0.out hb15)
  clear hb15 a0 a1 a2 a3 a4 a5 a6
  go_wp2_with fail
  go_ret
  exact ⟨rfl,BFF.out⟩
 ·have hle:szr 1048576 (ksz n t) < 0:=by unfold szr;split <;> omega
  generalize szr 1048576 (ksz n t) = zz at *
  go_enter Tryz.func4,Tryz.ntmps4
  go_wp2_with fail
  refine (CZ.out _ B0.out).mono ?_
  rintro e v1 ⟨rfl,hb1⟩
  have BF:=hid (btrans B0.out hb1)
  clear hb1
  go_wp2_with fail
  go_ret
  exact ⟨rfl,BF.out⟩
end Go.Proofs.YtjahlofahjgdbaaGreat
