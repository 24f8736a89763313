import Derived.Test.YtjahlofahjgdbaaGreatKu
import Derived.Test.YtjahlofahjgdbaaGreatKx
import Derived.Test.YtjahlofahjgdbaaGreatJ27
set_option maxRecDepth 100000
set_option maxHeartbeats 16000000
set_option linter.unusedSimpArgs false
set_option linter.unusedVariables false
namespace Go.Proofs.YtjahlofahjgdbaaGreat
open Go.RowKit
theorem sF {v U:World} {zb:Nat} {o0 o1 o2 o3 o4 o5 o6:Value} {t:TypeId} (vs:List Value) (q:U.heap[zb]? = some (.cells #[o0,o1,o2,o3,o4,o5,o6] t (0,0))) (hl:([o0,o1,o2,o3,o4,o5,o6]:List Value).length = vs.length) (hb:Below v.heap.size v U) (hz:v.heap.size ≤ zb):(setL U zb 0 vs).heap[zb]? = some (.cells vs.toArray t (0,0)) ∧ (∀ x,x ≠ zb → (setL U zb 0 vs).heap[x]? = U.heap[x]?) ∧ Below v.heap.size v (setL U zb 0 vs):=
 ⟨setL_new vs q hl,fun x hx => setL_blk vs U zb 0 x (fun e => hx e.symm),setL_below vs v U zb 0 _ hb hz⟩
theorem sS {w:World} {B E:Nat} {v0 v1 v2 v3 v4 v5 v6 e0 e1 e2 e3 e4:Value} {t t':TypeId} (q1:w.heap[B]? = some (.cells #[v0,v1,v2,v3,v4,v5,v6] t (0,0))) (q2:w.heap[E]? = some (.cells #[e0,e1,e2,e3,e4] t' (0,0))):w.cell? ⟨B,0,none⟩ = some v0 ∧ w.cell? ⟨B,1,none⟩ = some v1 ∧ w.cell? ⟨B,2,none⟩ = some v2 ∧ w.cell? ⟨B,3,none⟩ = some v3 ∧ w.cell? ⟨B,4,none⟩ = some v4 ∧ w.cell? ⟨B,5,none⟩ = some v5 ∧ w.cell? ⟨B,6,none⟩ = some v6 ∧ w.cell? ⟨E,0,none⟩ = some e0 ∧ w.cell? ⟨E,1,none⟩ = some e1 ∧ w.cell? ⟨E,2,none⟩ = some e2 ∧ w.cell? ⟨E,3,none⟩ = some e3 ∧ w.cell? ⟨E,4,none⟩ = some e4:=by
 obtain ⟨a0,a1,a2,a3,a4,a5,a6,_,_,_,_,_,_,_⟩:=cell7k q1
 obtain ⟨b0,b1,b2,b3,b4,_,_,_,_,_⟩:=cell5j q2
 exact ⟨a0,a1,a2,a3,a4,a5,a6,b0,b1,b2,b3,b4⟩
theorem ksz_putA {w:World} {m:Nat} {t:KT} {it:It} {ia ka:Option Addr} {ic kc:Nat} (h:KnL m w ia ic ka kc t) (hz:ksz m t ≤ 1048576):ksz 22 (putA t it) ≤ 1048576:=by
 unfold putA
 by_cases hp:puts t it = true
 ·rw [if_pos hp]
  unfold puts at hp
  simp only [Bool.and_eq_true,decide_eq_true_eq,Bool.not_eq_true'] at hp
  obtain ⟨⟨⟨h1,h2⟩,h3⟩,h4⟩:=hp
  refine ksz_tok (tok_putT h1 h2 (fun hc => ?_) h4).1
  rw [List.contains_eq_mem,decide_eq_false_iff_not] at h3
  exact h3 hc
 ·rw [if_neg hp]
  exact Nat.le_trans (ksz_cpy m 22 20 t _ _ _ _ h) hz
theorem treeput_w (t:KT) (ia:Option Addr) (ic:Nat) (ka:Option Addr) (kc n:Nat) (x0 x1 x2 x3 x4:Int) (w:World) (h:KnL n w ia ic ka kc t):Calls Tryz.prog 3 #[kv t ia ic ka kc,.agg #[.int .i64 x0,.int .i64 x1,.int .i64 x2,.int .i64 x3,.int .i64 x4]] w fun e w' => e = .returned (.bool true) ∧ Below w.heap.size w w':=by
 have CZ:=hid (fun (W:World) (hb:Below w.heap.size w W) => sz_knot n t ia ic ka kc 1048576 W (h.below hb) (by omega) (by omega))
 have CT:=hid (fun (W:World) (hb:Below w.heap.size w W) (hz:ksz n t ≤ 1048576) => to_knot n t ia ic ka kc W (h.below hb) hz)
 have CS:=hid (fun (W:World) (lo:Nat) (i k:Option Addr) (hk:Kn lo n W i k t) (hz:ksz n t ≤ 1048576) => spec_TreePut n lo t i k x0 x1 x2 x3 x4 W hk hz)
 have CI:=hid (fun (W:World) (lo:Nat) (i k:Option Addr) (hk:Kn lo n W i k t) (hz:ksz n t ≤ 1048576) => impl_TreePut n lo t i k x0 x1 x2 x3 x4 W hk hz)
 have CE:=hid (fun (W:World) (lo lo':Nat) (i k i' k':Option Addr) (hz:ksz n t ≤ 1048576) (hk:Kn lo n W i k t) (hk':Kn lo' n W i' k' t) => eq_knot lo lo' n t i k i' k' W hz hk hk')
 have CM:=hid (fun (lo:Nat) (i k:Option Addr) (wk W:World) (hk:Kn lo n wk i k t) (hz:ksz n t ≤ 1048576) (hb:Below wk.heap.size wk W) => mark_knot lo n t i k wk W hk hz hb)
 have CX:=hid (fun (W:World) => to_item x0 x1 x2 x3 x4 W)
 have HKP:=hid (fun (hz:ksz n t ≤ 1048576) => ksz_putA (it:=(x0,x1,x2,x3,x4)) h hz)
 obtain ⟨b0,b1,b2,b3,b4,ni,nk,hf⟩:=kf t
 rw [kv_of' hf] at CZ CT ⊢
 simp only [kvo_of hf] at CT CS CI CE CM
 have gL:=hid (old_alloc (o':=(.cells #[.int .i64 x0,.int .i64 x1,.int .i64 x2,.int .i64 x3,.int .i64 x4] 29)) (new_alloc w w.heap.size (.cells #[.int .i64 b0,.int .i64 b1,.int .i64 b2,.int .i64 b3,.bool b4,.slice ia ni ic,.slice ka nk kc] 27) rfl))
 have gE:=hid (new_alloc (w.alloc (.cells #[.int .i64 b0,.int .i64 b1,.int .i64 b2,.int .i64 b3,.bool b4,.slice ia ni ic,.slice ka nk kc] 27)) (w.heap.size + 1) (.cells #[.int .i64 x0,.int .i64 x1,.int .i64 x2,.int .i64 x3,.int .i64 x4] 29) (by simp))
 have B0:=hid (balloc (balloc (Below.refl w.heap.size w) (.cells #[.int .i64 b0,.int .i64 b1,.int .i64 b2,.int .i64 b3,.bool b4,.slice ia ni ic,.slice ka nk kc] 27)) (.cells #[.int .i64 x0,.int .i64 x1,.int .i64 x2,.int .i64 x3,.int .i64 x4] 29))
 clear h hf
 obtain ⟨pa,hpa⟩:∃ pa,pa = putA t (x0,x1,x2,x3,x4):=⟨_,rfl⟩
 obtain ⟨pb,hpb⟩:∃ pb,pb = puts t (x0,x1,x2,x3,x4):=⟨_,rfl⟩
 rw [← hpa] at CS CI HKP
 rw [← hpb] at CS CI
 clear hpa hpb
 by_cases hz:ksz n t ≤ 1048576
 ·have hkp:=HKP.out hz
  have hle:¬ (szr 1048576 (ksz n t)) < 0:=by unfold szr;split <;> omega
  generalize szr 1048576 (ksz n t) = zz at *
  have EQ:=hid (fun (W:World) (lo lo':Nat) (h1 h2:Hd) (S1 S2:List Nat) (k1:KO lo 22 W h1 S1 pa) (k2:KO lo' 22 W h2 S2 pa) => show Calls Tryz.prog 12 #[kvh pa h1,kvh pa h2] W (fun e w' => e = .returned (.bool true) ∧ Below W.heap.size W w') from eqL_knot 22 22 pa _ _ _ _ _ _ _ _ W hkp k1.knl k2.knl)
  have MG:=hid (fun (lo:Nat) (h1:Hd) (S1:List Nat) (W:World) (k1:KO lo 22 W h1 S1 pa) => markO_knot lo 22 pa h1 S1 W hkp k1)
  have HG:=hid (fun (lo:Nat) (h1:Hd) (S1:List Nat) (W:World) (k1:KO lo 22 W h1 S1 (mkt 22 1 pa)) => show Calls Tryz.prog 14 #[kvh pa h1,.int .i64 1] W (fun e w' => e = .returned (.int .i64 (1 + 5 * (ksz 22 pa:Int))) ∧ Below W.heap.size W w') by
   have:=heldL_knot 22 (mkt 22 1 pa) h1.1 h1.2.2.1 h1.2.1 h1.2.2.2 W (by rw [ksz_mkt];exact hkp) k1.knl (mkt_idem 22 1 pa)
   rw [ksz_mkt,show kv (mkt 22 1 pa) h1.1 h1.2.1 h1.2.2.1 h1.2.2.2 = kvh (mkt 22 1 pa) h1 from rfl,kvh_mkt] at this
   exact this)
  have hmm0:¬ (1 + 5 * (ksz 22 pa:Int)) < 0:=by omega
  have hpp:(pb != pb) = false:=by simp
  clear HKP hkp
  go_enter Tryz.func3,Tryz.ntmps3
  go_wp2_with fail
  generalize (w.alloc (.cells #[.int .i64 b0,.int .i64 b1,.int .i64 b2,.int .i64 b3,.bool b4,.slice ia ni ic,.slice ka nk kc] 27)).alloc (.cells #[.int .i64 x0,.int .i64 x1,.int .i64 x2,.int .i64 x3,.int .i64 x4] 29) = v0 at *
  refine (CZ.out _ B0.out).mono ?_
  rintro e v1 ⟨rfl,hb1⟩
  replace gL:=hid (keepheap hb1 gL.out)
  replace gE:=hid (keepheap hb1 gE.out)
  replace B0:=hid (btrans B0.out hb1)
  clear hb1 CZ
  go_upto_region 5 with fail
  go_cut [6,7] (fun ta tb wx => PkS v1 pa pb ta tb wx)
  case first =>
   refine wp_region_held_drew (S:=(fun w' => w'.cell? ⟨w.heap.size,0,none⟩ = some (.int .i64 b0) ∧ w'.cell? ⟨w.heap.size,1,none⟩ = some (.int .i64 b1) ∧ w'.cell? ⟨w.heap.size,2,none⟩ = some (.int .i64 b2) ∧ w'.cell? ⟨w.heap.size,3,none⟩ = some (.int .i64 b3) ∧ w'.cell? ⟨w.heap.size,4,none⟩ = some (.bool b4) ∧ w'.cell? ⟨w.heap.size,5,none⟩ = some (.slice ia ni ic) ∧ w'.cell? ⟨w.heap.size,6,none⟩ = some (.slice ka nk kc) ∧ w'.cell? ⟨w.heap.size + 1,0,none⟩ = some (.int .i64 x0) ∧ w'.cell? ⟨w.heap.size + 1,1,none⟩ = some (.int .i64 x1) ∧ w'.cell? ⟨w.heap.size + 1,2,none⟩ = some (.int .i64 x2) ∧ w'.cell? ⟨w.heap.size + 1,3,none⟩ = some (.int .i64 x3) ∧ w'.cell? ⟨w.heap.size + 1,4,none⟩ = some (.int .i64 x4))) (by kernel_rfl) ?_ (fun hHeld => ?_)
   ·(obtain ⟨a0,a1,a2,a3,a4,a5,a6,_,_,_,_,_,_,_⟩:=cell7k gL.out;obtain ⟨e0,e1,e2,e3,e4,_,_,_,_,_⟩:=cell5j gE.out;exact ⟨keepdrew a0,keepdrew a1,keepdrew a2,keepdrew a3,keepdrew a4,keepdrew a5,keepdrew a6,keepdrew e0,keepdrew e1,keepdrew e2,keepdrew e3,keepdrew e4⟩)
   have hsz0:=lt_of_heap gL.out
   have q1:=gL.out
   have q2:=gE.out
   have hszE:=lt_of_heap gE.out
   have hbz:=bdrew (Below.refl v1.heap.size v1)
   replace q1:=keepheap hbz q1
   replace q2:=keepheap hbz q2
   generalize v1.drew = U0 at *
   refine tkV ?_ 0 rfl (fun _ _ _ h => h) hHeld ?_ ?_
   rotate_left
   ·intro w hSw;(try dsimp only at hSw);go_simp;try (with_reducible rfl)
   try simp only [sq]
   refine tkV ?_ 2 rfl (fun _ _ _ h => h) hHeld ?_ ?_
   rotate_left
   ·intro w hSw;(try dsimp only at hSw);go_simp;try (with_reducible rfl)
   try simp only [sq]
   refine wpAnyH_ready (rs:=[1,8]) (by kernel_rfl) (by simp) ?_
   refine (AllReadyH.cons rfl (fun K hK => ?_) (AllReadyH.cons rfl (fun K hK => ?_) AllReadyH.nil))
   ·skip
    try simp only [sq]
    go_simp
    go_at_call 9
    refine (CT.out _ (btrans B0.out hbz) hz).mono ?_
    rintro e U1 ⟨yi,yk,rfl,HKN,hbn⟩
    replace q1:=keepheap hbn q1
    replace q2:=keepheap hbn q2
    replace hbz:=btrans hbz hbn
    clear hbn
    go_wp2_with fail
    refine hK.out _ _ ?_ (fun hHeld => ?_)
    ·exact sS q1 q2
    clear hK K
    try simp only [sq]
    refine wpAnyH_ready (rs:=[3,8]) (by kernel_rfl) (by simp) ?_
    refine (AllReadyH.cons rfl (fun K hK => ?_) (AllReadyH.cons rfl (fun K hK => ?_) AllReadyH.nil))
    ·skip
     try simp only [sq]
     go_simp
     go_at_call 10
     refine (CX.out _).mono ?_
     rintro e U2 ⟨rfl,hbn⟩
     replace q1:=keepheap hbn q1
     replace q2:=keepheap hbn q2
     replace hbz:=btrans hbz hbn
     replace HKN:=HKN.below hbn
     clear hbn
     go_wp2_with fail
     refine hK.out _ _ ?_ (fun hHeld => ?_)
     ·exact sS q1 q2
     clear hK K
     try simp only [sq]
     refine wpAnyH_ready (rs:=[4,8]) (by kernel_rfl) (by simp) ?_
     refine (AllReadyH.cons rfl (fun K hK => ?_) (AllReadyH.cons rfl (fun K hK => ?_) AllReadyH.nil))
     ·skip
      try simp only [sq]
      go_simp
      go_at_call 8
      refine (CS.out _ _ _ _ HKN hz).mono ?_
      rintro e U3 ⟨hw,Sw,rfl,hko,hbn⟩
      have hlow:=hbz.size
      replace q1:=keepheap hbn q1
      replace q2:=keepheap hbn q2
      replace hbz:=btrans hbz hbn
      replace hko:=KO.lo hlow hko
      have hvw:=kvh_cells pa hw
      obtain ⟨c0,c1,c2,c3,c4,ca,cn,cc,cb,cm,cd,hcv,_⟩:=kh (pa,hw,Sw)
      have hcv':ckh pa hw = [.int .i64 c0,.int .i64 c1,.int .i64 c2,.int .i64 c3,.bool c4,.slice ca cn cc,.slice cb cm cd]:=hcv
      rw [hcv'] at hvw
      have HCV:=hid hcv'
      rw [hvw]
      clear hcv hcv' hvw
      clear hbn
      go_wp2_with fail
      refine hK.out _ _ ?_ (fun hHeld => ?_)
      ·exact sS q1 q2
      clear hK K
      try simp only [sq]
      refine tkV ?_ 5 rfl (fun _ _ _ h => h) hHeld ?_ ?_
      rotate_left
      ·intro w hSw;(try dsimp only at hSw);go_simp;try (with_reducible rfl)
      try simp only [sq]
      refine tkV ?_ 6 rfl (fun _ _ _ h => h) hHeld ?_ ?_
      rotate_left
      ·intro w hSw;(try dsimp only at hSw);go_simp;try (with_reducible rfl)
      try simp only [sq]
      refine tkV ?_ 7 rfl (fun _ _ _ h => h) hHeld ?_ ?_
      rotate_left
      ·intro w hSw;(try dsimp only at hSw);go_simp;try (with_reducible rfl)
      try simp only [sq]
      refine rd1 8 rfl (fun K hK => ?_)
      try simp only [sq]
      go_simp
      have qZ:=heap_alloc_new U3 (.cells #[.int .i64 0,.int .i64 0,.int .i64 0,.int .i64 0,.bool false,.slice none 0 0,.slice none 0 0] 35)
      have hal:=balloc (Below.refl U3.heap.size U3) (.cells #[.int .i64 0,.int .i64 0,.int .i64 0,.int .i64 0,.bool false,.slice none 0 0,.slice none 0 0] 35)
      have hnz:U3.heap.size ∉ Sw:=fun hc => by have:=(hko.lt _ hc).2;omega
      have hzl:=hbz.size
      replace q1:=keepheap hal q1
      replace q2:=keepheap hal q2
      replace hbz:=btrans hbz hal
      replace hko:=hko.below hal
      clear hal
      refine hK.out _ _ ?_ (fun hHeld => ?_)
      ·exact sS q1 q2
      clear hK K
      try simp only [sq]
      generalize U3.alloc (.cells #[.int .i64 0,.int .i64 0,.int .i64 0,.int .i64 0,.bool false,.slice none 0 0,.slice none 0 0] 35) = U4 at *
      generalize U3.heap.size = zb at *
      refine rd1 9 rfl (fun K hK => ?_)
      have hq1:=lt_of_heap q1
      obtain ⟨r0,r1,r2,r3,r4,r5,r6,s0,s1,s2,s3,s4,s5,s6⟩:=cell7k qZ
      try simp only [sq]
      obtain ⟨hF,hO,hBB⟩:=sF [.int .i64 c0,.int .i64 c1,.int .i64 c2,.int .i64 c3,.bool c4,.slice ca cn cc,.slice cb cm cd] qZ rfl hbz hzl
      simp only [setL,Nat.zero_add,Nat.reduceAdd] at hF hO hBB
      replace q1:=(hO _ (by omega)).trans q1
      replace q2:=(hO _ (by omega)).trans q2
      replace hko:=hko.keep (fun b hb' => hO b (fun e => hnz (e ▸ hb')))
      go_simp
      refine hK.out _ _ ?_ (fun hHeld => ?_)
      ·exact sS q1 q2
      clear hK K r0 r1 r2 r3 r4 r5 r6 s0 s1 s2 s3 s4 s5 s6
      try simp only [sq]
      generalize (((((((U4.setCell ⟨zb,0,none⟩ (.int .i64 c0)).setCell ⟨zb,1,none⟩ (.int .i64 c1)).setCell ⟨zb,2,none⟩ (.int .i64 c2)).setCell ⟨zb,3,none⟩ (.int .i64 c3)).setCell ⟨zb,4,none⟩ (.bool c4)).setCell ⟨zb,5,none⟩ (.slice ca cn cc)).setCell ⟨zb,6,none⟩ (.slice cb cm cd)) = U5 at *
      refine tkV ?_ 10 rfl (fun _ _ _ h => h) hHeld ?_ ?_
      rotate_left
      ·intro w hSw;(try dsimp only at hSw);go_simp;try (with_reducible rfl)
      try simp only [sq]
      refine wpAnyH_done (by kernel_rfl) ?_ _
      go_wp2_with fail
      go_meet
      exact ⟨zb,hw,Sw,rfl,rfl,by rw [HCV.out];exact hF,hko,hnz,hzl,hBB⟩
     ·skip
      try simp only [sq]
      go_simp
      have qZ:=heap_alloc_new U2 (.cells #[.int .i64 0,.int .i64 0,.int .i64 0,.int .i64 0,.bool false,.slice none 0 0,.slice none 0 0] 35)
      have hal:=balloc (Below.refl U2.heap.size U2) (.cells #[.int .i64 0,.int .i64 0,.int .i64 0,.int .i64 0,.bool false,.slice none 0 0,.slice none 0 0] 35)
      have hzl:=hbz.size
      replace q1:=keepheap hal q1
      replace q2:=keepheap hal q2
      replace hbz:=btrans hbz hal
      replace HKN:=HKN.below hal
      clear hal
      refine hK.out _ _ ?_ (fun hHeld => ?_)
      ·exact sS q1 q2
      clear hK K
      try simp only [sq]
      generalize U2.alloc (.cells #[.int .i64 0,.int .i64 0,.int .i64 0,.int .i64 0,.bool false,.slice none 0 0,.slice none 0 0] 35) = U3 at *
      generalize U2.heap.size = zb at *
      refine rd1 4 rfl (fun K hK => ?_)
      try simp only [sq]
      go_simp
      go_at_call 8
      refine (CS.out _ _ _ _ HKN hz).mono ?_
      rintro e U4 ⟨hw,Sw,rfl,hko,hbn⟩
      have hlow:=hbz.size
      have hza:=lt_of_heap qZ
      have hnz:zb ∉ Sw:=fun hc => by have:=(hko.lt _ hc).1;omega
      replace q1:=keepheap hbn q1
      replace q2:=keepheap hbn q2
      replace hbz:=btrans hbz hbn
      replace qZ:=keepheap hbn qZ
      replace hko:=KO.lo hlow hko
      have hvw:=kvh_cells pa hw
      obtain ⟨c0,c1,c2,c3,c4,ca,cn,cc,cb,cm,cd,hcv,_⟩:=kh (pa,hw,Sw)
      have hcv':ckh pa hw = [.int .i64 c0,.int .i64 c1,.int .i64 c2,.int .i64 c3,.bool c4,.slice ca cn cc,.slice cb cm cd]:=hcv
      rw [hcv'] at hvw
      have HCV:=hid hcv'
      rw [hvw]
      clear hcv hcv' hvw
      clear hbn
      go_wp2_with fail
      refine hK.out _ _ ?_ (fun hHeld => ?_)
      ·exact sS q1 q2
      clear hK K
      try simp only [sq]
      refine tkV ?_ 5 rfl (fun _ _ _ h => h) hHeld ?_ ?_
      rotate_left
      ·intro w hSw;(try dsimp only at hSw);go_simp;try (with_reducible rfl)
      try simp only [sq]
      refine tkV ?_ 6 rfl (fun _ _ _ h => h) hHeld ?_ ?_
      rotate_left
      ·intro w hSw;(try dsimp only at hSw);go_simp;try (with_reducible rfl)
      try simp only [sq]
      refine tkV ?_ 7 rfl (fun _ _ _ h => h) hHeld ?_ ?_
      rotate_left
      ·intro w hSw;(try dsimp only at hSw);go_simp;try (with_reducible rfl)
      try simp only [sq]
      refine rd1 9 rfl (fun K hK => ?_)
      have hq1:=lt_of_heap q1
      obtain ⟨r0,r1,r2,r3,r4,r5,r6,s0,s1,s2,s3,s4,s5,s6⟩:=cell7k qZ
      try simp only [sq]
      obtain ⟨hF,hO,hBB⟩:=sF [.int .i64 c0,.int .i64 c1,.int .i64 c2,.int .i64 c3,.bool c4,.slice ca cn cc,.slice cb cm cd] qZ rfl hbz hzl
      simp only [setL,Nat.zero_add,Nat.reduceAdd] at hF hO hBB
      replace q1:=(hO _ (by omega)).trans q1
      replace q2:=(hO _ (by omega)).trans q2
      replace hko:=hko.keep (fun b hb' => hO b (fun e => hnz (e ▸ hb')))
      go_simp
      refine hK.out _ _ ?_ (fun hHeld => ?_)
      ·exact sS q1 q2
      clear hK K r0 r1 r2 r3 r4 r5 r6 s0 s1 s2 s3 s4 s5 s6
      try simp only [sq]
      generalize (((((((U4.setCell ⟨zb,0,none⟩ (.int .i64 c0)).setCell ⟨zb,1,none⟩ (.int .i64 c1)).setCell ⟨zb,2,none⟩ (.int .i64 c2)).setCell ⟨zb,3,none⟩ (.int .i64 c3)).setCell ⟨zb,4,none⟩ (.bool c4)).setCell ⟨zb,5,none⟩ (.slice ca cn cc)).setCell ⟨zb,6,none⟩ (.slice cb cm cd)) = U5 at *
      refine tkV ?_ 10 rfl (fun _ _ _ h => h) hHeld ?_ ?_
      rotate_left
      ·intro w hSw;(try dsimp only at hSw);go_simp;try (with_reducible rfl)
      try simp only [sq]
      refine wpAnyH_done (by kernel_rfl) ?_ _
      go_wp2_with fail
      go_meet
      exact ⟨zb,hw,Sw,rfl,rfl,by rw [HCV.out];exact hF,hko,hnz,hzl,hBB⟩
    ·skip
     try simp only [sq]
     go_simp
     have qZ:=heap_alloc_new U1 (.cells #[.int .i64 0,.int .i64 0,.int .i64 0,.int .i64 0,.bool false,.slice none 0 0,.slice none 0 0] 35)
     have hal:=balloc (Below.refl U1.heap.size U1) (.cells #[.int .i64 0,.int .i64 0,.int .i64 0,.int .i64 0,.bool false,.slice none 0 0,.slice none 0 0] 35)
     have hzl:=hbz.size
     replace q1:=keepheap hal q1
     replace q2:=keepheap hal q2
     replace hbz:=btrans hbz hal
     replace HKN:=HKN.below hal
     clear hal
     refine hK.out _ _ ?_ (fun hHeld => ?_)
     ·exact sS q1 q2
     clear hK K
     try simp only [sq]
     generalize U1.alloc (.cells #[.int .i64 0,.int .i64 0,.int .i64 0,.int .i64 0,.bool false,.slice none 0 0,.slice none 0 0] 35) = U2 at *
     generalize U1.heap.size = zb at *
     refine rd1 3 rfl (fun K hK => ?_)
     try simp only [sq]
     go_simp
     go_at_call 10
     refine (CX.out _).mono ?_
     rintro e U3 ⟨rfl,hbn⟩
     replace q1:=keepheap hbn q1
     replace q2:=keepheap hbn q2
     replace hbz:=btrans hbz hbn
     replace HKN:=HKN.below hbn
     replace qZ:=keepheap hbn qZ
     clear hbn
     go_wp2_with fail
     refine hK.out _ _ ?_ (fun hHeld => ?_)
     ·exact sS q1 q2
     clear hK K
     try simp only [sq]
     refine rd1 4 rfl (fun K hK => ?_)
     try simp only [sq]
     go_simp
     go_at_call 8
     refine (CS.out _ _ _ _ HKN hz).mono ?_
     rintro e U4 ⟨hw,Sw,rfl,hko,hbn⟩
     have hlow:=hbz.size
     have hza:=lt_of_heap qZ
     have hnz:zb ∉ Sw:=fun hc => by have:=(hko.lt _ hc).1;omega
     replace q1:=keepheap hbn q1
     replace q2:=keepheap hbn q2
     replace hbz:=btrans hbz hbn
     replace qZ:=keepheap hbn qZ
     replace hko:=KO.lo hlow hko
     have hvw:=kvh_cells pa hw
     obtain ⟨c0,c1,c2,c3,c4,ca,cn,cc,cb,cm,cd,hcv,_⟩:=kh (pa,hw,Sw)
     have hcv':ckh pa hw = [.int .i64 c0,.int .i64 c1,.int .i64 c2,.int .i64 c3,.bool c4,.slice ca cn cc,.slice cb cm cd]:=hcv
     rw [hcv'] at hvw
     have HCV:=hid hcv'
     rw [hvw]
     clear hcv hcv' hvw
     clear hbn
     go_wp2_with fail
     refine hK.out _ _ ?_ (fun hHeld => ?_)
     ·exact sS q1 q2
     clear hK K
     try simp only [sq]
     refine tkV ?_ 5 rfl (fun _ _ _ h => h) hHeld ?_ ?_
     rotate_left
     ·intro w hSw;(try dsimp only at hSw);go_simp;try (with_reducible rfl)
     try simp only [sq]
     refine tkV ?_ 6 rfl (fun _ _ _ h => h) hHeld ?_ ?_
     rotate_left
     ·intro w hSw;(try dsimp only at hSw);go_simp;try (with_reducible rfl)
     try simp only [sq]
     refine tkV ?_ 7 rfl (fun _ _ _ h => h) hHeld ?_ ?_
     rotate_left
     ·intro w hSw;(try dsimp only at hSw);go_simp;try (with_reducible rfl)
     try simp only [sq]
     refine rd1 9 rfl (fun K hK => ?_)
     have hq1:=lt_of_heap q1
     obtain ⟨r0,r1,r2,r3,r4,r5,r6,s0,s1,s2,s3,s4,s5,s6⟩:=cell7k qZ
     try simp only [sq]
     obtain ⟨hF,hO,hBB⟩:=sF [.int .i64 c0,.int .i64 c1,.int .i64 c2,.int .i64 c3,.bool c4,.slice ca cn cc,.slice cb cm cd] qZ rfl hbz hzl
     simp only [setL,Nat.zero_add,Nat.reduceAdd] at hF hO hBB
     replace q1:=(hO _ (by omega)).trans q1
     replace q2:=(hO _ (by omega)).trans q2
     replace hko:=hko.keep (fun b hb' => hO b (fun e => hnz (e ▸ hb')))
     go_simp
     refine hK.out _ _ ?_ (fun hHeld => ?_)
     ·exact sS q1 q2
     clear hK K r0 r1 r2 r3 r4 r5 r6 s0 s1 s2 s3 s4 s5 s6
     try simp only [sq]
     generalize (((((((U4.setCell ⟨zb,0,none⟩ (.int .i64 c0)).setCell ⟨zb,1,none⟩ (.int .i64 c1)).setCell ⟨zb,2,none⟩ (.int .i64 c2)).setCell ⟨zb,3,none⟩ (.int .i64 c3)).setCell ⟨zb,4,none⟩ (.bool c4)).setCell ⟨zb,5,none⟩ (.slice ca cn cc)).setCell ⟨zb,6,none⟩ (.slice cb cm cd)) = U5 at *
     refine tkV ?_ 10 rfl (fun _ _ _ h => h) hHeld ?_ ?_
     rotate_left
     ·intro w hSw;(try dsimp only at hSw);go_simp;try (with_reducible rfl)
     try simp only [sq]
     refine wpAnyH_done (by kernel_rfl) ?_ _
     go_wp2_with fail
     go_meet
     exact ⟨zb,hw,Sw,rfl,rfl,by rw [HCV.out];exact hF,hko,hnz,hzl,hBB⟩
   ·skip
    try simp only [sq]
    go_simp
    have qZ:=heap_alloc_new U0 (.cells #[.int .i64 0,.int .i64 0,.int .i64 0,.int .i64 0,.bool false,.slice none 0 0,.slice none 0 0] 35)
    have hal:=balloc (Below.refl U0.heap.size U0) (.cells #[.int .i64 0,.int .i64 0,.int .i64 0,.int .i64 0,.bool false,.slice none 0 0,.slice none 0 0] 35)
    have hzl:=hbz.size
    replace q1:=keepheap hal q1
    replace q2:=keepheap hal q2
    replace hbz:=btrans hbz hal
    clear hal
    refine hK.out _ _ ?_ (fun hHeld => ?_)
    ·exact sS q1 q2
    clear hK K
    try simp only [sq]
    generalize U0.alloc (.cells #[.int .i64 0,.int .i64 0,.int .i64 0,.int .i64 0,.bool false,.slice none 0 0,.slice none 0 0] 35) = U1 at *
    generalize U0.heap.size = zb at *
    refine rd1 1 rfl (fun K hK => ?_)
    try simp only [sq]
    go_simp
    go_at_call 9
    refine (CT.out _ (btrans B0.out hbz) hz).mono ?_
    rintro e U2 ⟨yi,yk,rfl,HKN,hbn⟩
    replace q1:=keepheap hbn q1
    replace q2:=keepheap hbn q2
    replace hbz:=btrans hbz hbn
    replace qZ:=keepheap hbn qZ
    clear hbn
    go_wp2_with fail
    refine hK.out _ _ ?_ (fun hHeld => ?_)
    ·exact sS q1 q2
    clear hK K
    try simp only [sq]
    refine rd1 3 rfl (fun K hK => ?_)
    try simp only [sq]
    go_simp
    go_at_call 10
    refine (CX.out _).mono ?_
    rintro e U3 ⟨rfl,hbn⟩
    replace q1:=keepheap hbn q1
    replace q2:=keepheap hbn q2
    replace hbz:=btrans hbz hbn
    replace HKN:=HKN.below hbn
    replace qZ:=keepheap hbn qZ
    clear hbn
    go_wp2_with fail
    refine hK.out _ _ ?_ (fun hHeld => ?_)
    ·exact sS q1 q2
    clear hK K
    try simp only [sq]
    refine rd1 4 rfl (fun K hK => ?_)
    try simp only [sq]
    go_simp
    go_at_call 8
    refine (CS.out _ _ _ _ HKN hz).mono ?_
    rintro e U4 ⟨hw,Sw,rfl,hko,hbn⟩
    have hlow:=hbz.size
    have hza:=lt_of_heap qZ
    have hnz:zb ∉ Sw:=fun hc => by have:=(hko.lt _ hc).1;omega
    replace q1:=keepheap hbn q1
    replace q2:=keepheap hbn q2
    replace hbz:=btrans hbz hbn
    replace qZ:=keepheap hbn qZ
    replace hko:=KO.lo hlow hko
    have hvw:=kvh_cells pa hw
    obtain ⟨c0,c1,c2,c3,c4,ca,cn,cc,cb,cm,cd,hcv,_⟩:=kh (pa,hw,Sw)
    have hcv':ckh pa hw = [.int .i64 c0,.int .i64 c1,.int .i64 c2,.int .i64 c3,.bool c4,.slice ca cn cc,.slice cb cm cd]:=hcv
    rw [hcv'] at hvw
    have HCV:=hid hcv'
    rw [hvw]
    clear hcv hcv' hvw
    clear hbn
    go_wp2_with fail
    refine hK.out _ _ ?_ (fun hHeld => ?_)
    ·exact sS q1 q2
    clear hK K
    try simp only [sq]
    refine tkV ?_ 5 rfl (fun _ _ _ h => h) hHeld ?_ ?_
    rotate_left
    ·intro w hSw;(try dsimp only at hSw);go_simp;try (with_reducible rfl)
    try simp only [sq]
    refine tkV ?_ 6 rfl (fun _ _ _ h => h) hHeld ?_ ?_
    rotate_left
    ·intro w hSw;(try dsimp only at hSw);go_simp;try (with_reducible rfl)
    try simp only [sq]
    refine tkV ?_ 7 rfl (fun _ _ _ h => h) hHeld ?_ ?_
    rotate_left
    ·intro w hSw;(try dsimp only at hSw);go_simp;try (with_reducible rfl)
    try simp only [sq]
    refine rd1 9 rfl (fun K hK => ?_)
    have hq1:=lt_of_heap q1
    obtain ⟨r0,r1,r2,r3,r4,r5,r6,s0,s1,s2,s3,s4,s5,s6⟩:=cell7k qZ
    try simp only [sq]
    obtain ⟨hF,hO,hBB⟩:=sF [.int .i64 c0,.int .i64 c1,.int .i64 c2,.int .i64 c3,.bool c4,.slice ca cn cc,.slice cb cm cd] qZ rfl hbz hzl
    simp only [setL,Nat.zero_add,Nat.reduceAdd] at hF hO hBB
    replace q1:=(hO _ (by omega)).trans q1
    replace q2:=(hO _ (by omega)).trans q2
    replace hko:=hko.keep (fun b hb' => hO b (fun e => hnz (e ▸ hb')))
    go_simp
    refine hK.out _ _ ?_ (fun hHeld => ?_)
    ·exact sS q1 q2
    clear hK K r0 r1 r2 r3 r4 r5 r6 s0 s1 s2 s3 s4 s5 s6
    try simp only [sq]
    generalize (((((((U4.setCell ⟨zb,0,none⟩ (.int .i64 c0)).setCell ⟨zb,1,none⟩ (.int .i64 c1)).setCell ⟨zb,2,none⟩ (.int .i64 c2)).setCell ⟨zb,3,none⟩ (.int .i64 c3)).setCell ⟨zb,4,none⟩ (.bool c4)).setCell ⟨zb,5,none⟩ (.slice ca cn cc)).setCell ⟨zb,6,none⟩ (.slice cb cm cd)) = U5 at *
    refine tkV ?_ 10 rfl (fun _ _ _ h => h) hHeld ?_ ?_
    rotate_left
    ·intro w hSw;(try dsimp only at hSw);go_simp;try (with_reducible rfl)
    try simp only [sq]
    refine wpAnyH_done (by kernel_rfl) ?_ _
    go_wp2_with fail
    go_meet
    exact ⟨zb,hw,Sw,rfl,rfl,by rw [HCV.out];exact hF,hko,hnz,hzl,hBB⟩
  case rest =>
   obtain ⟨zw,hw,Sw,rfl,rfl,qW,kW,hnw,hlw,hc⟩:=hcut
   have hv1s:=hc.size
   have gW:=hid qW
   have hKW3:=hid (fun b (hb:b ∈ Sw) => (kW.lt b hb).2)
   have hzw3:=lt_of_heap qW
   have KW:=hid kW
   replace gL:=hid (keepheap hc gL.out)
   replace gE:=hid (keepheap hc gE.out)
   replace B0:=hid (btrans B0.out hc)
   have hgL3:=lt_of_heap gL.out
   have hgE3:=lt_of_heap gE.out
   clear hc qW kW
   obtain ⟨a0,a1,a2,a3,a4,a5,a6,_,_,_,_,_,_,_⟩:=cell7k gL.out
   go_wp2_with fail
   refine (CT.out _ B0.out hz).mono ?_
   rintro e v4 ⟨xi,xk,rfl,hK4,hb4⟩
   have hlo2:=hb4.size
   replace gL:=hid (keepheap hb4 gL.out)
   replace gE:=hid (keepheap hb4 gE.out)
   replace gW:=hid (keepheap hb4 gW.out)
   replace KW:=hid (KW.out.below hb4)
   replace B0:=hid (btrans B0.out hb4)
   have KX4:=hid hK4
   have hbx:=balloc (Below.refl v4.heap.size v4) (.cells #[.int .i64 b0,.int .i64 b1,.int .i64 b2,.int .i64 b3,.bool b4,.slice xi ni ni,.slice xk nk nk] 35)
   have gX:=hid (new_alloc v4 v4.heap.size (.cells #[.int .i64 b0,.int .i64 b1,.int .i64 b2,.int .i64 b3,.bool b4,.slice xi ni ni,.slice xk nk nk] 35) rfl)
   have KX:=hid (hK4.below hbx)
   have hbx5:=hid hbx
   replace gL:=hid (keepheap hbx gL.out)
   replace gE:=hid (keepheap hbx gE.out)
   replace gW:=hid (keepheap hbx gW.out)
   replace KW:=hid (KW.out.below hbx)
   replace B0:=hid (btrans B0.out hbx)
   have BX:=hid hbx5.out
   clear hb4 hbx hbx5 hK4 a0 a1 a2 a3 a4 a5 a6
   have hKW4:=hid (fun b (hb:b ∈ Sw) => hKW3.out b hb)
   go_upto_region 7 with fail
   have hv5s:v4.heap.size + 1 = (v4.alloc (.cells #[.int .i64 b0,.int .i64 b1,.int .i64 b2,.int .i64 b3,.bool b4,.slice xi ni ni,.slice xk nk nk] 35)).heap.size:=by simp
   generalize hv5:v4.alloc (.cells #[.int .i64 b0,.int .i64 b1,.int .i64 b2,.int .i64 b3,.bool b4,.slice xi ni ni,.slice xk nk nk] 35) = v5 at *
   clear hv5
   generalize hxb:v4.heap.size = xb at gX ⊢
   go_cut [9,10] (fun ta tb wx => PkS v5 pa pb ta tb wx)
   case first =>
    refine wp_region_held_drew (S:=(fun w' => w'.cell? ⟨xb,0,none⟩ = some (.int .i64 b0) ∧ w'.cell? ⟨xb,1,none⟩ = some (.int .i64 b1) ∧ w'.cell? ⟨xb,2,none⟩ = some (.int .i64 b2) ∧ w'.cell? ⟨xb,3,none⟩ = some (.int .i64 b3) ∧ w'.cell? ⟨xb,4,none⟩ = some (.bool b4) ∧ w'.cell? ⟨xb,5,none⟩ = some (.slice xi ni ni) ∧ w'.cell? ⟨xb,6,none⟩ = some (.slice xk nk nk) ∧ w'.cell? ⟨w.heap.size + 1,0,none⟩ = some (.int .i64 x0) ∧ w'.cell? ⟨w.heap.size + 1,1,none⟩ = some (.int .i64 x1) ∧ w'.cell? ⟨w.heap.size + 1,2,none⟩ = some (.int .i64 x2) ∧ w'.cell? ⟨w.heap.size + 1,3,none⟩ = some (.int .i64 x3) ∧ w'.cell? ⟨w.heap.size + 1,4,none⟩ = some (.int .i64 x4))) (by kernel_rfl) ?_ (fun hHeld => ?_)
    ·(obtain ⟨a0,a1,a2,a3,a4,a5,a6,_,_,_,_,_,_,_⟩:=cell7k gX.out;obtain ⟨e0,e1,e2,e3,e4,_,_,_,_,_⟩:=cell5j gE.out;exact ⟨keepdrew a0,keepdrew a1,keepdrew a2,keepdrew a3,keepdrew a4,keepdrew a5,keepdrew a6,keepdrew e0,keepdrew e1,keepdrew e2,keepdrew e3,keepdrew e4⟩)
    have hsz0:=lt_of_heap gX.out
    have q1:=gX.out
    have q2:=gE.out
    have hszE:=lt_of_heap gE.out
    have hbz:=bdrew (Below.refl v5.heap.size v5)
    replace q1:=keepheap hbz q1
    replace q2:=keepheap hbz q2
    generalize v5.drew = U0 at *
    refine tkV ?_ 0 rfl (fun _ _ _ h => h) hHeld ?_ ?_
    rotate_left
    ·intro w hSw;(try dsimp only at hSw);go_simp;try (with_reducible rfl)
    try simp only [sq]
    refine tkV ?_ 1 rfl (fun _ _ _ h => h) hHeld ?_ ?_
    rotate_left
    ·intro w hSw;(try dsimp only at hSw);go_simp;try (with_reducible rfl)
    try simp only [sq]
    refine wpAnyH_ready (rs:=[2,7]) (by kernel_rfl) (by simp) ?_
    refine (AllReadyH.cons rfl (fun K hK => ?_) (AllReadyH.cons rfl (fun K hK => ?_) AllReadyH.nil))
    ·skip
     try simp only [sq]
     go_simp
     go_at_call 10
     refine (CX.out _).mono ?_
     rintro e U1 ⟨rfl,hbn⟩
     replace q1:=keepheap hbn q1
     replace q2:=keepheap hbn q2
     replace hbz:=btrans hbz hbn
     clear hbn
     go_wp2_with fail
     refine hK.out _ _ ?_ (fun hHeld => ?_)
     ·exact sS q1 q2
     clear hK K
     try simp only [sq]
     refine wpAnyH_ready (rs:=[3,7]) (by kernel_rfl) (by simp) ?_
     refine (AllReadyH.cons rfl (fun K hK => ?_) (AllReadyH.cons rfl (fun K hK => ?_) AllReadyH.nil))
     ·skip
      try simp only [sq]
      go_simp
      go_at_call 11
      refine (CI.out _ _ _ _ (KX.out.below hbz) hz).mono ?_
      rintro e U2 ⟨hw,Sw,rfl,hko,hbn⟩
      have hlow:=hbz.size
      replace q1:=keepheap hbn q1
      replace q2:=keepheap hbn q2
      replace hbz:=btrans hbz hbn
      replace hko:=KO.lo hlow hko
      have hvw:=kvh_cells pa hw
      obtain ⟨c0,c1,c2,c3,c4,ca,cn,cc,cb,cm,cd,hcv,_⟩:=kh (pa,hw,Sw)
      have hcv':ckh pa hw = [.int .i64 c0,.int .i64 c1,.int .i64 c2,.int .i64 c3,.bool c4,.slice ca cn cc,.slice cb cm cd]:=hcv
      rw [hcv'] at hvw
      have HCV:=hid hcv'
      rw [hvw]
      clear hcv hcv' hvw
      clear hbn
      go_wp2_with fail
      refine hK.out _ _ ?_ (fun hHeld => ?_)
      ·exact sS q1 q2
      clear hK K
      try simp only [sq]
      refine tkV ?_ 4 rfl (fun _ _ _ h => h) hHeld ?_ ?_
      rotate_left
      ·intro w hSw;(try dsimp only at hSw);go_simp;try (with_reducible rfl)
      try simp only [sq]
      refine tkV ?_ 5 rfl (fun _ _ _ h => h) hHeld ?_ ?_
      rotate_left
      ·intro w hSw;(try dsimp only at hSw);go_simp;try (with_reducible rfl)
      try simp only [sq]
      refine tkV ?_ 6 rfl (fun _ _ _ h => h) hHeld ?_ ?_
      rotate_left
      ·intro w hSw;(try dsimp only at hSw);go_simp;try (with_reducible rfl)
      try simp only [sq]
      refine rd1 7 rfl (fun K hK => ?_)
      try simp only [sq]
      go_simp
      have qZ:=heap_alloc_new U2 (.cells #[.int .i64 0,.int .i64 0,.int .i64 0,.int .i64 0,.bool false,.slice none 0 0,.slice none 0 0] 35)
      have hal:=balloc (Below.refl U2.heap.size U2) (.cells #[.int .i64 0,.int .i64 0,.int .i64 0,.int .i64 0,.bool false,.slice none 0 0,.slice none 0 0] 35)
      have hnz:U2.heap.size ∉ Sw:=fun hc => by have:=(hko.lt _ hc).2;omega
      have hzl:=hbz.size
      replace q1:=keepheap hal q1
      replace q2:=keepheap hal q2
      replace hbz:=btrans hbz hal
      replace hko:=hko.below hal
      clear hal
      refine hK.out _ _ ?_ (fun hHeld => ?_)
      ·exact sS q1 q2
      clear hK K
      try simp only [sq]
      generalize U2.alloc (.cells #[.int .i64 0,.int .i64 0,.int .i64 0,.int .i64 0,.bool false,.slice none 0 0,.slice none 0 0] 35) = U3 at *
      generalize U2.heap.size = zb at *
      refine rd1 8 rfl (fun K hK => ?_)
      have hq1:=lt_of_heap q1
      obtain ⟨r0,r1,r2,r3,r4,r5,r6,s0,s1,s2,s3,s4,s5,s6⟩:=cell7k qZ
      try simp only [sq]
      obtain ⟨hF,hO,hBB⟩:=sF [.int .i64 c0,.int .i64 c1,.int .i64 c2,.int .i64 c3,.bool c4,.slice ca cn cc,.slice cb cm cd] qZ rfl hbz hzl
      simp only [setL,Nat.zero_add,Nat.reduceAdd] at hF hO hBB
      replace q1:=(hO _ (by omega)).trans q1
      replace q2:=(hO _ (by omega)).trans q2
      replace hko:=hko.keep (fun b hb' => hO b (fun e => hnz (e ▸ hb')))
      go_simp
      refine hK.out _ _ ?_ (fun hHeld => ?_)
      ·exact sS q1 q2
      clear hK K r0 r1 r2 r3 r4 r5 r6 s0 s1 s2 s3 s4 s5 s6
      try simp only [sq]
      generalize (((((((U3.setCell ⟨zb,0,none⟩ (.int .i64 c0)).setCell ⟨zb,1,none⟩ (.int .i64 c1)).setCell ⟨zb,2,none⟩ (.int .i64 c2)).setCell ⟨zb,3,none⟩ (.int .i64 c3)).setCell ⟨zb,4,none⟩ (.bool c4)).setCell ⟨zb,5,none⟩ (.slice ca cn cc)).setCell ⟨zb,6,none⟩ (.slice cb cm cd)) = U4 at *
      refine tkV ?_ 9 rfl (fun _ _ _ h => h) hHeld ?_ ?_
      rotate_left
      ·intro w hSw;(try dsimp only at hSw);go_simp;try (with_reducible rfl)
      try simp only [sq]
      refine wpAnyH_done (by kernel_rfl) ?_ _
      go_wp2_with fail
      go_meet
      exact ⟨zb,hw,Sw,rfl,rfl,by rw [HCV.out];exact hF,hko,hnz,hzl,hBB⟩
     ·skip
      try simp only [sq]
      go_simp
      have qZ:=heap_alloc_new U1 (.cells #[.int .i64 0,.int .i64 0,.int .i64 0,.int .i64 0,.bool false,.slice none 0 0,.slice none 0 0] 35)
      have hal:=balloc (Below.refl U1.heap.size U1) (.cells #[.int .i64 0,.int .i64 0,.int .i64 0,.int .i64 0,.bool false,.slice none 0 0,.slice none 0 0] 35)
      have hzl:=hbz.size
      replace q1:=keepheap hal q1
      replace q2:=keepheap hal q2
      replace hbz:=btrans hbz hal
      clear hal
      refine hK.out _ _ ?_ (fun hHeld => ?_)
      ·exact sS q1 q2
      clear hK K
      try simp only [sq]
      generalize U1.alloc (.cells #[.int .i64 0,.int .i64 0,.int .i64 0,.int .i64 0,.bool false,.slice none 0 0,.slice none 0 0] 35) = U2 at *
      generalize U1.heap.size = zb at *
      refine rd1 3 rfl (fun K hK => ?_)
      try simp only [sq]
      go_simp
      go_at_call 11
      refine (CI.out _ _ _ _ (KX.out.below hbz) hz).mono ?_
      rintro e U3 ⟨hw,Sw,rfl,hko,hbn⟩
      have hlow:=hbz.size
      have hza:=lt_of_heap qZ
      have hnz:zb ∉ Sw:=fun hc => by have:=(hko.lt _ hc).1;omega
      replace q1:=keepheap hbn q1
      replace q2:=keepheap hbn q2
      replace hbz:=btrans hbz hbn
      replace qZ:=keepheap hbn qZ
      replace hko:=KO.lo hlow hko
      have hvw:=kvh_cells pa hw
      obtain ⟨c0,c1,c2,c3,c4,ca,cn,cc,cb,cm,cd,hcv,_⟩:=kh (pa,hw,Sw)
      have hcv':ckh pa hw = [.int .i64 c0,.int .i64 c1,.int .i64 c2,.int .i64 c3,.bool c4,.slice ca cn cc,.slice cb cm cd]:=hcv
      rw [hcv'] at hvw
      have HCV:=hid hcv'
      rw [hvw]
      clear hcv hcv' hvw
      clear hbn
      go_wp2_with fail
      refine hK.out _ _ ?_ (fun hHeld => ?_)
      ·exact sS q1 q2
      clear hK K
      try simp only [sq]
      refine tkV ?_ 4 rfl (fun _ _ _ h => h) hHeld ?_ ?_
      rotate_left
      ·intro w hSw;(try dsimp only at hSw);go_simp;try (with_reducible rfl)
      try simp only [sq]
      refine tkV ?_ 5 rfl (fun _ _ _ h => h) hHeld ?_ ?_
      rotate_left
      ·intro w hSw;(try dsimp only at hSw);go_simp;try (with_reducible rfl)
      try simp only [sq]
      refine tkV ?_ 6 rfl (fun _ _ _ h => h) hHeld ?_ ?_
      rotate_left
      ·intro w hSw;(try dsimp only at hSw);go_simp;try (with_reducible rfl)
      try simp only [sq]
      refine rd1 8 rfl (fun K hK => ?_)
      have hq1:=lt_of_heap q1
      obtain ⟨r0,r1,r2,r3,r4,r5,r6,s0,s1,s2,s3,s4,s5,s6⟩:=cell7k qZ
      try simp only [sq]
      obtain ⟨hF,hO,hBB⟩:=sF [.int .i64 c0,.int .i64 c1,.int .i64 c2,.int .i64 c3,.bool c4,.slice ca cn cc,.slice cb cm cd] qZ rfl hbz hzl
      simp only [setL,Nat.zero_add,Nat.reduceAdd] at hF hO hBB
      replace q1:=(hO _ (by omega)).trans q1
      replace q2:=(hO _ (by omega)).trans q2
      replace hko:=hko.keep (fun b hb' => hO b (fun e => hnz (e ▸ hb')))
      go_simp
      refine hK.out _ _ ?_ (fun hHeld => ?_)
      ·exact sS q1 q2
      clear hK K r0 r1 r2 r3 r4 r5 r6 s0 s1 s2 s3 s4 s5 s6
      try simp only [sq]
      generalize (((((((U3.setCell ⟨zb,0,none⟩ (.int .i64 c0)).setCell ⟨zb,1,none⟩ (.int .i64 c1)).setCell ⟨zb,2,none⟩ (.int .i64 c2)).setCell ⟨zb,3,none⟩ (.int .i64 c3)).setCell ⟨zb,4,none⟩ (.bool c4)).setCell ⟨zb,5,none⟩ (.slice ca cn cc)).setCell ⟨zb,6,none⟩ (.slice cb cm cd)) = U4 at *
      refine tkV ?_ 9 rfl (fun _ _ _ h => h) hHeld ?_ ?_
      rotate_left
      ·intro w hSw;(try dsimp only at hSw);go_simp;try (with_reducible rfl)
      try simp only [sq]
      refine wpAnyH_done (by kernel_rfl) ?_ _
      go_wp2_with fail
      go_meet
      exact ⟨zb,hw,Sw,rfl,rfl,by rw [HCV.out];exact hF,hko,hnz,hzl,hBB⟩
    ·skip
     try simp only [sq]
     go_simp
     have qZ:=heap_alloc_new U0 (.cells #[.int .i64 0,.int .i64 0,.int .i64 0,.int .i64 0,.bool false,.slice none 0 0,.slice none 0 0] 35)
     have hal:=balloc (Below.refl U0.heap.size U0) (.cells #[.int .i64 0,.int .i64 0,.int .i64 0,.int .i64 0,.bool false,.slice none 0 0,.slice none 0 0] 35)
     have hzl:=hbz.size
     replace q1:=keepheap hal q1
     replace q2:=keepheap hal q2
     replace hbz:=btrans hbz hal
     clear hal
     refine hK.out _ _ ?_ (fun hHeld => ?_)
     ·exact sS q1 q2
     clear hK K
     try simp only [sq]
     generalize U0.alloc (.cells #[.int .i64 0,.int .i64 0,.int .i64 0,.int .i64 0,.bool false,.slice none 0 0,.slice none 0 0] 35) = U1 at *
     generalize U0.heap.size = zb at *
     refine rd1 2 rfl (fun K hK => ?_)
     try simp only [sq]
     go_simp
     go_at_call 10
     refine (CX.out _).mono ?_
     rintro e U2 ⟨rfl,hbn⟩
     replace q1:=keepheap hbn q1
     replace q2:=keepheap hbn q2
     replace hbz:=btrans hbz hbn
     replace qZ:=keepheap hbn qZ
     clear hbn
     go_wp2_with fail
     refine hK.out _ _ ?_ (fun hHeld => ?_)
     ·exact sS q1 q2
     clear hK K
     try simp only [sq]
     refine rd1 3 rfl (fun K hK => ?_)
     try simp only [sq]
     go_simp
     go_at_call 11
     refine (CI.out _ _ _ _ (KX.out.below hbz) hz).mono ?_
     rintro e U3 ⟨hw,Sw,rfl,hko,hbn⟩
     have hlow:=hbz.size
     have hza:=lt_of_heap qZ
     have hnz:zb ∉ Sw:=fun hc => by have:=(hko.lt _ hc).1;omega
     replace q1:=keepheap hbn q1
     replace q2:=keepheap hbn q2
     replace hbz:=btrans hbz hbn
     replace qZ:=keepheap hbn qZ
     replace hko:=KO.lo hlow hko
     have hvw:=kvh_cells pa hw
     obtain ⟨c0,c1,c2,c3,c4,ca,cn,cc,cb,cm,cd,hcv,_⟩:=kh (pa,hw,Sw)
     have hcv':ckh pa hw = [.int .i64 c0,.int .i64 c1,.int .i64 c2,.int .i64 c3,.bool c4,.slice ca cn cc,.slice cb cm cd]:=hcv
     rw [hcv'] at hvw
     have HCV:=hid hcv'
     rw [hvw]
     clear hcv hcv' hvw
     clear hbn
     go_wp2_with fail
     refine hK.out _ _ ?_ (fun hHeld => ?_)
     ·exact sS q1 q2
     clear hK K
     try simp only [sq]
     refine tkV ?_ 4 rfl (fun _ _ _ h => h) hHeld ?_ ?_
     rotate_left
     ·intro w hSw;(try dsimp only at hSw);go_simp;try (with_reducible rfl)
     try simp only [sq]
     refine tkV ?_ 5 rfl (fun _ _ _ h => h) hHeld ?_ ?_
     rotate_left
     ·intro w hSw;(try dsimp only at hSw);go_simp;try (with_reducible rfl)
     try simp only [sq]
     refine tkV ?_ 6 rfl (fun _ _ _ h => h) hHeld ?_ ?_
     rotate_left
     ·intro w hSw;(try dsimp only at hSw);go_simp;try (with_reducible rfl)
     try simp only [sq]
     refine rd1 8 rfl (fun K hK => ?_)
     have hq1:=lt_of_heap q1
     obtain ⟨r0,r1,r2,r3,r4,r5,r6,s0,s1,s2,s3,s4,s5,s6⟩:=cell7k qZ
     try simp only [sq]
     obtain ⟨hF,hO,hBB⟩:=sF [.int .i64 c0,.int .i64 c1,.int .i64 c2,.int .i64 c3,.bool c4,.slice ca cn cc,.slice cb cm cd] qZ rfl hbz hzl
     simp only [setL,Nat.zero_add,Nat.reduceAdd] at hF hO hBB
     replace q1:=(hO _ (by omega)).trans q1
     replace q2:=(hO _ (by omega)).trans q2
     replace hko:=hko.keep (fun b hb' => hO b (fun e => hnz (e ▸ hb')))
     go_simp
     refine hK.out _ _ ?_ (fun hHeld => ?_)
     ·exact sS q1 q2
     clear hK K r0 r1 r2 r3 r4 r5 r6 s0 s1 s2 s3 s4 s5 s6
     try simp only [sq]
     generalize (((((((U3.setCell ⟨zb,0,none⟩ (.int .i64 c0)).setCell ⟨zb,1,none⟩ (.int .i64 c1)).setCell ⟨zb,2,none⟩ (.int .i64 c2)).setCell ⟨zb,3,none⟩ (.int .i64 c3)).setCell ⟨zb,4,none⟩ (.bool c4)).setCell ⟨zb,5,none⟩ (.slice ca cn cc)).setCell ⟨zb,6,none⟩ (.slice cb cm cd)) = U4 at *
     refine tkV ?_ 9 rfl (fun _ _ _ h => h) hHeld ?_ ?_
     rotate_left
     ·intro w hSw;(try dsimp only at hSw);go_simp;try (with_reducible rfl)
     try simp only [sq]
     refine wpAnyH_done (by kernel_rfl) ?_ _
     go_wp2_with fail
     go_meet
     exact ⟨zb,hw,Sw,rfl,rfl,by rw [HCV.out];exact hF,hko,hnz,hzl,hBB⟩
   case rest =>
    obtain ⟨zg,hg,Sg,rfl,rfl,qG,kG,hng,hlg,hc⟩:=hcut
    have hv5c:=hc.size
    have gG:=hid qG
    have KG:=hid kG
    replace gL:=hid (keepheap hc gL.out)
    replace gE:=hid (keepheap hc gE.out)
    replace gW:=hid (keepheap hc gW.out)
    replace gX:=hid (keepheap hc gX.out)
    replace KW:=hid (KW.out.below hc)
    replace KX:=hid (KX.out.below hc)
    replace B0:=hid (btrans B0.out hc)
    replace BX:=hid (BX.out.trans (hc.mono BX.out.size))
    clear hc qG kG
    obtain ⟨f0,f1,f2,f3,f4,fa,fn,fc,fb,fm,fd,hyv,_⟩:=kh (pa,hw,Sw)
    have hyv':ckh pa hw = [.int .i64 f0,.int .i64 f1,.int .i64 f2,.int .i64 f3,.bool f4,.slice fa fn fc,.slice fb fm fd]:=hyv
    have hkf:kvh pa hw = .agg #[.int .i64 f0,.int .i64 f1,.int .i64 f2,.int .i64 f3,.bool f4,.slice fa fn fc,.slice fb fm fd]:=by
     rw [kvh_cells,hyv']
    rw [hyv'] at gW
    clear hyv hyv'
    obtain ⟨g0,g1,g2,g3,g4,ga,gn,gc,gb,gm,gd,hyv,_⟩:=kh (pa,hg,Sg)
    have hyv':ckh pa hg = [.int .i64 g0,.int .i64 g1,.int .i64 g2,.int .i64 g3,.bool g4,.slice ga gn gc,.slice gb gm gd]:=hyv
    have hkg:kvh pa hg = .agg #[.int .i64 g0,.int .i64 g1,.int .i64 g2,.int .i64 g3,.bool g4,.slice ga gn gc,.slice gb gm gd]:=by
     rw [kvh_cells,hyv']
    rw [hyv'] at gG
    clear hyv hyv'
    have EQ1:=hid (fun (W:World) (k1:KO v5.heap.size 22 W hg Sg pa) (k2:KO v1.heap.size 22 W hw Sw pa) => EQ.out W _ _ _ _ _ _ k1 k2)
    have EQ2:=hid (fun (W:World) (lo:Nat) (h1:Hd) (S1:List Nat) (k1:KO lo 22 W h1 S1 pa) (k2:KO v1.heap.size 22 W hw Sw pa) => EQ.out W _ _ _ _ _ _ k1 k2)
    have MG1:=hid (fun (W:World) (k1:KO v5.heap.size 22 W hg Sg pa) => MG.out _ hg Sg W k1)
    have HG1:=hid (fun (W:World) (k1:KO v5.heap.size 22 W hg Sg (mkt 22 1 pa)) => HG.out _ hg Sg W k1)
    rw [hkf,hkg] at EQ1
    rw [hkf] at EQ2
    rw [hkg] at MG1 HG1
    clear hkf hkg EQ MG HG
    obtain ⟨a0,a1,a2,a3,a4,a5,a6,_,_,_,_,_,_,_⟩:=cell7k gG.out
    obtain ⟨d0,d1,d2,d3,d4,d5,d6,_,_,_,_,_,_,_⟩:=cell7k gW.out
    go_wp2_with fail
    refine (EQ1.out _ KG.out KW.out).mono ?_
    rintro e v8 ⟨rfl,hb8⟩
    replace gL:=hid (keepheap hb8 gL.out)
    replace gE:=hid (keepheap hb8 gE.out)
    replace gW:=hid (keepheap hb8 gW.out)
    replace gX:=hid (keepheap hb8 gX.out)
    replace gG:=hid (keepheap hb8 gG.out)
    replace KW:=hid (KW.out.below hb8)
    replace KX:=hid (KX.out.below hb8)
    replace KG:=hid (KG.out.below hb8)
    replace B0:=hid (btrans B0.out hb8)
    replace BX:=hid (BX.out.trans (hb8.mono BX.out.size))
    clear hb8 a0 a1 a2 a3 a4 a5 a6 d0 d1 d2 d3 d4 d5 d6
    go_upto_region 10 with fail
    have BF:=hid (fun (X:World) (hb:Below v8.heap.size v8 X) => btrans B0.out hb)
    obtain ⟨a0,a1,a2,a3,a4,a5,a6,_,_,_,_,_,_,_⟩:=cell7k gX.out
    obtain ⟨l0,l1,l2,l3,l4,l5,l6,_,_,_,_,_,_,_⟩:=cell7k gL.out
    go_region_held3 (fun w' => w'.cell? ⟨w.heap.size,0,none⟩ = some (.int .i64 b0) ∧ w'.cell? ⟨w.heap.size,1,none⟩ = some (.int .i64 b1) ∧ w'.cell? ⟨w.heap.size,2,none⟩ = some (.int .i64 b2) ∧ w'.cell? ⟨w.heap.size,3,none⟩ = some (.int .i64 b3) ∧ w'.cell? ⟨w.heap.size,4,none⟩ = some (.bool b4) ∧ w'.cell? ⟨w.heap.size,5,none⟩ = some (.slice ia ni ic) ∧ w'.cell? ⟨w.heap.size,6,none⟩ = some (.slice ka nk kc) ∧ w'.cell? ⟨xb,0,none⟩ = some (.int .i64 b0) ∧ w'.cell? ⟨xb,1,none⟩ = some (.int .i64 b1) ∧ w'.cell? ⟨xb,2,none⟩ = some (.int .i64 b2) ∧ w'.cell? ⟨xb,3,none⟩ = some (.int .i64 b3) ∧ w'.cell? ⟨xb,4,none⟩ = some (.bool b4) ∧ w'.cell? ⟨xb,5,none⟩ = some (.slice xi ni ni) ∧ w'.cell? ⟨xb,6,none⟩ = some (.slice xk nk nk)) ((go_split_ands;(repeat' apply And.intro) <;> (with_reducible repeat (first | assumption | refine keepdrew ?_ | exact keepcell hv2 (by assumption) | exact keepcell hv1 (by assumption)))))
     (first
      | (go_at_call 9;refine (CT.out _ (BF.out _ (bdrew (Below.refl v8.heap.size v8))) hz).mono ?_;rintro e w1 ⟨yi,yk,rfl,hK1,hb1⟩;have hv1:Below v8.heap.size v8 w1:=btrans (bdrew (Below.refl _ _)) hb1;have KX1:=KX.out.below hv1)
      | (go_at_call 12;refine (CE.out _ _ _ _ _ _ _ hz KX1 hK1).mono ?_;rintro e w2 ⟨rfl,hb2⟩;have hv2:Below v8.heap.size v8 w2:=btrans hv1 hb2))
    replace gL:=hid (keepheap hv2 gL.out)
    replace gE:=hid (keepheap hv2 gE.out)
    replace gW:=hid (keepheap hv2 gW.out)
    replace gX:=hid (keepheap hv2 gX.out)
    replace gG:=hid (keepheap hv2 gG.out)
    replace KW:=hid (KW.out.below hv2)
    replace KX:=hid (KX.out.below hv2)
    replace KG:=hid (KG.out.below hv2)
    replace B0:=hid (btrans B0.out hv2)
    replace BX:=hid (BX.out.trans (hv2.mono BX.out.size))
    clear hb1 hb2 hv1 hv2 KX1 hK1 KX a0 a1 a2 a3 a4 a5 a6 l0 l1 l2 l3 l4 l5 l6 CE BF
    obtain ⟨a0,a1,a2,a3,a4,a5,a6,_,_,_,_,_,_,_⟩:=cell7k gX.out
    go_wp2_with fail
    refine (CM.out _ _ _ _ _ KX4.out hz BX.out).mono ?_
    rintro e v9 ⟨rfl,hM⟩
    have hk0:¬ (1 + 5 * (ksz n t:Int)) < 0:=by omega
    generalize 1 + 5 * (ksz n t:Int) = kk at *
    have hsB:=B0.out.size
    have hKGl:=fun b (hb:b ∈ Sg) => (KG.out.lt b hb)
    have hKWu:=fun b (hb:b ∈ Sw) => hKW4.out b hb
    have hgLl:=lt_of_heap gL.out
    replace gL:=hid (hM.blk gL.out (.inl (by omega)))
    replace gE:=hid (hM.blk gE.out (.inl (by omega)))
    replace gW:=hid (hM.blk gW.out (.inl (by omega)))
    replace gG:=hid (hM.blk gG.out (.inr (by omega)))
    replace KW:=hid (KW.out.keep (fun b hb => hM.out b (KW.out.lt b hb).2 (.inl (by have:=hKWu b hb;omega))))
    replace KG:=hid (KG.out.keep (fun b hb => hM.out b (hKGl b hb).2 (.inr (by have:=(hKGl b hb).1;omega))))
    replace B0:=hid (hM.bel B0.out (by omega) hsB)
    clear hM CM KX4 BX gX a0 a1 a2 a3 a4 a5 a6 hKWu
    obtain ⟨a0,a1,a2,a3,a4,a5,a6,_,_,_,_,_,_,_⟩:=cell7k gG.out
    obtain ⟨d0,d1,d2,d3,d4,d5,d6,_,_,_,_,_,_,_⟩:=cell7k gW.out
    go_wp2_with fail
    refine (EQ1.out _ KG.out KW.out).mono ?_
    rintro e v10 ⟨rfl,hb10⟩
    replace gL:=hid (keepheap hb10 gL.out)
    replace gE:=hid (keepheap hb10 gE.out)
    replace gW:=hid (keepheap hb10 gW.out)
    replace gG:=hid (keepheap hb10 gG.out)
    replace KW:=hid (KW.out.below hb10)
    replace KG:=hid (KG.out.below hb10)
    replace B0:=hid (btrans B0.out hb10)
    clear hb10 a0 a1 a2 a3 a4 a5 a6 d0 d1 d2 d3 d4 d5 d6 EQ1
    obtain ⟨a0,a1,a2,a3,a4,a5,a6,_,_,_,_,_,_,_⟩:=cell7k gG.out
    go_wp2_with fail
    refine (MG1.out _ KG.out).mono ?_
    rintro e v11 ⟨rfl,hKM,hfm⟩
    have hsB10:=B0.out.size
    have hKW10:=fun b (hb:b ∈ Sw) => hKW4.out b hb
    replace gL:=hid ((hfm.blk _ (lt_of_heap gL.out) (fun hc => by have:=(hKGl _ hc).1;omega)).trans gL.out)
    replace gE:=hid ((hfm.blk _ (lt_of_heap gE.out) (fun hc => by have:=(hKGl _ hc).1;omega)).trans gE.out)
    replace gW:=hid ((hfm.blk _ (lt_of_heap gW.out) (fun hc => by have:=(hKGl _ hc).1;omega)).trans gW.out)
    replace gG:=hid ((hfm.blk _ (lt_of_heap gG.out) hng).trans gG.out)
    replace KW:=hid (KW.out.keep (fun b hb => hfm.blk b (KW.out.lt b hb).2 (fun hc => by have:=(hKGl _ hc).1;have:=hKW10 b hb;omega)))
    replace B0:=hid (B0.out.trans (hfm.below hsB10 (fun b hb => by have:=(hKGl _ hb).1;omega)))
    replace KG:=hid hKM
    clear hKM hfm a0 a1 a2 a3 a4 a5 a6 MG1 hKW10
    obtain ⟨a0,a1,a2,a3,a4,a5,a6,_,_,_,_,_,_,_⟩:=cell7k gG.out
    go_wp2_with fail
    refine (HG1.out _ KG.out).mono ?_
    rintro e v12 ⟨rfl,hb12⟩
    generalize hmmv:1 + 5 * (ksz 22 pa:Int) = mm at *
    have HMM:=hid hmmv
    have hqq:(mm != mm) = false:=by simp
    replace gL:=hid (keepheap hb12 gL.out)
    replace gE:=hid (keepheap hb12 gE.out)
    replace gW:=hid (keepheap hb12 gW.out)
    replace gG:=hid (keepheap hb12 gG.out)
    replace KW:=hid (KW.out.below hb12)
    replace KG:=hid (KG.out.below hb12)
    replace B0:=hid (btrans B0.out hb12)
    clear hb12 hmmv a0 a1 a2 a3 a4 a5 a6
    go_upto_region 24 with fail
    go_cut [14,15] (fun ta tb wx => PkS v12 pa pb ta tb wx)
    case first =>
     refine wp_region_held_drew (S:=(fun w' => w'.cell? ⟨w.heap.size,0,none⟩ = some (.int .i64 b0) ∧ w'.cell? ⟨w.heap.size,1,none⟩ = some (.int .i64 b1) ∧ w'.cell? ⟨w.heap.size,2,none⟩ = some (.int .i64 b2) ∧ w'.cell? ⟨w.heap.size,3,none⟩ = some (.int .i64 b3) ∧ w'.cell? ⟨w.heap.size,4,none⟩ = some (.bool b4) ∧ w'.cell? ⟨w.heap.size,5,none⟩ = some (.slice ia ni ic) ∧ w'.cell? ⟨w.heap.size,6,none⟩ = some (.slice ka nk kc) ∧ w'.cell? ⟨w.heap.size + 1,0,none⟩ = some (.int .i64 x0) ∧ w'.cell? ⟨w.heap.size + 1,1,none⟩ = some (.int .i64 x1) ∧ w'.cell? ⟨w.heap.size + 1,2,none⟩ = some (.int .i64 x2) ∧ w'.cell? ⟨w.heap.size + 1,3,none⟩ = some (.int .i64 x3) ∧ w'.cell? ⟨w.heap.size + 1,4,none⟩ = some (.int .i64 x4))) (by kernel_rfl) ?_ (fun hHeld => ?_)
     ·(obtain ⟨a0,a1,a2,a3,a4,a5,a6,_,_,_,_,_,_,_⟩:=cell7k gL.out;obtain ⟨e0,e1,e2,e3,e4,_,_,_,_,_⟩:=cell5j gE.out;exact ⟨keepdrew a0,keepdrew a1,keepdrew a2,keepdrew a3,keepdrew a4,keepdrew a5,keepdrew a6,keepdrew e0,keepdrew e1,keepdrew e2,keepdrew e3,keepdrew e4⟩)
     have hsz0:=lt_of_heap gL.out
     have q1:=gL.out
     have q2:=gE.out
     have hszE:=lt_of_heap gE.out
     have hbz:=bdrew (Below.refl v12.heap.size v12)
     replace q1:=keepheap hbz q1
     replace q2:=keepheap hbz q2
     generalize v12.drew = U0 at *
     refine tkV ?_ 0 rfl (fun _ _ _ h => h) hHeld ?_ ?_
     rotate_left
     ·intro w hSw;(try dsimp only at hSw);go_simp;try (with_reducible rfl)
     try simp only [sq]
     refine tkV ?_ 2 rfl (fun _ _ _ h => h) hHeld ?_ ?_
     rotate_left
     ·intro w hSw;(try dsimp only at hSw);go_simp;try (with_reducible rfl)
     try simp only [sq]
     refine wpAnyH_ready (rs:=[1,8]) (by kernel_rfl) (by simp) ?_
     refine (AllReadyH.cons rfl (fun K hK => ?_) (AllReadyH.cons rfl (fun K hK => ?_) AllReadyH.nil))
     ·skip
      try simp only [sq]
      go_simp
      go_at_call 9
      refine (CT.out _ (btrans B0.out hbz) hz).mono ?_
      rintro e U1 ⟨yi,yk,rfl,HKN,hbn⟩
      replace q1:=keepheap hbn q1
      replace q2:=keepheap hbn q2
      replace hbz:=btrans hbz hbn
      clear hbn
      go_wp2_with fail
      refine hK.out _ _ ?_ (fun hHeld => ?_)
      ·exact sS q1 q2
      clear hK K
      try simp only [sq]
      refine wpAnyH_ready (rs:=[3,8]) (by kernel_rfl) (by simp) ?_
      refine (AllReadyH.cons rfl (fun K hK => ?_) (AllReadyH.cons rfl (fun K hK => ?_) AllReadyH.nil))
      ·skip
       try simp only [sq]
       go_simp
       go_at_call 10
       refine (CX.out _).mono ?_
       rintro e U2 ⟨rfl,hbn⟩
       replace q1:=keepheap hbn q1
       replace q2:=keepheap hbn q2
       replace hbz:=btrans hbz hbn
       replace HKN:=HKN.below hbn
       clear hbn
       go_wp2_with fail
       refine hK.out _ _ ?_ (fun hHeld => ?_)
       ·exact sS q1 q2
       clear hK K
       try simp only [sq]
       refine wpAnyH_ready (rs:=[4,8]) (by kernel_rfl) (by simp) ?_
       refine (AllReadyH.cons rfl (fun K hK => ?_) (AllReadyH.cons rfl (fun K hK => ?_) AllReadyH.nil))
       ·skip
        try simp only [sq]
        go_simp
        go_at_call 11
        refine (CI.out _ _ _ _ HKN hz).mono ?_
        rintro e U3 ⟨hw,Sw,rfl,hko,hbn⟩
        have hlow:=hbz.size
        replace q1:=keepheap hbn q1
        replace q2:=keepheap hbn q2
        replace hbz:=btrans hbz hbn
        replace hko:=KO.lo hlow hko
        have hvw:=kvh_cells pa hw
        obtain ⟨c0,c1,c2,c3,c4,ca,cn,cc,cb,cm,cd,hcv,_⟩:=kh (pa,hw,Sw)
        have hcv':ckh pa hw = [.int .i64 c0,.int .i64 c1,.int .i64 c2,.int .i64 c3,.bool c4,.slice ca cn cc,.slice cb cm cd]:=hcv
        rw [hcv'] at hvw
        have HCV:=hid hcv'
        rw [hvw]
        clear hcv hcv' hvw
        clear hbn
        go_wp2_with fail
        refine hK.out _ _ ?_ (fun hHeld => ?_)
        ·exact sS q1 q2
        clear hK K
        try simp only [sq]
        refine tkV ?_ 5 rfl (fun _ _ _ h => h) hHeld ?_ ?_
        rotate_left
        ·intro w hSw;(try dsimp only at hSw);go_simp;try (with_reducible rfl)
        try simp only [sq]
        refine tkV ?_ 6 rfl (fun _ _ _ h => h) hHeld ?_ ?_
        rotate_left
        ·intro w hSw;(try dsimp only at hSw);go_simp;try (with_reducible rfl)
        try simp only [sq]
        refine tkV ?_ 7 rfl (fun _ _ _ h => h) hHeld ?_ ?_
        rotate_left
        ·intro w hSw;(try dsimp only at hSw);go_simp;try (with_reducible rfl)
        try simp only [sq]
        refine rd1 8 rfl (fun K hK => ?_)
        try simp only [sq]
        go_simp
        have qZ:=heap_alloc_new U3 (.cells #[.int .i64 0,.int .i64 0,.int .i64 0,.int .i64 0,.bool false,.slice none 0 0,.slice none 0 0] 35)
        have hal:=balloc (Below.refl U3.heap.size U3) (.cells #[.int .i64 0,.int .i64 0,.int .i64 0,.int .i64 0,.bool false,.slice none 0 0,.slice none 0 0] 35)
        have hnz:U3.heap.size ∉ Sw:=fun hc => by have:=(hko.lt _ hc).2;omega
        have hzl:=hbz.size
        replace q1:=keepheap hal q1
        replace q2:=keepheap hal q2
        replace hbz:=btrans hbz hal
        replace hko:=hko.below hal
        clear hal
        refine hK.out _ _ ?_ (fun hHeld => ?_)
        ·exact sS q1 q2
        clear hK K
        try simp only [sq]
        generalize U3.alloc (.cells #[.int .i64 0,.int .i64 0,.int .i64 0,.int .i64 0,.bool false,.slice none 0 0,.slice none 0 0] 35) = U4 at *
        generalize U3.heap.size = zb at *
        refine rd1 9 rfl (fun K hK => ?_)
        have hq1:=lt_of_heap q1
        obtain ⟨r0,r1,r2,r3,r4,r5,r6,s0,s1,s2,s3,s4,s5,s6⟩:=cell7k qZ
        try simp only [sq]
        obtain ⟨hF,hO,hBB⟩:=sF [.int .i64 c0,.int .i64 c1,.int .i64 c2,.int .i64 c3,.bool c4,.slice ca cn cc,.slice cb cm cd] qZ rfl hbz hzl
        simp only [setL,Nat.zero_add,Nat.reduceAdd] at hF hO hBB
        replace q1:=(hO _ (by omega)).trans q1
        replace q2:=(hO _ (by omega)).trans q2
        replace hko:=hko.keep (fun b hb' => hO b (fun e => hnz (e ▸ hb')))
        go_simp
        refine hK.out _ _ ?_ (fun hHeld => ?_)
        ·exact sS q1 q2
        clear hK K r0 r1 r2 r3 r4 r5 r6 s0 s1 s2 s3 s4 s5 s6
        try simp only [sq]
        generalize (((((((U4.setCell ⟨zb,0,none⟩ (.int .i64 c0)).setCell ⟨zb,1,none⟩ (.int .i64 c1)).setCell ⟨zb,2,none⟩ (.int .i64 c2)).setCell ⟨zb,3,none⟩ (.int .i64 c3)).setCell ⟨zb,4,none⟩ (.bool c4)).setCell ⟨zb,5,none⟩ (.slice ca cn cc)).setCell ⟨zb,6,none⟩ (.slice cb cm cd)) = U5 at *
        refine tkV ?_ 10 rfl (fun _ _ _ h => h) hHeld ?_ ?_
        rotate_left
        ·intro w hSw;(try dsimp only at hSw);go_simp;try (with_reducible rfl)
        try simp only [sq]
        refine wpAnyH_done (by kernel_rfl) ?_ _
        go_wp2_with fail
        go_meet
        exact ⟨zb,hw,Sw,rfl,rfl,by rw [HCV.out];exact hF,hko,hnz,hzl,hBB⟩
       ·skip
        try simp only [sq]
        go_simp
        have qZ:=heap_alloc_new U2 (.cells #[.int .i64 0,.int .i64 0,.int .i64 0,.int .i64 0,.bool false,.slice none 0 0,.slice none 0 0] 35)
        have hal:=balloc (Below.refl U2.heap.size U2) (.cells #[.int .i64 0,.int .i64 0,.int .i64 0,.int .i64 0,.bool false,.slice none 0 0,.slice none 0 0] 35)
        have hzl:=hbz.size
        replace q1:=keepheap hal q1
        replace q2:=keepheap hal q2
        replace hbz:=btrans hbz hal
        replace HKN:=HKN.below hal
        clear hal
        refine hK.out _ _ ?_ (fun hHeld => ?_)
        ·exact sS q1 q2
        clear hK K
        try simp only [sq]
        generalize U2.alloc (.cells #[.int .i64 0,.int .i64 0,.int .i64 0,.int .i64 0,.bool false,.slice none 0 0,.slice none 0 0] 35) = U3 at *
        generalize U2.heap.size = zb at *
        refine rd1 4 rfl (fun K hK => ?_)
        try simp only [sq]
        go_simp
        go_at_call 11
        refine (CI.out _ _ _ _ HKN hz).mono ?_
        rintro e U4 ⟨hw,Sw,rfl,hko,hbn⟩
        have hlow:=hbz.size
        have hza:=lt_of_heap qZ
        have hnz:zb ∉ Sw:=fun hc => by have:=(hko.lt _ hc).1;omega
        replace q1:=keepheap hbn q1
        replace q2:=keepheap hbn q2
        replace hbz:=btrans hbz hbn
        replace qZ:=keepheap hbn qZ
        replace hko:=KO.lo hlow hko
        have hvw:=kvh_cells pa hw
        obtain ⟨c0,c1,c2,c3,c4,ca,cn,cc,cb,cm,cd,hcv,_⟩:=kh (pa,hw,Sw)
        have hcv':ckh pa hw = [.int .i64 c0,.int .i64 c1,.int .i64 c2,.int .i64 c3,.bool c4,.slice ca cn cc,.slice cb cm cd]:=hcv
        rw [hcv'] at hvw
        have HCV:=hid hcv'
        rw [hvw]
        clear hcv hcv' hvw
        clear hbn
        go_wp2_with fail
        refine hK.out _ _ ?_ (fun hHeld => ?_)
        ·exact sS q1 q2
        clear hK K
        try simp only [sq]
        refine tkV ?_ 5 rfl (fun _ _ _ h => h) hHeld ?_ ?_
        rotate_left
        ·intro w hSw;(try dsimp only at hSw);go_simp;try (with_reducible rfl)
        try simp only [sq]
        refine tkV ?_ 6 rfl (fun _ _ _ h => h) hHeld ?_ ?_
        rotate_left
        ·intro w hSw;(try dsimp only at hSw);go_simp;try (with_reducible rfl)
        try simp only [sq]
        refine tkV ?_ 7 rfl (fun _ _ _ h => h) hHeld ?_ ?_
        rotate_left
        ·intro w hSw;(try dsimp only at hSw);go_simp;try (with_reducible rfl)
        try simp only [sq]
        refine rd1 9 rfl (fun K hK => ?_)
        have hq1:=lt_of_heap q1
        obtain ⟨r0,r1,r2,r3,r4,r5,r6,s0,s1,s2,s3,s4,s5,s6⟩:=cell7k qZ
        try simp only [sq]
        obtain ⟨hF,hO,hBB⟩:=sF [.int .i64 c0,.int .i64 c1,.int .i64 c2,.int .i64 c3,.bool c4,.slice ca cn cc,.slice cb cm cd] qZ rfl hbz hzl
        simp only [setL,Nat.zero_add,Nat.reduceAdd] at hF hO hBB
        replace q1:=(hO _ (by omega)).trans q1
        replace q2:=(hO _ (by omega)).trans q2
        replace hko:=hko.keep (fun b hb' => hO b (fun e => hnz (e ▸ hb')))
        go_simp
        refine hK.out _ _ ?_ (fun hHeld => ?_)
        ·exact sS q1 q2
        clear hK K r0 r1 r2 r3 r4 r5 r6 s0 s1 s2 s3 s4 s5 s6
        try simp only [sq]
        generalize (((((((U4.setCell ⟨zb,0,none⟩ (.int .i64 c0)).setCell ⟨zb,1,none⟩ (.int .i64 c1)).setCell ⟨zb,2,none⟩ (.int .i64 c2)).setCell ⟨zb,3,none⟩ (.int .i64 c3)).setCell ⟨zb,4,none⟩ (.bool c4)).setCell ⟨zb,5,none⟩ (.slice ca cn cc)).setCell ⟨zb,6,none⟩ (.slice cb cm cd)) = U5 at *
        refine tkV ?_ 10 rfl (fun _ _ _ h => h) hHeld ?_ ?_
        rotate_left
        ·intro w hSw;(try dsimp only at hSw);go_simp;try (with_reducible rfl)
        try simp only [sq]
        refine wpAnyH_done (by kernel_rfl) ?_ _
        go_wp2_with fail
        go_meet
        exact ⟨zb,hw,Sw,rfl,rfl,by rw [HCV.out];exact hF,hko,hnz,hzl,hBB⟩
      ·skip
       try simp only [sq]
       go_simp
       have qZ:=heap_alloc_new U1 (.cells #[.int .i64 0,.int .i64 0,.int .i64 0,.int .i64 0,.bool false,.slice none 0 0,.slice none 0 0] 35)
       have hal:=balloc (Below.refl U1.heap.size U1) (.cells #[.int .i64 0,.int .i64 0,.int .i64 0,.int .i64 0,.bool false,.slice none 0 0,.slice none 0 0] 35)
       have hzl:=hbz.size
       replace q1:=keepheap hal q1
       replace q2:=keepheap hal q2
       replace hbz:=btrans hbz hal
       replace HKN:=HKN.below hal
       clear hal
       refine hK.out _ _ ?_ (fun hHeld => ?_)
       ·exact sS q1 q2
       clear hK K
       try simp only [sq]
       generalize U1.alloc (.cells #[.int .i64 0,.int .i64 0,.int .i64 0,.int .i64 0,.bool false,.slice none 0 0,.slice none 0 0] 35) = U2 at *
       generalize U1.heap.size = zb at *
       refine rd1 3 rfl (fun K hK => ?_)
       try simp only [sq]
       go_simp
       go_at_call 10
       refine (CX.out _).mono ?_
       rintro e U3 ⟨rfl,hbn⟩
       replace q1:=keepheap hbn q1
       replace q2:=keepheap hbn q2
       replace hbz:=btrans hbz hbn
       replace HKN:=HKN.below hbn
       replace qZ:=keepheap hbn qZ
       clear hbn
       go_wp2_with fail
       refine hK.out _ _ ?_ (fun hHeld => ?_)
       ·exact sS q1 q2
       clear hK K
       try simp only [sq]
       refine rd1 4 rfl (fun K hK => ?_)
       try simp only [sq]
       go_simp
       go_at_call 11
       refine (CI.out _ _ _ _ HKN hz).mono ?_
       rintro e U4 ⟨hw,Sw,rfl,hko,hbn⟩
       have hlow:=hbz.size
       have hza:=lt_of_heap qZ
       have hnz:zb ∉ Sw:=fun hc => by have:=(hko.lt _ hc).1;omega
       replace q1:=keepheap hbn q1
       replace q2:=keepheap hbn q2
       replace hbz:=btrans hbz hbn
       replace qZ:=keepheap hbn qZ
       replace hko:=KO.lo hlow hko
       have hvw:=kvh_cells pa hw
       obtain ⟨c0,c1,c2,c3,c4,ca,cn,cc,cb,cm,cd,hcv,_⟩:=kh (pa,hw,Sw)
       have hcv':ckh pa hw = [.int .i64 c0,.int .i64 c1,.int .i64 c2,.int .i64 c3,.bool c4,.slice ca cn cc,.slice cb cm cd]:=hcv
       rw [hcv'] at hvw
       have HCV:=hid hcv'
       rw [hvw]
       clear hcv hcv' hvw
       clear hbn
       go_wp2_with fail
       refine hK.out _ _ ?_ (fun hHeld => ?_)
       ·exact sS q1 q2
       clear hK K
       try simp only [sq]
       refine tkV ?_ 5 rfl (fun _ _ _ h => h) hHeld ?_ ?_
       rotate_left
       ·intro w hSw;(try dsimp only at hSw);go_simp;try (with_reducible rfl)
       try simp only [sq]
       refine tkV ?_ 6 rfl (fun _ _ _ h => h) hHeld ?_ ?_
       rotate_left
       ·intro w hSw;(try dsimp only at hSw);go_simp;try (with_reducible rfl)
       try simp only [sq]
       refine tkV ?_ 7 rfl (fun _ _ _ h => h) hHeld ?_ ?_
       rotate_left
       ·intro w hSw;(try dsimp only at hSw);go_simp;try (with_reducible rfl)
       try simp only [sq]
       refine rd1 9 rfl (fun K hK => ?_)
       have hq1:=lt_of_heap q1
       obtain ⟨r0,r1,r2,r3,r4,r5,r6,s0,s1,s2,s3,s4,s5,s6⟩:=cell7k qZ
       try simp only [sq]
       obtain ⟨hF,hO,hBB⟩:=sF [.int .i64 c0,.int .i64 c1,.int .i64 c2,.int .i64 c3,.bool c4,.slice ca cn cc,.slice cb cm cd] qZ rfl hbz hzl
       simp only [setL,Nat.zero_add,Nat.reduceAdd] at hF hO hBB
       replace q1:=(hO _ (by omega)).trans q1
       replace q2:=(hO _ (by omega)).trans q2
       replace hko:=hko.keep (fun b hb' => hO b (fun e => hnz (e ▸ hb')))
       go_simp
       refine hK.out _ _ ?_ (fun hHeld => ?_)
       ·exact sS q1 q2
       clear hK K r0 r1 r2 r3 r4 r5 r6 s0 s1 s2 s3 s4 s5 s6
       try simp only [sq]
       generalize (((((((U4.setCell ⟨zb,0,none⟩ (.int .i64 c0)).setCell ⟨zb,1,none⟩ (.int .i64 c1)).setCell ⟨zb,2,none⟩ (.int .i64 c2)).setCell ⟨zb,3,none⟩ (.int .i64 c3)).setCell ⟨zb,4,none⟩ (.bool c4)).setCell ⟨zb,5,none⟩ (.slice ca cn cc)).setCell ⟨zb,6,none⟩ (.slice cb cm cd)) = U5 at *
       refine tkV ?_ 10 rfl (fun _ _ _ h => h) hHeld ?_ ?_
       rotate_left
       ·intro w hSw;(try dsimp only at hSw);go_simp;try (with_reducible rfl)
       try simp only [sq]
       refine wpAnyH_done (by kernel_rfl) ?_ _
       go_wp2_with fail
       go_meet
       exact ⟨zb,hw,Sw,rfl,rfl,by rw [HCV.out];exact hF,hko,hnz,hzl,hBB⟩
     ·skip
      try simp only [sq]
      go_simp
      have qZ:=heap_alloc_new U0 (.cells #[.int .i64 0,.int .i64 0,.int .i64 0,.int .i64 0,.bool false,.slice none 0 0,.slice none 0 0] 35)
      have hal:=balloc (Below.refl U0.heap.size U0) (.cells #[.int .i64 0,.int .i64 0,.int .i64 0,.int .i64 0,.bool false,.slice none 0 0,.slice none 0 0] 35)
      have hzl:=hbz.size
      replace q1:=keepheap hal q1
      replace q2:=keepheap hal q2
      replace hbz:=btrans hbz hal
      clear hal
      refine hK.out _ _ ?_ (fun hHeld => ?_)
      ·exact sS q1 q2
      clear hK K
      try simp only [sq]
      generalize U0.alloc (.cells #[.int .i64 0,.int .i64 0,.int .i64 0,.int .i64 0,.bool false,.slice none 0 0,.slice none 0 0] 35) = U1 at *
      generalize U0.heap.size = zb at *
      refine rd1 1 rfl (fun K hK => ?_)
      try simp only [sq]
      go_simp
      go_at_call 9
      refine (CT.out _ (btrans B0.out hbz) hz).mono ?_
      rintro e U2 ⟨yi,yk,rfl,HKN,hbn⟩
      replace q1:=keepheap hbn q1
      replace q2:=keepheap hbn q2
      replace hbz:=btrans hbz hbn
      replace qZ:=keepheap hbn qZ
      clear hbn
      go_wp2_with fail
      refine hK.out _ _ ?_ (fun hHeld => ?_)
      ·exact sS q1 q2
      clear hK K
      try simp only [sq]
      refine rd1 3 rfl (fun K hK => ?_)
      try simp only [sq]
      go_simp
      go_at_call 10
      refine (CX.out _).mono ?_
      rintro e U3 ⟨rfl,hbn⟩
      replace q1:=keepheap hbn q1
      replace q2:=keepheap hbn q2
      replace hbz:=btrans hbz hbn
      replace HKN:=HKN.below hbn
      replace qZ:=keepheap hbn qZ
      clear hbn
      go_wp2_with fail
      refine hK.out _ _ ?_ (fun hHeld => ?_)
      ·exact sS q1 q2
      clear hK K
      try simp only [sq]
      refine rd1 4 rfl (fun K hK => ?_)
      try simp only [sq]
      go_simp
      go_at_call 11
      refine (CI.out _ _ _ _ HKN hz).mono ?_
      rintro e U4 ⟨hw,Sw,rfl,hko,hbn⟩
      have hlow:=hbz.size
      have hza:=lt_of_heap qZ
      have hnz:zb ∉ Sw:=fun hc => by have:=(hko.lt _ hc).1;omega
      replace q1:=keepheap hbn q1
      replace q2:=keepheap hbn q2
      replace hbz:=btrans hbz hbn
      replace qZ:=keepheap hbn qZ
      replace hko:=KO.lo hlow hko
      have hvw:=kvh_cells pa hw
      obtain ⟨c0,c1,c2,c3,c4,ca,cn,cc,cb,cm,cd,hcv,_⟩:=kh (pa,hw,Sw)
      have hcv':ckh pa hw = [.int .i64 c0,.int .i64 c1,.int .i64 c2,.int .i64 c3,.bool c4,.slice ca cn cc,.slice cb cm cd]:=hcv
      rw [hcv'] at hvw
      have HCV:=hid hcv'
      rw [hvw]
      clear hcv hcv' hvw
      clear hbn
      go_wp2_with fail
      refine hK.out _ _ ?_ (fun hHeld => ?_)
      ·exact sS q1 q2
      clear hK K
      try simp only [sq]
      refine tkV ?_ 5 rfl (fun _ _ _ h => h) hHeld ?_ ?_
      rotate_left
      ·intro w hSw;(try dsimp only at hSw);go_simp;try (with_reducible rfl)
      try simp only [sq]
      refine tkV ?_ 6 rfl (fun _ _ _ h => h) hHeld ?_ ?_
      rotate_left
      ·intro w hSw;(try dsimp only at hSw);go_simp;try (with_reducible rfl)
      try simp only [sq]
      refine tkV ?_ 7 rfl (fun _ _ _ h => h) hHeld ?_ ?_
      rotate_left
      ·intro w hSw;(try dsimp only at hSw);go_simp;try (with_reducible rfl)
      try simp only [sq]
      refine rd1 9 rfl (fun K hK => ?_)
      have hq1:=lt_of_heap q1
      obtain ⟨r0,r1,r2,r3,r4,r5,r6,s0,s1,s2,s3,s4,s5,s6⟩:=cell7k qZ
      try simp only [sq]
      obtain ⟨hF,hO,hBB⟩:=sF [.int .i64 c0,.int .i64 c1,.int .i64 c2,.int .i64 c3,.bool c4,.slice ca cn cc,.slice cb cm cd] qZ rfl hbz hzl
      simp only [setL,Nat.zero_add,Nat.reduceAdd] at hF hO hBB
      replace q1:=(hO _ (by omega)).trans q1
      replace q2:=(hO _ (by omega)).trans q2
      replace hko:=hko.keep (fun b hb' => hO b (fun e => hnz (e ▸ hb')))
      go_simp
      refine hK.out _ _ ?_ (fun hHeld => ?_)
      ·exact sS q1 q2
      clear hK K r0 r1 r2 r3 r4 r5 r6 s0 s1 s2 s3 s4 s5 s6
      try simp only [sq]
      generalize (((((((U4.setCell ⟨zb,0,none⟩ (.int .i64 c0)).setCell ⟨zb,1,none⟩ (.int .i64 c1)).setCell ⟨zb,2,none⟩ (.int .i64 c2)).setCell ⟨zb,3,none⟩ (.int .i64 c3)).setCell ⟨zb,4,none⟩ (.bool c4)).setCell ⟨zb,5,none⟩ (.slice ca cn cc)).setCell ⟨zb,6,none⟩ (.slice cb cm cd)) = U5 at *
      refine tkV ?_ 10 rfl (fun _ _ _ h => h) hHeld ?_ ?_
      rotate_left
      ·intro w hSw;(try dsimp only at hSw);go_simp;try (with_reducible rfl)
      try simp only [sq]
      refine wpAnyH_done (by kernel_rfl) ?_ _
      go_wp2_with fail
      go_meet
      exact ⟨zb,hw,Sw,rfl,rfl,by rw [HCV.out];exact hF,hko,hnz,hzl,hBB⟩
    case rest =>
     obtain ⟨zh,hh,Sh,rfl,rfl,qH,kH,hnh,hlh,hc⟩:=hcut
     have gH:=hid qH
     have KH:=hid kH
     replace gL:=hid (keepheap hc gL.out)
     replace gE:=hid (keepheap hc gE.out)
     replace gW:=hid (keepheap hc gW.out)
     replace gG:=hid (keepheap hc gG.out)
     replace KW:=hid (KW.out.below hc)
     replace KG:=hid (KG.out.below hc)
     replace B0:=hid (btrans B0.out hc)
     clear hc qH kH
     obtain ⟨j0,j1,j2,j3,j4,ja,jn,jc,jb,jm,jd,hyv,_⟩:=kh (pa,hh,Sh)
     have hyv':ckh pa hh = [.int .i64 j0,.int .i64 j1,.int .i64 j2,.int .i64 j3,.bool j4,.slice ja jn jc,.slice jb jm jd]:=hyv
     have hkq:kvh pa hh = .agg #[.int .i64 j0,.int .i64 j1,.int .i64 j2,.int .i64 j3,.bool j4,.slice ja jn jc,.slice jb jm jd]:=by
      rw [kvh_cells,hyv']
     rw [hyv'] at gH
     clear hyv hyv'
     have EQ3:=hid (EQ2.out _ _ hh Sh KH.out KW.out)
     rw [hkq] at EQ3
     clear hkq EQ2
     obtain ⟨a0,a1,a2,a3,a4,a5,a6,_,_,_,_,_,_,_⟩:=cell7k gH.out
     obtain ⟨d0,d1,d2,d3,d4,d5,d6,_,_,_,_,_,_,_⟩:=cell7k gW.out
     go_wp2_with fail
     refine EQ3.out.mono ?_
     rintro e v14 ⟨rfl,hb14⟩
     replace gL:=hid (keepheap hb14 gL.out)
     replace gE:=hid (keepheap hb14 gE.out)
     replace gW:=hid (keepheap hb14 gW.out)
     replace gG:=hid (keepheap hb14 gG.out)
     replace gH:=hid (keepheap hb14 gH.out)
     replace KW:=hid (KW.out.below hb14)
     replace KG:=hid (KG.out.below hb14)
     replace KH:=hid (KH.out.below hb14)
     replace B0:=hid (btrans B0.out hb14)
     clear hb14 a0 a1 a2 a3 a4 a5 a6 d0 d1 d2 d3 d4 d5 d6 EQ3
     obtain ⟨a0,a1,a2,a3,a4,a5,a6,_,_,_,_,_,_,_⟩:=cell7k gG.out
     go_wp2_with fail
     refine (HG1.out _ KG.out).mono ?_
     rintro e v15 ⟨rfl,hb15⟩
     have BFF:=hid (btrans B0.out hb15)
     clear hb15 a0 a1 a2 a3 a4 a5 a6
     go_wp2_with fail
     go_ret
     exact ⟨rfl,BFF.out⟩
 ·have hle:szr 1048576 (ksz n t) < 0:=by unfold szr;split <;> omega
  generalize szr 1048576 (ksz n t) = zz at *
  go_enter Tryz.func3,Tryz.ntmps3
  go_wp2_with fail
  refine (CZ.out _ B0.out).mono ?_
  rintro e v1 ⟨rfl,hb1⟩
  have BF:=hid (btrans B0.out hb1)
  clear hb1
  go_wp2_with fail
  go_ret
  exact ⟨rfl,BF.out⟩
end Go.Proofs.YtjahlofahjgdbaaGreat
