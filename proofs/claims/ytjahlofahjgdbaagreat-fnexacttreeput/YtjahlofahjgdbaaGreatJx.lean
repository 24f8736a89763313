import Derived.Test.YtjahlofahjgdbaaGreatJ15
import Derived.Test.YtjahlofahjgdbaaGreatJg
set_option maxRecDepth 100000
set_option maxHeartbeats 16000000
set_option linter.unusedSimpArgs false
set_option linter.unusedVariables false
namespace Go.Proofs.YtjahlofahjgdbaaGreat
open Go.RowKit
theorem spec_splitI (lo n0:Nat) (b0 b1 b2 b3:Int) (its:List It) (ia ka:Option Addr) (ic kc:Nat) (S:List Nat) (w:World) (k:KO lo (n0 + 1) w (ia,ic,ka,kc) S (.mk (b0,b1,b2,b3) true its [])) (hlo:lo ≤ w.heap.size) (h5:4 < its.length) (hm:its.length ≤ 1048576) (hok:its.all (fun x => bkb x.2) = true):Calls Tryz.prog 102 #[.agg #[.int .i64 b0,.int .i64 b1,.int .i64 b2,.int .i64 b3,.bool true,.slice ia its.length ic,.slice ka 0 kc]] w (KRow w lo (n0 + 1) S [knotL ((isort befI its).take 3),knotL ((isort befI its).drop 3)]):=by
 obtain ⟨i0,hi0,hz0,hz1,hzz⟩:=info_parts Tryz.infoIt
 have hI2:(3:Int) ≤ (its.length:Int):=by omega
 have HBLD:Tryz.prog.built 35 [(1,.bool true)] = some #[.int .i64 0,.int .i64 0,.int .i64 0,.int .i64 0,.bool true,.slice none 0 0,.slice none 0 0]:=by kernel_rfl
 obtain ⟨ps,l1,r1,r2,hS,hN,hk⟩:=k
 obtain ⟨g,e0,hg,_⟩:=row_cs r1 (by show 0 < its.length;omega)
 have e0':ia = some ⟨g,0,none⟩:=e0
 subst e0'
 have hgS:g ∈ S:=hS.mem_iff.2 (by simp [hb])
 have HM:=hid (rfl:its.length = its.length)
 obtain ⟨hc3,hc63⟩:its.length ≤ ic ∧ ic ≤ 9223372036854775807:=row_caps r1
 have hI1:(3:Int) ≤ (ic:Int):=by omega
 have hne3:¬ ic = 3:=by omega
 have hI3:(its.length:Int) ≤ (ic:Int):=by omega
 have HR0:w.ownsRow lo 40 5 (.slice (some ⟨g,0,none⟩) its.length ic) its.length (flI its):=r1
 have FAN:∀ W:World,Calls Tryz.prog 101 #[.agg #[.int .i64 b0,.int .i64 b1,.int .i64 b2,.int .i64 b3,.bool true,.slice (some ⟨g,0,none⟩) its.length ic,.slice ka 0 kc]] W fun e w' => e = .returned (.int .i64 (its.length:Int)) ∧ Below W.heap.size W w':=fun W => spec_fan (.mk (b0,b1,b2,b3) true its []) (some ⟨g,0,none⟩) ic ka kc W
 have HOK:Hid (∀ x ∈ its,bkb x.2 = true):=hid (fun (x:It) (hx:x ∈ its) => List.all_eq_true.1 hok x hx)
 have hSL:=isort_len befI its
 generalize hmm:its.length = m at *
 have HMM:=hid hmm
 have HALL:=hid (srtd_all befI its (n:=m) (by omega))
 obtain ⟨srt,hsrt⟩:∃ srt,srt = isort befI its:=⟨_,rfl⟩
 rw [← hsrt] at hSL ⊢
 rw [← hsrt] at HALL
 clear hsrt r1 r2 hk hS hN l1 hok hmm
 have DONE:∀ (aA aB:Option Addr) (cA cB:Nat) (X:World),(∀ b ∈ hb aA,b ∉ hb aB) → Hid (X.ownsRow w.heap.size 40 5 (.slice aA 3 cA) 3 (flI (srt.take 3))) → Hid (X.ownsRow w.heap.size 40 5 (.slice aB (m - 3) cB) (m - 3) (flI (srt.drop 3))) → Hid (Fr [g] w X) → w.heap.size ≤ X.heap.size → KRow w lo (n0 + 1) S [knotL (srt.take 3),knotL (srt.drop 3)] (.returned (.slice (some ⟨X.heap.size,0,none⟩) 2 2)) (X.alloc (.cells #[.int .i64 (jns ((srt.take 3).map (·.2))).1,.int .i64 (jns ((srt.take 3).map (·.2))).2.1,.int .i64 (jns ((srt.take 3).map (·.2))).2.2.1,.int .i64 (jns ((srt.take 3).map (·.2))).2.2.2,.bool true,.slice aA 3 cA,.slice none 0 0,.int .i64 (jns ((srt.drop 3).map (·.2))).1,.int .i64 (jns ((srt.drop 3).map (·.2))).2.1,.int .i64 (jns ((srt.drop 3).map (·.2))).2.2.1,.int .i64 (jns ((srt.drop 3).map (·.2))).2.2.2,.bool true,.slice aB (m - 3) cB,.slice none 0 0] 35)):=by
  intro aA aB cA cB X hd HA HB HF hsz
  have e1:(srt.take 3).length = 3:=by rw [List.length_take];omega
  have e2:(srt.drop 3).length = m - 3:=by rw [List.length_drop];omega
  have kA:KO lo (n0 + 1) X (aA,cA,none,0) (hb aA) (knotL (srt.take 3)):=KO.lo hlo (KO.leafy _ true (by rw [e1];exact HA.out))
  have kB:KO lo (n0 + 1) X (aB,cB,none,0) (hb aB) (knotL (srt.drop 3)):=KO.lo hlo (KO.leafy _ true (by rw [e2];exact HB.out))
  have hal:Below X.heap.size X (X.alloc (.cells (ckh (knotL (srt.take 3)) (aA,cA,none,0) ++ ckh (knotL (srt.drop 3)) (aB,cB,none,0)).toArray 35)):=balloc (Below.refl _ _) _
  have:=KRow.two (w0:=w) (S:=S) (p:=(knotL (srt.take 3),(aA,cA,none,0),hb aA)) (q:=(knotL (srt.drop 3),(aB,cB,none,0),hb aB)) (kA.below hal) (kB.below hal) hd (heap_alloc_new X _) hsz (fun hc => by have:=(kA.lt _ hc).2;omega) (fun hc => by have:=(kB.lt _ hc).2;omega) (fun b hb' => .inr (row_lt HA.out b hb').1) (fun b hb' => .inr (row_lt HB.out b hb').1) ((HF.out.bel hal).mono (fun k hk => by rw [List.mem_singleton] at hk;subst hk;exact .inl hgS))
  have this2:KRow w lo (n0 + 1) S [knotL (srt.take 3),knotL (srt.drop 3)] (.returned (.slice (some ⟨X.heap.size,0,none⟩) 2 2)) (X.alloc (.cells #[.int .i64 (jns ((srt.take 3).map (·.2))).1,.int .i64 (jns ((srt.take 3).map (·.2))).2.1,.int .i64 (jns ((srt.take 3).map (·.2))).2.2.1,.int .i64 (jns ((srt.take 3).map (·.2))).2.2.2,.bool true,.slice aA (srt.take 3).length cA,.slice none 0 0,.int .i64 (jns ((srt.drop 3).map (·.2))).1,.int .i64 (jns ((srt.drop 3).map (·.2))).2.1,.int .i64 (jns ((srt.drop 3).map (·.2))).2.2.1,.int .i64 (jns ((srt.drop 3).map (·.2))).2.2.2,.bool true,.slice aB (srt.drop 3).length cB,.slice none 0 0] 35)):=this
  rw [e1,e2] at this2
  exact this2
 have AR:∀ (l:List It) (n:Nat) (hl:l.length = n) (hn:n ≤ 1048576) (W:World) (a:Option Addr) (c:Nat),Hid (W.ownsRow w.heap.size 40 5 (.slice a n c) n (flI l)) → Calls Tryz.prog 77 #[.agg #[.int .i64 0,.int .i64 0,.int .i64 0,.int .i64 0,.bool true,.slice a n c,.slice none 0 0]] W fun e w' => e = .returned (.agg #[.int .i64 (jns (l.map (·.2))).1,.int .i64 (jns (l.map (·.2))).2.1,.int .i64 (jns (l.map (·.2))).2.2.1,.int .i64 (jns (l.map (·.2))).2.2.2]) ∧ Below W.heap.size W w':=by
  intro l n hl hn W a c h
  have kA:KO w.heap.size (0 + 1) W (a,c,none,0) (hb a) (.mk (0,0,0,0) true l []):=KO.leafy _ true (by rw [hl];exact h.out)
  have:=ko_around kA (by show l.length ≤ _;omega) (by show 0 ≤ _;omega)
  subst hl
  exact this
 have ARA:=hid (fun (W:World) (a:Option Addr) (c:Nat) => AR (srt.take 3) 3 (by rw [List.length_take];omega) (by omega) W a c)
 have ARB:=hid (fun (W:World) (a:Option Addr) (c:Nat) => AR (srt.drop 3) (m - 3) (by rw [List.length_drop];omega) (by omega) W a c)
 have SRC:∀ W:World,Hid (W.ownsRow lo 40 5 (.slice (some ⟨g,0,none⟩) m ic) m (flI srt)) → SrcA W (some ⟨g,0,none⟩) 3 (flI (srt.take 3)) ∧ SrcA W (some ⟨g,15,none⟩) (m - 3) (flI (srt.drop 3)):=by
  intro W h
  obtain ⟨g',e1,_,hc⟩:=row_cs h.out (by omega)
  cases e1
  refine ⟨.inr ⟨_,rfl,fun j u e => ?_⟩,.inr ⟨_,rfl,fun j u e => ?_⟩⟩
  ·rw [Addr.add_mid]
   refine hc j u ?_
   rw [show flI (srt.take 3) = (flI srt).take (3 * 5) from flat_take ci_len srt 3,List.getElem?_take] at e
   split at e
   ·exact e
   ·cases e
  ·rw [Addr.add_mid]
   have:=hc (15 + j) u (by
    rw [show flI (srt.drop 3) = (flI srt).drop (3 * 5) from flat_drop ci_len srt 3,List.getElem?_drop] at e
    exact e)
   rwa [Nat.zero_add] at this
 have SRCA:=hid (fun (W:World) h => (SRC W h).1)
 have SRCB:=hid (fun (W:World) h => (SRC W h).2)
 have HLA:=hid (show (flI (srt.take 3)).length = 3 * 5 by rw [flI_len,List.length_take];omega)
 have HLB:=hid (show (flI (srt.drop 3)).length = (m - 3) * 5 by rw [flI_len,List.length_drop];omega)
 have HDONE:=hid DONE
 clear AR SRC DONE
 generalize srt.take 3 = l1 at *
 generalize srt.drop 3 = l2 at *
 have hnm:¬ ((m:Int) ≤ 4):=by omega
 have gT:=new_alloc w w.heap.size (.cells #[.int .i64 b0,.int .i64 b1,.int .i64 b2,.int .i64 b3,.bool true,.slice (some ⟨g,0,none⟩) m ic,.slice ka 0 kc] 35) rfl
 have hB0:=balloc (Below.refl w.heap.size w) (.cells #[.int .i64 b0,.int .i64 b1,.int .i64 b2,.int .i64 b3,.bool true,.slice (some ⟨g,0,none⟩) m ic,.slice ka 0 kc] 35)
 have HR:=hid (row_blk HR0 (fun b hb' => hB0.block b (row_lt HR0 b hb').2))
 have HF:=hid (Fr.of hB0 [g])
 have hgw:g < w.heap.size:=hg
 have hgb:∀ b,b ∈ hb (some (⟨g,0,none⟩:Addr)) → b = g:=fun b hb' => by simpa [hb] using hb'
 clear HR0 hB0 hg
 go_enter Tryz.func102,Tryz.ntmps102
 go_wp2_with fail
 refine (FAN _).mono ?_
 rintro e v1 ⟨rfl,hb⟩
 replace gT:=keepheap hb gT
 replace HR:=hid (row_blk HR.out (fun b hb' => hb.block b (row_lt HR.out b hb').2))
 replace HF:=hid (HF.out.bel hb)
 clear hb FAN
 obtain ⟨_,_,_,_,_,a5,a6,_,_,_,_,_,_,_⟩:=cell7k gT
 go_wp2_with fail
 clear a5 a6
 go_loopw [3] (fun ti wr => ∃ i:Nat,ti = .int .i64 i ∧ 1 ≤ i ∧ i ≤ m ∧ wr.heap[w.heap.size]? = some (.cells #[.int .i64 b0,.int .i64 b1,.int .i64 b2,.int .i64 b3,.bool true,.slice (some ⟨g,0,none⟩) m ic,.slice ka 0 kc] 35 (0,0)) ∧ Hid (wr.ownsRow lo 40 5 (.slice (some ⟨g,0,none⟩) m ic) m (flI (srtd befI its i))) ∧ Hid (Fr [g] w wr)) (fun ti _ => m - (intOf ti).toNat)
 case atStart => exact ⟨1,rfl,Nat.le_refl _,by omega,gT,hid (by rw [srtd_one];exact HR.out),HF⟩
 case round =>
  clear gT HR HF
  obtain ⟨i,rfl,hi1,him,gT,HR,HF⟩:=hrel
  obtain ⟨_,_,_,_,_,a5,a6,_,_,_,_,_,_,_⟩:=cell7k gT
  by_cases hlt:i < m
  ·have c1:(i:Int) < (m:Int):=by omega
   have hil:i < its.length:=by rw [HMM.out];exact hlt
   have HST:=hid (InvK.start (lt:=befI) hil)
   have HLE:=hid (fun (j:Nat) (l':List It) (h:InvK befI its i j l') => h.le hil)
   have HPM:=hid (fun (j:Nat) (l':List It) (h:InvK befI its i j l') => h.perm)
   have HY':=hid (fun (q:Nat) (l':List It) (h:InvK befI its i (q + 1) l') => h.yes befI_sw hil)
   have HN':=hid (fun (q:Nat) (l':List It) (h:InvK befI its i (q + 1) l') => h.no' (k:=q))
   clear hil
   go_wp2_with fail
   clear a5 a6
   go_loopw [4] (fun tj wq => ∃ (j:Nat) (l':List It),tj = .int .i64 j ∧ j ≤ i ∧ Hid (InvK befI its i j l') ∧ wq.heap[w.heap.size]? = some (.cells #[.int .i64 b0,.int .i64 b1,.int .i64 b2,.int .i64 b3,.bool true,.slice (some ⟨g,0,none⟩) m ic,.slice ka 0 kc] 35 (0,0)) ∧ Hid (wq.ownsRow lo 40 5 (.slice (some ⟨g,0,none⟩) m ic) m (flI l')) ∧ Hid (Fr [g] w wq)) (fun tj _ => (intOf tj).toNat)
   case atStart => exact ⟨i,_,rfl,Nat.le_refl _,HST,gT,HR,HF⟩
   case round =>
    clear gT HR HF HST
    obtain ⟨j,l',rfl,hji,HINV,gT,HR,HF⟩:=hrel
    obtain ⟨_,_,_,_,_,a5,a6,_,_,_,_,_,_,_⟩:=cell7k gT
    rcases j with _ | q
    ·have HE:=hid (HINV.out.nil)
     go_wp2_with fail
     go_roundw
     case rel => exact ⟨i + 1,by go_num,by omega,by omega,gT,hid (by rw [← HE.out];exact HR.out),HF⟩
     case measure => simp [intOf];omega
    ·have hLL:l'.length = m:=by rw [← HMM.out];exact (HPM.out _ _ HINV.out).length_eq
     have HMEM:=hid (fun x (hx:x ∈ l') => HOK.out x ((HPM.out _ _ HINV.out).mem_iff.1 hx))
     have hq1:q + 1 < l'.length:=by omega
     have hx:l'[q + 1] = l'[q + 1]:=rfl
     have hy:l'[q]'(by omega) = l'[q]'(by omega):=rfl
     have HBX:=hid (HMEM.out _ (List.getElem_mem hq1))
     have HBY:=hid (HMEM.out _ (List.getElem_mem (show q < l'.length by omega)))
     have HXC:=hid (fun (W:World) (h:Hid (W.ownsRow lo 40 5 (.slice (some ⟨g,0,none⟩) m ic) m (flI l'))) => row_itAt h.out (q + 1) hq1)
     have HYC:=hid (fun (W:World) (h:Hid (W.ownsRow lo 40 5 (.slice (some ⟨g,0,none⟩) m ic) m (flI l'))) => row_itAt h.out q (by omega))
     have HYES:=hid (fun hb => hid (HY'.out q l' HINV.out hq1 hb))
     have HNO:=hid (fun hb => hid (HN'.out q l' HINV.out (by omega) hq1 hb))
     have HSW:=hid (swp2_at hq1)
     have HLL:=hid hLL
     clear HMEM HINV hx hy hLL
     generalize l'[q + 1] = x at *
     generalize l'[q]'(by omega) = y at *
     obtain ⟨x0,x1,x2,x3,x4⟩:=x
     obtain ⟨y0,y1,y2,y3,y4⟩:=y
     obtain ⟨j,hj⟩:∃ j,j = q + 1:=⟨_,rfl⟩
     rw [← hj] at HXC HSW ⊢
     have HX:=HXC
     have HY:=HYC
     have BXY:=hid (fun (W:World) => spec_before x1 x2 x3 x4 y1 y2 y3 y4 W HBX.out HBY.out)
     have BYX:=hid (fun (W:World) => spec_before y1 y2 y3 y4 x1 x2 x3 x4 W HBY.out HBX.out)
     have HBT:=hid (show befI (x0,x1,x2,x3,x4) (y0,y1,y2,y3,y4) = (bef (x1,x2,x3,x4) (y1,y2,y3,y4) || (!bef (y1,y2,y3,y4) (x1,x2,x3,x4) && decide (x0 < y0))) from rfl)
     have hqn:q < m:=by omega
     have hjm:j < m:=by omega
     have hwq:IntKind.i64.wrap ((j:Int) - 1) = (q:Int):=by rw [hj,IntKind.wrap_i64] <;> omega
     have hj0:(0:Int) < (j:Int):=by omega
     have hjI:(j:Int) < (m:Int):=by omega
     have hqI:(q:Int) < (m:Int):=by omega
     have hq0:(0:Int) ≤ (q:Int):=by omega
     have HJQ:=hid hj
     clear hj HXC HYC HBX HBY hq1 HPM HLE HY' HN'
     go_upto_region 10 with fail
     clear a5 a6
     refine wp_region_late (L:=[]) (S:=(fun w' => w'.cell? ⟨w.heap.size,5,none⟩ = some (.slice (some ⟨g,0,none⟩) m ic) ∧ w'.cell? ⟨g,q * 5,none⟩ = some (.int .i64 y0) ∧ w'.cell? ⟨g,q * 5 + 1,none⟩ = some (.int .i64 y1) ∧ w'.cell? ⟨g,q * 5 + 2,none⟩ = some (.int .i64 y2) ∧ w'.cell? ⟨g,q * 5 + 3,none⟩ = some (.int .i64 y3) ∧ w'.cell? ⟨g,q * 5 + 4,none⟩ = some (.int .i64 y4) ∧ w'.cell? ⟨g,j * 5,none⟩ = some (.int .i64 x0) ∧ w'.cell? ⟨g,j * 5 + 1,none⟩ = some (.int .i64 x1) ∧ w'.cell? ⟨g,j * 5 + 2,none⟩ = some (.int .i64 x2) ∧ w'.cell? ⟨g,j * 5 + 3,none⟩ = some (.int .i64 x3) ∧ w'.cell? ⟨g,j * 5 + 4,none⟩ = some (.int .i64 x4))) (by kernel_rfl) ?_ (fun hHeld => ?_)
     ·(obtain ⟨_,_,_,_,_,a5,_,_,_,_,_,_,_,_⟩:=cell7k gT;obtain ⟨q0,q1,q2,q3,q4⟩:=Cs.item5 (HY.out _ HR);obtain ⟨p0,p1,p2,p3,p4⟩:=Cs.item5 (HX.out _ HR);exact ⟨a5,q0,q1,q2,q3,q4,p0,p1,p2,p3,p4⟩)
     replace HR:=hid (HR.out.drew)
     replace HF:=hid (HF.out.bel (bdrew (Below.refl _ _)))
     replace gT:=keepheap (bdrew (Below.refl _ _)) gT
     generalize wr.drew = Va0 at *
     refine tkP 0 hHeld ?_
     try simp only [sq]
     refine tkA 1 hHeld ?_
     try simp only [sq]
     refine tkP 2 hHeld ?_
     try simp only [sq]
     refine tkP 3 hHeld ?_
     try simp only [sq]
     refine tkP 4 hHeld ?_
     try simp only [sq]
     refine tkA 5 hHeld ?_
     try simp only [sq]
     refine tkP 6 hHeld ?_
     try simp only [sq]
     refine tkA 7 hHeld ?_
     try simp only [sq]
     refine tkP 8 hHeld ?_
     try simp only [sq]
     refine tkP 9 hHeld ?_
     try simp only [sq]
     refine tkA 10 hHeld ?_
     try simp only [sq]
     refine anyL_2 (i:=11) (j:=12) rfl rfl (by kernel_rfl) rfl rfl ?_ ?_
     ·skip
      clear hHeld
      refine wpo_val (by go_simp;first | done | with_reducible rfl | rfl | exact ⟨rfl,rfl⟩) ?_
      have gA:=heap_alloc_new Va0 (.cells #[.int .i64 0,.int .i64 0,.int .i64 0,.int .i64 0,.int .i64 0] 40)
      have hTA:=lt_of_heap gT
      replace gT:=old_alloc (o':=(.cells #[.int .i64 0,.int .i64 0,.int .i64 0,.int .i64 0,.int .i64 0] 40)) gT
      replace HR:=hid (HR.out.alloc (.cells #[.int .i64 0,.int .i64 0,.int .i64 0,.int .i64 0,.int .i64 0] 40))
      replace HF:=hid (HF.out.bel (balloc (Below.refl _ _) (.cells #[.int .i64 0,.int .i64 0,.int .i64 0,.int .i64 0,.int .i64 0] 40)))
      obtain ⟨A,hA⟩:∃ A,A = Va0.heap.size:=⟨_,rfl⟩
      rw [← hA] at gA hTA ⊢
      generalize Va0.alloc (.cells #[.int .i64 0,.int .i64 0,.int .i64 0,.int .i64 0,.int .i64 0] 40) = Va1 at *
      clear hA
      refine ⟨by (obtain ⟨_,_,_,_,_,a5,_,_,_,_,_,_,_,_⟩:=cell7k gT;obtain ⟨q0,q1,q2,q3,q4⟩:=Cs.item5 (HY.out _ HR);obtain ⟨p0,p1,p2,p3,p4⟩:=Cs.item5 (HX.out _ HR);exact ⟨a5,q0,q1,q2,q3,q4,p0,p1,p2,p3,p4⟩),fun hHeld => ?_⟩
      try simp only [sq]
      refine anyL_1 (i:=12) rfl (by kernel_rfl) rfl ?_
      clear hHeld
      refine wpo_val (by go_simp;first | done | with_reducible rfl | rfl | exact ⟨rfl,rfl⟩) ?_
      have gB:=heap_alloc_new Va1 (.cells #[.int .i64 0,.int .i64 0,.int .i64 0,.int .i64 0,.int .i64 0] 40)
      have hTB:=lt_of_heap gT
      replace gT:=old_alloc (o':=(.cells #[.int .i64 0,.int .i64 0,.int .i64 0,.int .i64 0,.int .i64 0] 40)) gT
      have hAB:=lt_of_heap gA
      replace gA:=old_alloc (o':=(.cells #[.int .i64 0,.int .i64 0,.int .i64 0,.int .i64 0,.int .i64 0] 40)) gA
      replace HR:=hid (HR.out.alloc (.cells #[.int .i64 0,.int .i64 0,.int .i64 0,.int .i64 0,.int .i64 0] 40))
      replace HF:=hid (HF.out.bel (balloc (Below.refl _ _) (.cells #[.int .i64 0,.int .i64 0,.int .i64 0,.int .i64 0,.int .i64 0] 40)))
      obtain ⟨B,hB⟩:∃ B,B = Va1.heap.size:=⟨_,rfl⟩
      rw [← hB] at gB hTB ⊢
      rw [← hB] at hAB
      generalize Va1.alloc (.cells #[.int .i64 0,.int .i64 0,.int .i64 0,.int .i64 0,.int .i64 0] 40) = Va2 at *
      clear hB
      refine ⟨by (obtain ⟨_,_,_,_,_,a5,_,_,_,_,_,_,_,_⟩:=cell7k gT;obtain ⟨q0,q1,q2,q3,q4⟩:=Cs.item5 (HY.out _ HR);obtain ⟨p0,p1,p2,p3,p4⟩:=Cs.item5 (HX.out _ HR);exact ⟨a5,q0,q1,q2,q3,q4,p0,p1,p2,p3,p4⟩),fun hHeld => ?_⟩
      try simp only [sq]
      refine anyL_1 (i:=13) rfl (by kernel_rfl) rfl ?_
      obtain ⟨u0,u1,u2,u3,u4,f0,f1,f2,f3,f4⟩:=cell5j gA
      clear hHeld
      refine wpo_st (by go_simp;first | done | with_reducible rfl | rfl | exact ⟨rfl,rfl⟩) ?_
      clear u0 u1 u2 u3 u4 f0 f1 f2 f3 f4
      have q1:=setL_new [.int .i64 y0,.int .i64 y1,.int .i64 y2,.int .i64 y3,.int .i64 y4] gA rfl
      have q2:=(setL_blk [.int .i64 y0,.int .i64 y1,.int .i64 y2,.int .i64 y3,.int .i64 y4] Va2 A 0 w.heap.size (by omega)).trans gT
      have q3:=(setL_blk [.int .i64 y0,.int .i64 y1,.int .i64 y2,.int .i64 y3,.int .i64 y4] Va2 A 0 B (by omega)).trans gB
      have q4:=row_blk HR.out (fun b hb' => setL_blk [.int .i64 y0,.int .i64 y1,.int .i64 y2,.int .i64 y3,.int .i64 y4] Va2 A 0 b (by have h9:=hgb b hb';omega))
      have q5:=fr_setN (g:=A) HF.out (.inr (by omega)) [.int .i64 y0,.int .i64 y1,.int .i64 y2,.int .i64 y3,.int .i64 y4] 0
      simp only [setL,Nat.zero_add,Nat.reduceAdd] at q1 q2 q3 q4 q5
      clear gA gT gB HR HF
      generalize (((((Va2.setCell ⟨A,0,none⟩ (.int .i64 y0)).setCell ⟨A,1,none⟩ (.int .i64 y1)).setCell ⟨A,2,none⟩ (.int .i64 y2)).setCell ⟨A,3,none⟩ (.int .i64 y3)).setCell ⟨A,4,none⟩ (.int .i64 y4)) = Va3 at *
      have gA:=q1
      have gT:=q2
      have gB:=q3
      have HR:=hid q4
      have HF:=hid q5
      clear q1 q2 q3 q4 q5
      refine ⟨by (obtain ⟨_,_,_,_,_,a5,_,_,_,_,_,_,_,_⟩:=cell7k gT;obtain ⟨q0,q1,q2,q3,q4⟩:=Cs.item5 (HY.out _ HR);obtain ⟨p0,p1,p2,p3,p4⟩:=Cs.item5 (HX.out _ HR);exact ⟨a5,q0,q1,q2,q3,q4,p0,p1,p2,p3,p4⟩),fun hHeld => ?_⟩
      try simp only [sq]
      refine anyL_1 (i:=14) rfl (by kernel_rfl) rfl ?_
      obtain ⟨u0,u1,u2,u3,u4,f0,f1,f2,f3,f4⟩:=cell5j gB
      clear hHeld
      refine wpo_st (by go_simp;first | done | with_reducible rfl | rfl | exact ⟨rfl,rfl⟩) ?_
      clear u0 u1 u2 u3 u4 f0 f1 f2 f3 f4
      have q1:=setL_new [.int .i64 x0,.int .i64 x1,.int .i64 x2,.int .i64 x3,.int .i64 x4] gB rfl
      have q2:=(setL_blk [.int .i64 x0,.int .i64 x1,.int .i64 x2,.int .i64 x3,.int .i64 x4] Va3 B 0 w.heap.size (by omega)).trans gT
      have q3:=(setL_blk [.int .i64 x0,.int .i64 x1,.int .i64 x2,.int .i64 x3,.int .i64 x4] Va3 B 0 A (by omega)).trans gA
      have q4:=row_blk HR.out (fun b hb' => setL_blk [.int .i64 x0,.int .i64 x1,.int .i64 x2,.int .i64 x3,.int .i64 x4] Va3 B 0 b (by have h9:=hgb b hb';omega))
      have q5:=fr_setN (g:=B) HF.out (.inr (by omega)) [.int .i64 x0,.int .i64 x1,.int .i64 x2,.int .i64 x3,.int .i64 x4] 0
      simp only [setL,Nat.zero_add,Nat.reduceAdd] at q1 q2 q3 q4 q5
      clear gB gT gA HR HF
      generalize (((((Va3.setCell ⟨B,0,none⟩ (.int .i64 x0)).setCell ⟨B,1,none⟩ (.int .i64 x1)).setCell ⟨B,2,none⟩ (.int .i64 x2)).setCell ⟨B,3,none⟩ (.int .i64 x3)).setCell ⟨B,4,none⟩ (.int .i64 x4)) = Va4 at *
      have gB:=q1
      have gT:=q2
      have gA:=q3
      have HR:=hid q4
      have HF:=hid q5
      clear q1 q2 q3 q4 q5
      refine ⟨by (obtain ⟨_,_,_,_,_,a5,_,_,_,_,_,_,_,_⟩:=cell7k gT;obtain ⟨q0,q1,q2,q3,q4⟩:=Cs.item5 (HY.out _ HR);obtain ⟨p0,p1,p2,p3,p4⟩:=Cs.item5 (HX.out _ HR);exact ⟨a5,q0,q1,q2,q3,q4,p0,p1,p2,p3,p4⟩),fun hHeld => ?_⟩
      try simp only [sq]
      refine anyL_done (by kernel_rfl) ?_ _
      obtain ⟨ka0,ka1,ka2,ka3,ka4,_,_,_,_,_⟩:=cell5j gA
      obtain ⟨kb0,kb1,kb2,kb3,kb4,_,_,_,_,_⟩:=cell5j gB
      go_wp2_with fail
      refine (BXY.out _).mono ?_
      rintro e Y1 ⟨rfl,hb⟩
      replace gT:=keepheap hb gT
      replace gA:=keepheap hb gA
      replace gB:=keepheap hb gB
      replace HR:=hid (row_blk HR.out (fun b hb' => hb.block b (by have h9:=(row_lt HR.out b hb').2;exact h9)))
      replace HF:=hid (HF.out.bel hb)
      clear hb
      clear ka0 ka1 ka2 ka3 ka4 kb0 kb1 kb2 kb3 kb4
      obtain ⟨ka0,ka1,ka2,ka3,ka4,_,_,_,_,_⟩:=cell5j gA
      obtain ⟨kb0,kb1,kb2,kb3,kb4,_,_,_,_,_⟩:=cell5j gB
      cases hr1:bef (x1,x2,x3,x4) (y1,y2,y3,y4)
      ·rw [hr1] at HBT
       go_wp2_with fail
       refine (BYX.out _).mono ?_
       rintro e Y2 ⟨rfl,hb⟩
       replace gT:=keepheap hb gT
       replace gA:=keepheap hb gA
       replace gB:=keepheap hb gB
       replace HR:=hid (row_blk HR.out (fun b hb' => hb.block b (by have h9:=(row_lt HR.out b hb').2;exact h9)))
       replace HF:=hid (HF.out.bel hb)
       clear hb
       clear ka0 ka1 ka2 ka3 ka4 kb0 kb1 kb2 kb3 kb4
       obtain ⟨ka0,ka1,ka2,ka3,ka4,_,_,_,_,_⟩:=cell5j gA
       obtain ⟨kb0,kb1,kb2,kb3,kb4,_,_,_,_,_⟩:=cell5j gB
       cases hr2:bef (y1,y2,y3,y4) (x1,x2,x3,x4)
       ·rw [hr2] at HBT
        by_cases hlt0:x0 < y0
        ·have hbt:befI (x0,x1,x2,x3,x4) (y0,y1,y2,y3,y4) = true:=by rw [HBT.out];simp [hlt0]
         go_upto_region 12 with fail
         clear ka0 ka1 ka2 ka3 ka4 kb0 kb1 kb2 kb3 kb4
         obtain ⟨_,_,_,_,_,a5,_,_,_,_,_,_,_,_⟩:=cell7k gT
         obtain ⟨k0,k1,k2,k3,k4,_,_,_,_,_⟩:=cell5j gB
         have hth:=row_there HR.out
         obtain ⟨s0,s0'⟩:=hth (q * 5) (by omega)
         obtain ⟨s1,s1'⟩:=hth (q * 5 + 1) (by omega)
         obtain ⟨s2,s2'⟩:=hth (q * 5 + 2) (by omega)
         obtain ⟨s3,s3'⟩:=hth (q * 5 + 3) (by omega)
         obtain ⟨s4,s4'⟩:=hth (q * 5 + 4) (by omega)
         obtain ⟨u0,hu0⟩:=Option.isSome_iff_exists.1 s0
         obtain ⟨u1,hu1⟩:=Option.isSome_iff_exists.1 s1
         obtain ⟨u2,hu2⟩:=Option.isSome_iff_exists.1 s2
         obtain ⟨u3,hu3⟩:=Option.isSome_iff_exists.1 s3
         obtain ⟨u4,hu4⟩:=Option.isSome_iff_exists.1 s4
         simp only [Nat.zero_add,← Nat.add_assoc] at s0' s1' s2' s3' s4' hu0 hu1 hu2 hu3 hu4
         clear s0 s1 s2 s3 s4 hth
         go_upto_region 13 with fail
         have hr10:=row_setI HR.out HLL.out hqn (x0,x1,x2,x3,x4)
         have hf10:=Fr.setL HF.out [.int .i64 x0,.int .i64 x1,.int .i64 x2,.int .i64 x3,.int .i64 x4] (q * 5)
         refine wp_wld (fun X => X.heap[w.heap.size]? = some (.cells #[.int .i64 b0,.int .i64 b1,.int .i64 b2,.int .i64 b3,.bool true,.slice (some ⟨g,0,none⟩) m ic,.slice ka 0 kc] 35 (0,0)) ∧ X.heap[A]? = some (.cells #[.int .i64 y0,.int .i64 y1,.int .i64 y2,.int .i64 y3,.int .i64 y4] 40 (0,0)) ∧ Hid (X.ownsRow lo 40 5 (.slice (some ⟨g,0,none⟩) m ic) m (flI (l'.set q (x0,x1,x2,x3,x4)))) ∧ Hid (Fr [g] w X)) ⟨(setL_blk [.int .i64 x0,.int .i64 x1,.int .i64 x2,.int .i64 x3,.int .i64 x4] _ g (q * 5) _ (by omega)).trans gT,(setL_blk [.int .i64 x0,.int .i64 x1,.int .i64 x2,.int .i64 x3,.int .i64 x4] _ g (q * 5) _ (by omega)).trans gA,hid hr10,hid hf10⟩ ?_
         clear k0 k1 k2 k3 k4 s0' s1' s2' s3' s4' hu0 hu1 hu2 hu3 hu4 a5 hr10 hf10 gT gA HR HF gB
         rintro X ⟨gT,gA,HR,HF⟩
         obtain ⟨_,_,_,_,_,a5,_,_,_,_,_,_,_,_⟩:=cell7k gT
         obtain ⟨k0,k1,k2,k3,k4,_,_,_,_,_⟩:=cell5j gA
         have hth:=row_there HR.out
         obtain ⟨s0,s0'⟩:=hth (j * 5) (by omega)
         obtain ⟨s1,s1'⟩:=hth (j * 5 + 1) (by omega)
         obtain ⟨s2,s2'⟩:=hth (j * 5 + 2) (by omega)
         obtain ⟨s3,s3'⟩:=hth (j * 5 + 3) (by omega)
         obtain ⟨s4,s4'⟩:=hth (j * 5 + 4) (by omega)
         obtain ⟨u0,hu0⟩:=Option.isSome_iff_exists.1 s0
         obtain ⟨u1,hu1⟩:=Option.isSome_iff_exists.1 s1
         obtain ⟨u2,hu2⟩:=Option.isSome_iff_exists.1 s2
         obtain ⟨u3,hu3⟩:=Option.isSome_iff_exists.1 s3
         obtain ⟨u4,hu4⟩:=Option.isSome_iff_exists.1 s4
         simp only [Nat.zero_add,← Nat.add_assoc] at s0' s1' s2' s3' s4' hu0 hu1 hu2 hu3 hu4
         clear s0 s1 s2 s3 s4 hth
         go_upto_region 9 with fail
         have hr11:=row_setI HR.out (by rw [List.length_set];exact HLL.out) hjm (y0,y1,y2,y3,y4)
         have hf11:=Fr.setL HF.out [.int .i64 y0,.int .i64 y1,.int .i64 y2,.int .i64 y3,.int .i64 y4] (j * 5)
         rw [← HSW.out] at hr11
         refine wp_wld (fun X => X.heap[w.heap.size]? = some (.cells #[.int .i64 b0,.int .i64 b1,.int .i64 b2,.int .i64 b3,.bool true,.slice (some ⟨g,0,none⟩) m ic,.slice ka 0 kc] 35 (0,0)) ∧ Hid (X.ownsRow lo 40 5 (.slice (some ⟨g,0,none⟩) m ic) m (flI (swp2 l' q))) ∧ Hid (Fr [g] w X)) ⟨(setL_blk [.int .i64 y0,.int .i64 y1,.int .i64 y2,.int .i64 y3,.int .i64 y4] _ g (j * 5) _ (by omega)).trans gT,hid hr11,hid hf11⟩ ?_
         clear k0 k1 k2 k3 k4 s0' s1' s2' s3' s4' hu0 hu1 hu2 hu3 hu4 a5 hr11 hf11 gT gA HR HF
         rintro X ⟨gT,HR,HF⟩
         go_wp2_with fail
         go_roundw
         case rel => exact ⟨q,swp2 l' q,by first | rfl | go_num,by omega,HYES.out hbt,gT,HR,HF⟩
         case measure => have:=HJQ.out;simp [intOf];omega
        ·have hbt:befI (x0,x1,x2,x3,x4) (y0,y1,y2,y3,y4) = false:=by rw [HBT.out];simp [hlt0]
         go_wp2_with fail
         go_roundw
         case rel => exact ⟨q,l',by first | rfl | go_num,by omega,HNO.out hbt,gT,HR,HF⟩
         case measure => have:=HJQ.out;simp [intOf];omega
       ·rw [hr2] at HBT
        have hbt:befI (x0,x1,x2,x3,x4) (y0,y1,y2,y3,y4) = false:=by rw [HBT.out];simp
        go_wp2_with fail
        go_roundw
        case rel => exact ⟨q,l',by first | rfl | go_num,by omega,HNO.out hbt,gT,HR,HF⟩
        case measure => have:=HJQ.out;simp [intOf];omega
      ·rw [hr1] at HBT
       have hbt:befI (x0,x1,x2,x3,x4) (y0,y1,y2,y3,y4) = true:=by rw [HBT.out];simp
       go_upto_region 12 with fail
       clear ka0 ka1 ka2 ka3 ka4 kb0 kb1 kb2 kb3 kb4
       obtain ⟨_,_,_,_,_,a5,_,_,_,_,_,_,_,_⟩:=cell7k gT
       obtain ⟨k0,k1,k2,k3,k4,_,_,_,_,_⟩:=cell5j gB
       have hth:=row_there HR.out
       obtain ⟨s0,s0'⟩:=hth (q * 5) (by omega)
       obtain ⟨s1,s1'⟩:=hth (q * 5 + 1) (by omega)
       obtain ⟨s2,s2'⟩:=hth (q * 5 + 2) (by omega)
       obtain ⟨s3,s3'⟩:=hth (q * 5 + 3) (by omega)
       obtain ⟨s4,s4'⟩:=hth (q * 5 + 4) (by omega)
       obtain ⟨u0,hu0⟩:=Option.isSome_iff_exists.1 s0
       obtain ⟨u1,hu1⟩:=Option.isSome_iff_exists.1 s1
       obtain ⟨u2,hu2⟩:=Option.isSome_iff_exists.1 s2
       obtain ⟨u3,hu3⟩:=Option.isSome_iff_exists.1 s3
       obtain ⟨u4,hu4⟩:=Option.isSome_iff_exists.1 s4
       simp only [Nat.zero_add,← Nat.add_assoc] at s0' s1' s2' s3' s4' hu0 hu1 hu2 hu3 hu4
       clear s0 s1 s2 s3 s4 hth
       go_upto_region 13 with fail
       have hr10:=row_setI HR.out HLL.out hqn (x0,x1,x2,x3,x4)
       have hf10:=Fr.setL HF.out [.int .i64 x0,.int .i64 x1,.int .i64 x2,.int .i64 x3,.int .i64 x4] (q * 5)
       refine wp_wld (fun X => X.heap[w.heap.size]? = some (.cells #[.int .i64 b0,.int .i64 b1,.int .i64 b2,.int .i64 b3,.bool true,.slice (some ⟨g,0,none⟩) m ic,.slice ka 0 kc] 35 (0,0)) ∧ X.heap[A]? = some (.cells #[.int .i64 y0,.int .i64 y1,.int .i64 y2,.int .i64 y3,.int .i64 y4] 40 (0,0)) ∧ Hid (X.ownsRow lo 40 5 (.slice (some ⟨g,0,none⟩) m ic) m (flI (l'.set q (x0,x1,x2,x3,x4)))) ∧ Hid (Fr [g] w X)) ⟨(setL_blk [.int .i64 x0,.int .i64 x1,.int .i64 x2,.int .i64 x3,.int .i64 x4] _ g (q * 5) _ (by omega)).trans gT,(setL_blk [.int .i64 x0,.int .i64 x1,.int .i64 x2,.int .i64 x3,.int .i64 x4] _ g (q * 5) _ (by omega)).trans gA,hid hr10,hid hf10⟩ ?_
       clear k0 k1 k2 k3 k4 s0' s1' s2' s3' s4' hu0 hu1 hu2 hu3 hu4 a5 hr10 hf10 gT gA HR HF gB
       rintro X ⟨gT,gA,HR,HF⟩
       obtain ⟨_,_,_,_,_,a5,_,_,_,_,_,_,_,_⟩:=cell7k gT
       obtain ⟨k0,k1,k2,k3,k4,_,_,_,_,_⟩:=cell5j gA
       have hth:=row_there HR.out
       obtain ⟨s0,s0'⟩:=hth (j * 5) (by omega)
       obtain ⟨s1,s1'⟩:=hth (j * 5 + 1) (by omega)
       obtain ⟨s2,s2'⟩:=hth (j * 5 + 2) (by omega)
       obtain ⟨s3,s3'⟩:=hth (j * 5 + 3) (by omega)
       obtain ⟨s4,s4'⟩:=hth (j * 5 + 4) (by omega)
       obtain ⟨u0,hu0⟩:=Option.isSome_iff_exists.1 s0
       obtain ⟨u1,hu1⟩:=Option.isSome_iff_exists.1 s1
       obtain ⟨u2,hu2⟩:=Option.isSome_iff_exists.1 s2
       obtain ⟨u3,hu3⟩:=Option.isSome_iff_exists.1 s3
       obtain ⟨u4,hu4⟩:=Option.isSome_iff_exists.1 s4
       simp only [Nat.zero_add,← Nat.add_assoc] at s0' s1' s2' s3' s4' hu0 hu1 hu2 hu3 hu4
       clear s0 s1 s2 s3 s4 hth
       go_upto_region 9 with fail
       have hr11:=row_setI HR.out (by rw [List.length_set];exact HLL.out) hjm (y0,y1,y2,y3,y4)
       have hf11:=Fr.setL HF.out [.int .i64 y0,.int .i64 y1,.int .i64 y2,.int .i64 y3,.int .i64 y4] (j * 5)
       rw [← HSW.out] at hr11
       refine wp_wld (fun X => X.heap[w.heap.size]? = some (.cells #[.int .i64 b0,.int .i64 b1,.int .i64 b2,.int .i64 b3,.bool true,.slice (some ⟨g,0,none⟩) m ic,.slice ka 0 kc] 35 (0,0)) ∧ Hid (X.ownsRow lo 40 5 (.slice (some ⟨g,0,none⟩) m ic) m (flI (swp2 l' q))) ∧ Hid (Fr [g] w X)) ⟨(setL_blk [.int .i64 y0,.int .i64 y1,.int .i64 y2,.int .i64 y3,.int .i64 y4] _ g (j * 5) _ (by omega)).trans gT,hid hr11,hid hf11⟩ ?_
       clear k0 k1 k2 k3 k4 s0' s1' s2' s3' s4' hu0 hu1 hu2 hu3 hu4 a5 hr11 hf11 gT gA HR HF
       rintro X ⟨gT,HR,HF⟩
       go_wp2_with fail
       go_roundw
       case rel => exact ⟨q,swp2 l' q,by first | rfl | go_num,by omega,HYES.out hbt,gT,HR,HF⟩
       case measure => have:=HJQ.out;simp [intOf];omega
     ·skip
      clear hHeld
      refine wpo_val (by go_simp;first | done | with_reducible rfl | rfl | exact ⟨rfl,rfl⟩) ?_
      have gB:=heap_alloc_new Va0 (.cells #[.int .i64 0,.int .i64 0,.int .i64 0,.int .i64 0,.int .i64 0] 40)
      have hTB:=lt_of_heap gT
      replace gT:=old_alloc (o':=(.cells #[.int .i64 0,.int .i64 0,.int .i64 0,.int .i64 0,.int .i64 0] 40)) gT
      replace HR:=hid (HR.out.alloc (.cells #[.int .i64 0,.int .i64 0,.int .i64 0,.int .i64 0,.int .i64 0] 40))
      replace HF:=hid (HF.out.bel (balloc (Below.refl _ _) (.cells #[.int .i64 0,.int .i64 0,.int .i64 0,.int .i64 0,.int .i64 0] 40)))
      obtain ⟨B,hB⟩:∃ B,B = Va0.heap.size:=⟨_,rfl⟩
      rw [← hB] at gB hTB ⊢
      generalize Va0.alloc (.cells #[.int .i64 0,.int .i64 0,.int .i64 0,.int .i64 0,.int .i64 0] 40) = Va1 at *
      clear hB
      refine ⟨by (obtain ⟨_,_,_,_,_,a5,_,_,_,_,_,_,_,_⟩:=cell7k gT;obtain ⟨q0,q1,q2,q3,q4⟩:=Cs.item5 (HY.out _ HR);obtain ⟨p0,p1,p2,p3,p4⟩:=Cs.item5 (HX.out _ HR);exact ⟨a5,q0,q1,q2,q3,q4,p0,p1,p2,p3,p4⟩),fun hHeld => ?_⟩
      try simp only [sq]
      refine anyL_1 (i:=11) rfl (by kernel_rfl) rfl ?_
      clear hHeld
      refine wpo_val (by go_simp;first | done | with_reducible rfl | rfl | exact ⟨rfl,rfl⟩) ?_
      have gA:=heap_alloc_new Va1 (.cells #[.int .i64 0,.int .i64 0,.int .i64 0,.int .i64 0,.int .i64 0] 40)
      have hTA:=lt_of_heap gT
      replace gT:=old_alloc (o':=(.cells #[.int .i64 0,.int .i64 0,.int .i64 0,.int .i64 0,.int .i64 0] 40)) gT
      have hAB:=lt_of_heap gB
      replace gB:=old_alloc (o':=(.cells #[.int .i64 0,.int .i64 0,.int .i64 0,.int .i64 0,.int .i64 0] 40)) gB
      replace HR:=hid (HR.out.alloc (.cells #[.int .i64 0,.int .i64 0,.int .i64 0,.int .i64 0,.int .i64 0] 40))
      replace HF:=hid (HF.out.bel (balloc (Below.refl _ _) (.cells #[.int .i64 0,.int .i64 0,.int .i64 0,.int .i64 0,.int .i64 0] 40)))
      obtain ⟨A,hA⟩:∃ A,A = Va1.heap.size:=⟨_,rfl⟩
      rw [← hA] at gA hTA ⊢
      rw [← hA] at hAB
      generalize Va1.alloc (.cells #[.int .i64 0,.int .i64 0,.int .i64 0,.int .i64 0,.int .i64 0] 40) = Va2 at *
      clear hA
      refine ⟨by (obtain ⟨_,_,_,_,_,a5,_,_,_,_,_,_,_,_⟩:=cell7k gT;obtain ⟨q0,q1,q2,q3,q4⟩:=Cs.item5 (HY.out _ HR);obtain ⟨p0,p1,p2,p3,p4⟩:=Cs.item5 (HX.out _ HR);exact ⟨a5,q0,q1,q2,q3,q4,p0,p1,p2,p3,p4⟩),fun hHeld => ?_⟩
      try simp only [sq]
      refine anyL_1 (i:=13) rfl (by kernel_rfl) rfl ?_
      obtain ⟨u0,u1,u2,u3,u4,f0,f1,f2,f3,f4⟩:=cell5j gA
      clear hHeld
      refine wpo_st (by go_simp;first | done | with_reducible rfl | rfl | exact ⟨rfl,rfl⟩) ?_
      clear u0 u1 u2 u3 u4 f0 f1 f2 f3 f4
      have q1:=setL_new [.int .i64 y0,.int .i64 y1,.int .i64 y2,.int .i64 y3,.int .i64 y4] gA rfl
      have q2:=(setL_blk [.int .i64 y0,.int .i64 y1,.int .i64 y2,.int .i64 y3,.int .i64 y4] Va2 A 0 w.heap.size (by omega)).trans gT
      have q3:=(setL_blk [.int .i64 y0,.int .i64 y1,.int .i64 y2,.int .i64 y3,.int .i64 y4] Va2 A 0 B (by omega)).trans gB
      have q4:=row_blk HR.out (fun b hb' => setL_blk [.int .i64 y0,.int .i64 y1,.int .i64 y2,.int .i64 y3,.int .i64 y4] Va2 A 0 b (by have h9:=hgb b hb';omega))
      have q5:=fr_setN (g:=A) HF.out (.inr (by omega)) [.int .i64 y0,.int .i64 y1,.int .i64 y2,.int .i64 y3,.int .i64 y4] 0
      simp only [setL,Nat.zero_add,Nat.reduceAdd] at q1 q2 q3 q4 q5
      clear gA gT gB HR HF
      generalize (((((Va2.setCell ⟨A,0,none⟩ (.int .i64 y0)).setCell ⟨A,1,none⟩ (.int .i64 y1)).setCell ⟨A,2,none⟩ (.int .i64 y2)).setCell ⟨A,3,none⟩ (.int .i64 y3)).setCell ⟨A,4,none⟩ (.int .i64 y4)) = Va3 at *
      have gA:=q1
      have gT:=q2
      have gB:=q3
      have HR:=hid q4
      have HF:=hid q5
      clear q1 q2 q3 q4 q5
      refine ⟨by (obtain ⟨_,_,_,_,_,a5,_,_,_,_,_,_,_,_⟩:=cell7k gT;obtain ⟨q0,q1,q2,q3,q4⟩:=Cs.item5 (HY.out _ HR);obtain ⟨p0,p1,p2,p3,p4⟩:=Cs.item5 (HX.out _ HR);exact ⟨a5,q0,q1,q2,q3,q4,p0,p1,p2,p3,p4⟩),fun hHeld => ?_⟩
      try simp only [sq]
      refine anyL_1 (i:=14) rfl (by kernel_rfl) rfl ?_
      obtain ⟨u0,u1,u2,u3,u4,f0,f1,f2,f3,f4⟩:=cell5j gB
      clear hHeld
      refine wpo_st (by go_simp;first | done | with_reducible rfl | rfl | exact ⟨rfl,rfl⟩) ?_
      clear u0 u1 u2 u3 u4 f0 f1 f2 f3 f4
      have q1:=setL_new [.int .i64 x0,.int .i64 x1,.int .i64 x2,.int .i64 x3,.int .i64 x4] gB rfl
      have q2:=(setL_blk [.int .i64 x0,.int .i64 x1,.int .i64 x2,.int .i64 x3,.int .i64 x4] Va3 B 0 w.heap.size (by omega)).trans gT
      have q3:=(setL_blk [.int .i64 x0,.int .i64 x1,.int .i64 x2,.int .i64 x3,.int .i64 x4] Va3 B 0 A (by omega)).trans gA
      have q4:=row_blk HR.out (fun b hb' => setL_blk [.int .i64 x0,.int .i64 x1,.int .i64 x2,.int .i64 x3,.int .i64 x4] Va3 B 0 b (by have h9:=hgb b hb';omega))
      have q5:=fr_setN (g:=B) HF.out (.inr (by omega)) [.int .i64 x0,.int .i64 x1,.int .i64 x2,.int .i64 x3,.int .i64 x4] 0
      simp only [setL,Nat.zero_add,Nat.reduceAdd] at q1 q2 q3 q4 q5
      clear gB gT gA HR HF
      generalize (((((Va3.setCell ⟨B,0,none⟩ (.int .i64 x0)).setCell ⟨B,1,none⟩ (.int .i64 x1)).setCell ⟨B,2,none⟩ (.int .i64 x2)).setCell ⟨B,3,none⟩ (.int .i64 x3)).setCell ⟨B,4,none⟩ (.int .i64 x4)) = Va4 at *
      have gB:=q1
      have gT:=q2
      have gA:=q3
      have HR:=hid q4
      have HF:=hid q5
      clear q1 q2 q3 q4 q5
      refine ⟨by (obtain ⟨_,_,_,_,_,a5,_,_,_,_,_,_,_,_⟩:=cell7k gT;obtain ⟨q0,q1,q2,q3,q4⟩:=Cs.item5 (HY.out _ HR);obtain ⟨p0,p1,p2,p3,p4⟩:=Cs.item5 (HX.out _ HR);exact ⟨a5,q0,q1,q2,q3,q4,p0,p1,p2,p3,p4⟩),fun hHeld => ?_⟩
      try simp only [sq]
      refine anyL_done (by kernel_rfl) ?_ _
      obtain ⟨ka0,ka1,ka2,ka3,ka4,_,_,_,_,_⟩:=cell5j gA
      obtain ⟨kb0,kb1,kb2,kb3,kb4,_,_,_,_,_⟩:=cell5j gB
      go_wp2_with fail
      refine (BXY.out _).mono ?_
      rintro e Y1 ⟨rfl,hb⟩
      replace gT:=keepheap hb gT
      replace gA:=keepheap hb gA
      replace gB:=keepheap hb gB
      replace HR:=hid (row_blk HR.out (fun b hb' => hb.block b (by have h9:=(row_lt HR.out b hb').2;exact h9)))
      replace HF:=hid (HF.out.bel hb)
      clear hb
      clear ka0 ka1 ka2 ka3 ka4 kb0 kb1 kb2 kb3 kb4
      obtain ⟨ka0,ka1,ka2,ka3,ka4,_,_,_,_,_⟩:=cell5j gA
      obtain ⟨kb0,kb1,kb2,kb3,kb4,_,_,_,_,_⟩:=cell5j gB
      cases hr1:bef (x1,x2,x3,x4) (y1,y2,y3,y4)
      ·rw [hr1] at HBT
       go_wp2_with fail
       refine (BYX.out _).mono ?_
       rintro e Y2 ⟨rfl,hb⟩
       replace gT:=keepheap hb gT
       replace gA:=keepheap hb gA
       replace gB:=keepheap hb gB
       replace HR:=hid (row_blk HR.out (fun b hb' => hb.block b (by have h9:=(row_lt HR.out b hb').2;exact h9)))
       replace HF:=hid (HF.out.bel hb)
       clear hb
       clear ka0 ka1 ka2 ka3 ka4 kb0 kb1 kb2 kb3 kb4
       obtain ⟨ka0,ka1,ka2,ka3,ka4,_,_,_,_,_⟩:=cell5j gA
       obtain ⟨kb0,kb1,kb2,kb3,kb4,_,_,_,_,_⟩:=cell5j gB
       cases hr2:bef (y1,y2,y3,y4) (x1,x2,x3,x4)
       ·rw [hr2] at HBT
        by_cases hlt0:x0 < y0
        ·have hbt:befI (x0,x1,x2,x3,x4) (y0,y1,y2,y3,y4) = true:=by rw [HBT.out];simp [hlt0]
         go_upto_region 12 with fail
         clear ka0 ka1 ka2 ka3 ka4 kb0 kb1 kb2 kb3 kb4
         obtain ⟨_,_,_,_,_,a5,_,_,_,_,_,_,_,_⟩:=cell7k gT
         obtain ⟨k0,k1,k2,k3,k4,_,_,_,_,_⟩:=cell5j gB
         have hth:=row_there HR.out
         obtain ⟨s0,s0'⟩:=hth (q * 5) (by omega)
         obtain ⟨s1,s1'⟩:=hth (q * 5 + 1) (by omega)
         obtain ⟨s2,s2'⟩:=hth (q * 5 + 2) (by omega)
         obtain ⟨s3,s3'⟩:=hth (q * 5 + 3) (by omega)
         obtain ⟨s4,s4'⟩:=hth (q * 5 + 4) (by omega)
         obtain ⟨u0,hu0⟩:=Option.isSome_iff_exists.1 s0
         obtain ⟨u1,hu1⟩:=Option.isSome_iff_exists.1 s1
         obtain ⟨u2,hu2⟩:=Option.isSome_iff_exists.1 s2
         obtain ⟨u3,hu3⟩:=Option.isSome_iff_exists.1 s3
         obtain ⟨u4,hu4⟩:=Option.isSome_iff_exists.1 s4
         simp only [Nat.zero_add,← Nat.add_assoc] at s0' s1' s2' s3' s4' hu0 hu1 hu2 hu3 hu4
         clear s0 s1 s2 s3 s4 hth
         go_upto_region 13 with fail
         have hr10:=row_setI HR.out HLL.out hqn (x0,x1,x2,x3,x4)
         have hf10:=Fr.setL HF.out [.int .i64 x0,.int .i64 x1,.int .i64 x2,.int .i64 x3,.int .i64 x4] (q * 5)
         refine wp_wld (fun X => X.heap[w.heap.size]? = some (.cells #[.int .i64 b0,.int .i64 b1,.int .i64 b2,.int .i64 b3,.bool true,.slice (some ⟨g,0,none⟩) m ic,.slice ka 0 kc] 35 (0,0)) ∧ X.heap[A]? = some (.cells #[.int .i64 y0,.int .i64 y1,.int .i64 y2,.int .i64 y3,.int .i64 y4] 40 (0,0)) ∧ Hid (X.ownsRow lo 40 5 (.slice (some ⟨g,0,none⟩) m ic) m (flI (l'.set q (x0,x1,x2,x3,x4)))) ∧ Hid (Fr [g] w X)) ⟨(setL_blk [.int .i64 x0,.int .i64 x1,.int .i64 x2,.int .i64 x3,.int .i64 x4] _ g (q * 5) _ (by omega)).trans gT,(setL_blk [.int .i64 x0,.int .i64 x1,.int .i64 x2,.int .i64 x3,.int .i64 x4] _ g (q * 5) _ (by omega)).trans gA,hid hr10,hid hf10⟩ ?_
         clear k0 k1 k2 k3 k4 s0' s1' s2' s3' s4' hu0 hu1 hu2 hu3 hu4 a5 hr10 hf10 gT gA HR HF gB
         rintro X ⟨gT,gA,HR,HF⟩
         obtain ⟨_,_,_,_,_,a5,_,_,_,_,_,_,_,_⟩:=cell7k gT
         obtain ⟨k0,k1,k2,k3,k4,_,_,_,_,_⟩:=cell5j gA
         have hth:=row_there HR.out
         obtain ⟨s0,s0'⟩:=hth (j * 5) (by omega)
         obtain ⟨s1,s1'⟩:=hth (j * 5 + 1) (by omega)
         obtain ⟨s2,s2'⟩:=hth (j * 5 + 2) (by omega)
         obtain ⟨s3,s3'⟩:=hth (j * 5 + 3) (by omega)
         obtain ⟨s4,s4'⟩:=hth (j * 5 + 4) (by omega)
         obtain ⟨u0,hu0⟩:=Option.isSome_iff_exists.1 s0
         obtain ⟨u1,hu1⟩:=Option.isSome_iff_exists.1 s1
         obtain ⟨u2,hu2⟩:=Option.isSome_iff_exists.1 s2
         obtain ⟨u3,hu3⟩:=Option.isSome_iff_exists.1 s3
         obtain ⟨u4,hu4⟩:=Option.isSome_iff_exists.1 s4
         simp only [Nat.zero_add,← Nat.add_assoc] at s0' s1' s2' s3' s4' hu0 hu1 hu2 hu3 hu4
         clear s0 s1 s2 s3 s4 hth
         go_upto_region 9 with fail
         have hr11:=row_setI HR.out (by rw [List.length_set];exact HLL.out) hjm (y0,y1,y2,y3,y4)
         have hf11:=Fr.setL HF.out [.int .i64 y0,.int .i64 y1,.int .i64 y2,.int .i64 y3,.int .i64 y4] (j * 5)
         rw [← HSW.out] at hr11
         refine wp_wld (fun X => X.heap[w.heap.size]? = some (.cells #[.int .i64 b0,.int .i64 b1,.int .i64 b2,.int .i64 b3,.bool true,.slice (some ⟨g,0,none⟩) m ic,.slice ka 0 kc] 35 (0,0)) ∧ Hid (X.ownsRow lo 40 5 (.slice (some ⟨g,0,none⟩) m ic) m (flI (swp2 l' q))) ∧ Hid (Fr [g] w X)) ⟨(setL_blk [.int .i64 y0,.int .i64 y1,.int .i64 y2,.int .i64 y3,.int .i64 y4] _ g (j * 5) _ (by omega)).trans gT,hid hr11,hid hf11⟩ ?_
         clear k0 k1 k2 k3 k4 s0' s1' s2' s3' s4' hu0 hu1 hu2 hu3 hu4 a5 hr11 hf11 gT gA HR HF
         rintro X ⟨gT,HR,HF⟩
         go_wp2_with fail
         go_roundw
         case rel => exact ⟨q,swp2 l' q,by first | rfl | go_num,by omega,HYES.out hbt,gT,HR,HF⟩
         case measure => have:=HJQ.out;simp [intOf];omega
        ·have hbt:befI (x0,x1,x2,x3,x4) (y0,y1,y2,y3,y4) = false:=by rw [HBT.out];simp [hlt0]
         go_wp2_with fail
         go_roundw
         case rel => exact ⟨q,l',by first | rfl | go_num,by omega,HNO.out hbt,gT,HR,HF⟩
         case measure => have:=HJQ.out;simp [intOf];omega
       ·rw [hr2] at HBT
        have hbt:befI (x0,x1,x2,x3,x4) (y0,y1,y2,y3,y4) = false:=by rw [HBT.out];simp
        go_wp2_with fail
        go_roundw
        case rel => exact ⟨q,l',by first | rfl | go_num,by omega,HNO.out hbt,gT,HR,HF⟩
        case measure => have:=HJQ.out;simp [intOf];omega
      ·rw [hr1] at HBT
       have hbt:befI (x0,x1,x2,x3,x4) (y0,y1,y2,y3,y4) = true:=by rw [HBT.out];simp
       go_upto_region 12 with fail
       clear ka0 ka1 ka2 ka3 ka4 kb0 kb1 kb2 kb3 kb4
       obtain ⟨_,_,_,_,_,a5,_,_,_,_,_,_,_,_⟩:=cell7k gT
       obtain ⟨k0,k1,k2,k3,k4,_,_,_,_,_⟩:=cell5j gB
       have hth:=row_there HR.out
       obtain ⟨s0,s0'⟩:=hth (q * 5) (by omega)
       obtain ⟨s1,s1'⟩:=hth (q * 5 + 1) (by omega)
       obtain ⟨s2,s2'⟩:=hth (q * 5 + 2) (by omega)
       obtain ⟨s3,s3'⟩:=hth (q * 5 + 3) (by omega)
       obtain ⟨s4,s4'⟩:=hth (q * 5 + 4) (by omega)
       obtain ⟨u0,hu0⟩:=Option.isSome_iff_exists.1 s0
       obtain ⟨u1,hu1⟩:=Option.isSome_iff_exists.1 s1
       obtain ⟨u2,hu2⟩:=Option.isSome_iff_exists.1 s2
       obtain ⟨u3,hu3⟩:=Option.isSome_iff_exists.1 s3
       obtain ⟨u4,hu4⟩:=Option.isSome_iff_exists.1 s4
       simp only [Nat.zero_add,← Nat.add_assoc] at s0' s1' s2' s3' s4' hu0 hu1 hu2 hu3 hu4
       clear s0 s1 s2 s3 s4 hth
       go_upto_region 13 with fail
       have hr10:=row_setI HR.out HLL.out hqn (x0,x1,x2,x3,x4)
       have hf10:=Fr.setL HF.out [.int .i64 x0,.int .i64 x1,.int .i64 x2,.int .i64 x3,.int .i64 x4] (q * 5)
       refine wp_wld (fun X => X.heap[w.heap.size]? = some (.cells #[.int .i64 b0,.int .i64 b1,.int .i64 b2,.int .i64 b3,.bool true,.slice (some ⟨g,0,none⟩) m ic,.slice ka 0 kc] 35 (0,0)) ∧ X.heap[A]? = some (.cells #[.int .i64 y0,.int .i64 y1,.int .i64 y2,.int .i64 y3,.int .i64 y4] 40 (0,0)) ∧ Hid (X.ownsRow lo 40 5 (.slice (some ⟨g,0,none⟩) m ic) m (flI (l'.set q (x0,x1,x2,x3,x4)))) ∧ Hid (Fr [g] w X)) ⟨(setL_blk [.int .i64 x0,.int .i64 x1,.int .i64 x2,.int .i64 x3,.int .i64 x4] _ g (q * 5) _ (by omega)).trans gT,(setL_blk [.int .i64 x0,.int .i64 x1,.int .i64 x2,.int .i64 x3,.int .i64 x4] _ g (q * 5) _ (by omega)).trans gA,hid hr10,hid hf10⟩ ?_
       clear k0 k1 k2 k3 k4 s0' s1' s2' s3' s4' hu0 hu1 hu2 hu3 hu4 a5 hr10 hf10 gT gA HR HF gB
       rintro X ⟨gT,gA,HR,HF⟩
       obtain ⟨_,_,_,_,_,a5,_,_,_,_,_,_,_,_⟩:=cell7k gT
       obtain ⟨k0,k1,k2,k3,k4,_,_,_,_,_⟩:=cell5j gA
       have hth:=row_there HR.out
       obtain ⟨s0,s0'⟩:=hth (j * 5) (by omega)
       obtain ⟨s1,s1'⟩:=hth (j * 5 + 1) (by omega)
       obtain ⟨s2,s2'⟩:=hth (j * 5 + 2) (by omega)
       obtain ⟨s3,s3'⟩:=hth (j * 5 + 3) (by omega)
       obtain ⟨s4,s4'⟩:=hth (j * 5 + 4) (by omega)
       obtain ⟨u0,hu0⟩:=Option.isSome_iff_exists.1 s0
       obtain ⟨u1,hu1⟩:=Option.isSome_iff_exists.1 s1
       obtain ⟨u2,hu2⟩:=Option.isSome_iff_exists.1 s2
       obtain ⟨u3,hu3⟩:=Option.isSome_iff_exists.1 s3
       obtain ⟨u4,hu4⟩:=Option.isSome_iff_exists.1 s4
       simp only [Nat.zero_add,← Nat.add_assoc] at s0' s1' s2' s3' s4' hu0 hu1 hu2 hu3 hu4
       clear s0 s1 s2 s3 s4 hth
       go_upto_region 9 with fail
       have hr11:=row_setI HR.out (by rw [List.length_set];exact HLL.out) hjm (y0,y1,y2,y3,y4)
       have hf11:=Fr.setL HF.out [.int .i64 y0,.int .i64 y1,.int .i64 y2,.int .i64 y3,.int .i64 y4] (j * 5)
       rw [← HSW.out] at hr11
       refine wp_wld (fun X => X.heap[w.heap.size]? = some (.cells #[.int .i64 b0,.int .i64 b1,.int .i64 b2,.int .i64 b3,.bool true,.slice (some ⟨g,0,none⟩) m ic,.slice ka 0 kc] 35 (0,0)) ∧ Hid (X.ownsRow lo 40 5 (.slice (some ⟨g,0,none⟩) m ic) m (flI (swp2 l' q))) ∧ Hid (Fr [g] w X)) ⟨(setL_blk [.int .i64 y0,.int .i64 y1,.int .i64 y2,.int .i64 y3,.int .i64 y4] _ g (j * 5) _ (by omega)).trans gT,hid hr11,hid hf11⟩ ?_
       clear k0 k1 k2 k3 k4 s0' s1' s2' s3' s4' hu0 hu1 hu2 hu3 hu4 a5 hr11 hf11 gT gA HR HF
       rintro X ⟨gT,HR,HF⟩
       go_wp2_with fail
       go_roundw
       case rel => exact ⟨q,swp2 l' q,by first | rfl | go_num,by omega,HYES.out hbt,gT,HR,HF⟩
       case measure => have:=HJQ.out;simp [intOf];omega
  ·obtain rfl:m = i:=by omega
   have c1:¬ (m:Int) < (m:Int):=by omega
   rw [HALL.out] at HR
   go_wp2_with fail
   go_loopw [7] (fun ti wr' => ti = .int .i64 1 ∧ wr' = wr) (fun _ _ => 0)
   case atStart => exact ⟨rfl,rfl⟩
   case round =>
    obtain ⟨rfl,rfl⟩:=hrel
    go_upto_region 23 with fail
    clear a5 a6
    refine wp_region_late (L:=[]) (S:=(fun w' => w'.cell? ⟨w.heap.size,4,none⟩ = some (.bool true))) (by kernel_rfl) ?_ (fun hHeld => ?_)
    ·(obtain ⟨_,_,_,_,a4,_,_,_,_,_,_,_,_,_⟩:=cell7k gT;exact a4)
    replace HR:=hid (HR.out.drew)
    replace HF:=hid (HF.out.bel (bdrew (Below.refl _ _)))
    replace gT:=keepheap (bdrew (Below.refl _ _)) gT
    generalize wr.drew = Vb0 at *
    refine tkP 0 hHeld ?_
    try simp only [sq]
    refine tkA 1 hHeld ?_
    try simp only [sq]
    refine anyL_pure (i:=2) (v:=_) rfl (by kernel_rfl) (fun _ _ _ h => h) (Or.inl ⟨by rfl,fun w hSw => exec_build _ _ _ rfl rfl HBLD⟩) (Or.inr hHeld) ?_
    try simp only [sq]
    refine tkP 3 hHeld ?_
    try simp only [sq]
    refine tkA 4 hHeld ?_
    try simp only [sq]
    refine anyL_pure (i:=5) (v:=_) rfl (by kernel_rfl) (fun _ _ _ h => h) (Or.inl ⟨by rfl,fun w hSw => exec_build _ _ _ rfl rfl HBLD⟩) (Or.inr hHeld) ?_
    try simp only [sq]
    refine anyL_2 (i:=6) (j:=7) rfl rfl (by kernel_rfl) rfl rfl ?_ ?_
    ·skip
     clear hHeld
     refine wpo_val (by go_simp;first | done | with_reducible rfl | rfl | exact ⟨rfl,rfl⟩) ?_
     have gA:=heap_alloc_new Vb0 (.cells #[.int .i64 0,.int .i64 0,.int .i64 0,.int .i64 0,.bool false,.slice none 0 0,.slice none 0 0] 35)
     have hTA:=lt_of_heap gT
     replace gT:=old_alloc (o':=(.cells #[.int .i64 0,.int .i64 0,.int .i64 0,.int .i64 0,.bool false,.slice none 0 0,.slice none 0 0] 35)) gT
     replace HR:=hid (HR.out.alloc (.cells #[.int .i64 0,.int .i64 0,.int .i64 0,.int .i64 0,.bool false,.slice none 0 0,.slice none 0 0] 35))
     replace HF:=hid (HF.out.bel (balloc (Below.refl _ _) (.cells #[.int .i64 0,.int .i64 0,.int .i64 0,.int .i64 0,.bool false,.slice none 0 0,.slice none 0 0] 35)))
     obtain ⟨A,hA⟩:∃ A,A = Vb0.heap.size:=⟨_,rfl⟩
     rw [← hA] at gA hTA ⊢
     generalize Vb0.alloc (.cells #[.int .i64 0,.int .i64 0,.int .i64 0,.int .i64 0,.bool false,.slice none 0 0,.slice none 0 0] 35) = Vb1 at *
     clear hA
     refine ⟨by (obtain ⟨_,_,_,_,a4,_,_,_,_,_,_,_,_,_⟩:=cell7k gT;exact a4),fun hHeld => ?_⟩
     try simp only [sq]
     refine anyL_1 (i:=7) rfl (by kernel_rfl) rfl ?_
     clear hHeld
     refine wpo_val (by go_simp;first | done | with_reducible rfl | rfl | exact ⟨rfl,rfl⟩) ?_
     have gB:=heap_alloc_new Vb1 (.cells #[.int .i64 0,.int .i64 0,.int .i64 0,.int .i64 0,.bool false,.slice none 0 0,.slice none 0 0] 35)
     have hTB:=lt_of_heap gT
     replace gT:=old_alloc (o':=(.cells #[.int .i64 0,.int .i64 0,.int .i64 0,.int .i64 0,.bool false,.slice none 0 0,.slice none 0 0] 35)) gT
     have hAB:=lt_of_heap gA
     replace gA:=old_alloc (o':=(.cells #[.int .i64 0,.int .i64 0,.int .i64 0,.int .i64 0,.bool false,.slice none 0 0,.slice none 0 0] 35)) gA
     replace HR:=hid (HR.out.alloc (.cells #[.int .i64 0,.int .i64 0,.int .i64 0,.int .i64 0,.bool false,.slice none 0 0,.slice none 0 0] 35))
     replace HF:=hid (HF.out.bel (balloc (Below.refl _ _) (.cells #[.int .i64 0,.int .i64 0,.int .i64 0,.int .i64 0,.bool false,.slice none 0 0,.slice none 0 0] 35)))
     obtain ⟨B,hB⟩:∃ B,B = Vb1.heap.size:=⟨_,rfl⟩
     rw [← hB] at gB hTB ⊢
     rw [← hB] at hAB
     generalize Vb1.alloc (.cells #[.int .i64 0,.int .i64 0,.int .i64 0,.int .i64 0,.bool false,.slice none 0 0,.slice none 0 0] 35) = Vb2 at *
     clear hB
     refine ⟨by (obtain ⟨_,_,_,_,a4,_,_,_,_,_,_,_,_,_⟩:=cell7k gT;exact a4),fun hHeld => ?_⟩
     try simp only [sq]
     refine anyL_1 (i:=8) rfl (by kernel_rfl) rfl ?_
     obtain ⟨u0,u1,u2,u3,u4,u5,u6,f0,f1,f2,f3,f4,f5,f6⟩:=cell7k gA
     clear hHeld
     refine wpo_st (by go_simp;first | done | with_reducible rfl | rfl | exact ⟨rfl,rfl⟩) ?_
     clear u0 u1 u2 u3 u4 u5 u6 f0 f1 f2 f3 f4 f5 f6
     have q1:=setL_new [.int .i64 0,.int .i64 0,.int .i64 0,.int .i64 0,.bool true,.slice none 0 0,.slice none 0 0] gA rfl
     have q2:=(setL_blk [.int .i64 0,.int .i64 0,.int .i64 0,.int .i64 0,.bool true,.slice none 0 0,.slice none 0 0] Vb2 A 0 w.heap.size (by omega)).trans gT
     have q3:=(setL_blk [.int .i64 0,.int .i64 0,.int .i64 0,.int .i64 0,.bool true,.slice none 0 0,.slice none 0 0] Vb2 A 0 B (by omega)).trans gB
     have q4:=row_blk HR.out (fun b hb' => setL_blk [.int .i64 0,.int .i64 0,.int .i64 0,.int .i64 0,.bool true,.slice none 0 0,.slice none 0 0] Vb2 A 0 b (by have h9:=hgb b hb';omega))
     have q5:=fr_setN (g:=A) HF.out (.inr (by omega)) [.int .i64 0,.int .i64 0,.int .i64 0,.int .i64 0,.bool true,.slice none 0 0,.slice none 0 0] 0
     simp only [setL,Nat.zero_add,Nat.reduceAdd] at q1 q2 q3 q4 q5
     clear gA gT gB HR HF
     generalize (((((((Vb2.setCell ⟨A,0,none⟩ (.int .i64 0)).setCell ⟨A,1,none⟩ (.int .i64 0)).setCell ⟨A,2,none⟩ (.int .i64 0)).setCell ⟨A,3,none⟩ (.int .i64 0)).setCell ⟨A,4,none⟩ (.bool true)).setCell ⟨A,5,none⟩ (.slice none 0 0)).setCell ⟨A,6,none⟩ (.slice none 0 0)) = Vb3 at *
     have gA:=q1
     have gT:=q2
     have gB:=q3
     have HR:=hid q4
     have HF:=hid q5
     clear q1 q2 q3 q4 q5
     refine ⟨by (obtain ⟨_,_,_,_,a4,_,_,_,_,_,_,_,_,_⟩:=cell7k gT;exact a4),fun hHeld => ?_⟩
     try simp only [sq]
     refine anyL_1 (i:=9) rfl (by kernel_rfl) rfl ?_
     obtain ⟨u0,u1,u2,u3,u4,u5,u6,f0,f1,f2,f3,f4,f5,f6⟩:=cell7k gB
     clear hHeld
     refine wpo_st (by go_simp;first | done | with_reducible rfl | rfl | exact ⟨rfl,rfl⟩) ?_
     clear u0 u1 u2 u3 u4 u5 u6 f0 f1 f2 f3 f4 f5 f6
     have q1:=setL_new [.int .i64 0,.int .i64 0,.int .i64 0,.int .i64 0,.bool true,.slice none 0 0,.slice none 0 0] gB rfl
     have q2:=(setL_blk [.int .i64 0,.int .i64 0,.int .i64 0,.int .i64 0,.bool true,.slice none 0 0,.slice none 0 0] Vb3 B 0 w.heap.size (by omega)).trans gT
     have q3:=(setL_blk [.int .i64 0,.int .i64 0,.int .i64 0,.int .i64 0,.bool true,.slice none 0 0,.slice none 0 0] Vb3 B 0 A (by omega)).trans gA
     have q4:=row_blk HR.out (fun b hb' => setL_blk [.int .i64 0,.int .i64 0,.int .i64 0,.int .i64 0,.bool true,.slice none 0 0,.slice none 0 0] Vb3 B 0 b (by have h9:=hgb b hb';omega))
     have q5:=fr_setN (g:=B) HF.out (.inr (by omega)) [.int .i64 0,.int .i64 0,.int .i64 0,.int .i64 0,.bool true,.slice none 0 0,.slice none 0 0] 0
     simp only [setL,Nat.zero_add,Nat.reduceAdd] at q1 q2 q3 q4 q5
     clear gB gT gA HR HF
     generalize (((((((Vb3.setCell ⟨B,0,none⟩ (.int .i64 0)).setCell ⟨B,1,none⟩ (.int .i64 0)).setCell ⟨B,2,none⟩ (.int .i64 0)).setCell ⟨B,3,none⟩ (.int .i64 0)).setCell ⟨B,4,none⟩ (.bool true)).setCell ⟨B,5,none⟩ (.slice none 0 0)).setCell ⟨B,6,none⟩ (.slice none 0 0)) = Vb4 at *
     have gB:=q1
     have gT:=q2
     have gA:=q3
     have HR:=hid q4
     have HF:=hid q5
     clear q1 q2 q3 q4 q5
     refine ⟨by (obtain ⟨_,_,_,_,a4,_,_,_,_,_,_,_,_,_⟩:=cell7k gT;exact a4),fun hHeld => ?_⟩
     try simp only [sq]
     refine anyL_done (by kernel_rfl) ?_ _
     have hA0:=lt_of_heap gA
     have hB0:=lt_of_heap gB
     obtain ⟨_,_,_,_,a4,_,_,_,_,_,_,_,_,_⟩:=cell7k gT
     go_upto_region 25 with fail
     clear a4
     refine wp_region_late (L:=[7]) (S:=(fun w' => w'.cell? ⟨A,5,none⟩ = some (.slice none 0 0) ∧ w'.cell? ⟨w.heap.size,5,none⟩ = some (.slice (some ⟨g,0,none⟩) m ic))) (by kernel_rfl) ?_ (fun hHeld => ?_)
     ·(obtain ⟨_,_,_,_,_,l5,_,_,_,_,_,_,_,_⟩:=cell7k gA;obtain ⟨_,_,_,_,_,a5,_,_,_,_,_,_,_,_⟩:=cell7k gT;exact ⟨l5,a5⟩)
     have hbD:=bdrew (Below.refl Vb4.heap.size Vb4)
     replace gT:=keepheap hbD gT
     replace gA:=keepheap hbD gA
     replace gB:=keepheap hbD gB
     replace HR:=hid (HR.out.drew)
     replace HF:=hid (HF.out.bel hbD)
     clear hbD
     generalize Vb4.drew = Vc at *
     have hA0:=lt_of_heap gA
     have hB0:=lt_of_heap gB
     have hT0:=lt_of_heap gT
     refine tkP 0 hHeld ?_
     try simp only [sq]
     refine tkA 1 hHeld ?_
     try simp only [sq]
     refine tkP 2 hHeld ?_
     try simp only [sq]
     refine tkA 3 hHeld ?_
     try simp only [sq]
     refine tkP 4 hHeld ?_
     try simp only [sq]
     refine anyL_1 (i:=5) rfl (by kernel_rfl) rfl ?_
     clear hHeld
     refine wpo_app (.tmp 132) (.tmp 135) 32 rfl w.heap.size 40 i0 _ 5 40 Tryz.underlying32 hi0 hz0 hz1 hzz rfl (by decide) none 0 0 [] (by rfl) (own_nilR _ _ _ _) (some ⟨g,0,none⟩) 3 ic (flI l1) (by rfl) (SRCA.out _ HR) HLA.out (flI_one _) (by unfold maxLen;omega) (by omega) (Fr.size HF.out) ?_
     intro aA cA WA hown hgrow hat
     replace gT:=(app_blk hgrow (lt_of_heap gT) (by simp [hb])).trans gT
     replace gA:=(app_blk hgrow (lt_of_heap gA) (by simp [hb])).trans gA
     replace gB:=(app_blk hgrow (lt_of_heap gB) (by simp [hb])).trans gB
     replace HR:=hid (row_blk HR.out (fun b hb' => app_blk hgrow (row_lt HR.out b hb').2 (by simp [hb])))
     replace HF:=hid (HF.out.trans (app_fr hgrow) (fun k hk => by simp [hb] at hk))
     have hnAA:A ∉ hb aA:=fun hc => by
      rcases hat A hc with e | e
      ·simp [hb] at e
      ·have:=hA0;omega
     have hnAB:B ∉ hb aA:=fun hc => by
      rcases hat B hc with e | e
      ·simp [hb] at e
      ·have:=hB0;omega
     have hnAT:w.heap.size ∉ hb aA:=fun hc => by
      rcases hat _ hc with e | e
      ·simp [hb] at e
      ·omega
     have HOA:=hid (show WA.ownsRow w.heap.size 40 5 (.slice aA 3 cA) 3 (flI l1) from by simpa using hown)
     have hAl:∀ b ∈ hb aA,b < WA.heap.size:=fun b h => (row_lt HOA.out b h).2
     have hA0:=lt_of_heap gA
     have hB0:=lt_of_heap gB
     rw [Nat.zero_add]
     clear hown hgrow hat
     refine ⟨?_,fun hHeld => ?_⟩
     ·(obtain ⟨_,_,_,_,_,l5,_,_,_,_,_,_,_,_⟩:=cell7k gA;obtain ⟨_,_,_,_,_,a5,_,_,_,_,_,_,_,_⟩:=cell7k gT;exact ⟨l5,a5⟩)
     try simp only [sq]
     refine tkP 6 hHeld ?_
     try simp only [sq]
     refine anyL_1 (i:=7) rfl (by kernel_rfl) rfl ?_
     obtain ⟨u0,u1,u2,u3,u4,u5,u6,f0,f1,f2,f3,f4,f5,f6⟩:=cell7k gA
     refine wpo_late (by kernel_rfl) (by go_simp;first | done | with_reducible rfl | rfl | exact ⟨rfl,rfl⟩) ?_
     clear u0 u1 u2 u3 u4 u5 u6 f0 f1 f2 f3 f4 f5 f6
     change anyL _ _ _ _ _ _ _ _ _ (setL WA A 5 [.slice aA 3 cA])
     replace gA:=set_5k gA (.slice aA 3 cA)
     replace gT:=(setL_blk [.slice aA 3 cA] WA A 5 w.heap.size (by omega)).trans gT
     replace gB:=(setL_blk [.slice aA 3 cA] WA A 5 B (by omega)).trans gB
     replace HR:=hid (row_blk HR.out (fun b hb' => setL_blk [.slice aA 3 cA] WA A 5 b (by have h9:=hgb b hb';omega)))
     replace HF:=hid (fr_setN (g:=A) HF.out (.inr (by omega)) [.slice aA 3 cA] 5)
     replace HOA:=hid (row_blk HOA.out (fun b hb' => setL_blk [.slice aA 3 cA] WA A 5 b (fun e => hnAA (e ▸ hb'))))
     change (setL WA A 5 [.slice aA 3 cA]).heap[A]? = _ at gA
     generalize setL WA A 5 [.slice aA 3 cA] = VA at *
     try simp only [sq]
     refine anyL_done (by kernel_rfl) ?_ _
     have hA0:=lt_of_heap gA
     have hB0:=lt_of_heap gB
     go_upto_region 26 with fail
     clear hAl
     refine wp_region_late (L:=[7]) (S:=(fun w' => w'.cell? ⟨B,5,none⟩ = some (.slice none 0 0) ∧ w'.cell? ⟨w.heap.size,5,none⟩ = some (.slice (some ⟨g,0,none⟩) m ic))) (by kernel_rfl) ?_ (fun hHeld => ?_)
     ·(obtain ⟨_,_,_,_,_,l5,_,_,_,_,_,_,_,_⟩:=cell7k gB;obtain ⟨_,_,_,_,_,a5,_,_,_,_,_,_,_,_⟩:=cell7k gT;exact ⟨l5,a5⟩)
     have hbD:=bdrew (Below.refl VA.heap.size VA)
     replace gT:=keepheap hbD gT
     replace gA:=keepheap hbD gA
     replace gB:=keepheap hbD gB
     replace HR:=hid (HR.out.drew)
     replace HF:=hid (HF.out.bel hbD)
     replace HOA:=hid (HOA.out.drew)
     clear hbD
     generalize VA.drew = Vc0 at *
     have hA0:=lt_of_heap gA
     have hB0:=lt_of_heap gB
     have hT0:=lt_of_heap gT
     have hAl:∀ b ∈ hb aA,b < Vc0.heap.size:=fun b h => (row_lt HOA.out b h).2
     refine tkP 0 hHeld ?_
     try simp only [sq]
     refine tkA 1 hHeld ?_
     try simp only [sq]
     refine tkP 2 hHeld ?_
     try simp only [sq]
     refine tkA 3 hHeld ?_
     try simp only [sq]
     refine tkP 4 hHeld ?_
     try simp only [sq]
     refine anyL_1 (i:=5) rfl (by kernel_rfl) rfl ?_
     clear hHeld
     refine wpo_app (.tmp 139) (.tmp 142) 32 rfl w.heap.size 40 i0 _ 5 40 Tryz.underlying32 hi0 hz0 hz1 hzz rfl (by decide) none 0 0 [] (by rfl) (own_nilR _ _ _ _) (some ⟨g,15,none⟩) (m - 3) (ic - 3) (flI l2) (by rfl) (SRCB.out _ HR) HLB.out (flI_one _) (by unfold maxLen;omega) (by omega) (Fr.size HF.out) ?_
     intro aB cB WB hown hgrow hat
     replace gT:=(app_blk hgrow (lt_of_heap gT) (by simp [hb])).trans gT
     replace gA:=(app_blk hgrow (lt_of_heap gA) (by simp [hb])).trans gA
     replace gB:=(app_blk hgrow (lt_of_heap gB) (by simp [hb])).trans gB
     replace HR:=hid (row_blk HR.out (fun b hb' => app_blk hgrow (row_lt HR.out b hb').2 (by simp [hb])))
     replace HF:=hid (HF.out.trans (app_fr hgrow) (fun k hk => by simp [hb] at hk))
     replace HOA:=hid (row_blk HOA.out (fun b hb' => app_blk hgrow (row_lt HOA.out b hb').2 (by simp [hb])))
     have hABd:∀ b ∈ hb aA,b ∉ hb aB:=fun b h1 h2 => by
      rcases hat b h2 with e | e
      ·simp [hb] at e
      ·have:=(hAl b h1);omega
     have hnBA:A ∉ hb aB:=fun hc => by
      rcases hat A hc with e | e
      ·simp [hb] at e
      ·have:=hA0;omega
     have hnBB:B ∉ hb aB:=fun hc => by
      rcases hat B hc with e | e
      ·simp [hb] at e
      ·have:=hB0;omega
     have hnBT:w.heap.size ∉ hb aB:=fun hc => by
      rcases hat _ hc with e | e
      ·simp [hb] at e
      ·omega
     have HOB:=hid (show WB.ownsRow w.heap.size 40 5 (.slice aB (m - 3) cB) (m - 3) (flI l2) from by simpa using hown)
     have hBl:∀ b ∈ hb aB,b < WB.heap.size:=fun b h => (row_lt HOB.out b h).2
     have hA0:=lt_of_heap gA
     have hB0:=lt_of_heap gB
     rw [Nat.zero_add]
     clear hown hgrow hat
     refine ⟨?_,fun hHeld => ?_⟩
     ·(obtain ⟨_,_,_,_,_,l5,_,_,_,_,_,_,_,_⟩:=cell7k gB;obtain ⟨_,_,_,_,_,a5,_,_,_,_,_,_,_,_⟩:=cell7k gT;exact ⟨l5,a5⟩)
     try simp only [sq]
     refine tkP 6 hHeld ?_
     try simp only [sq]
     refine anyL_1 (i:=7) rfl (by kernel_rfl) rfl ?_
     obtain ⟨u0,u1,u2,u3,u4,u5,u6,f0,f1,f2,f3,f4,f5,f6⟩:=cell7k gB
     refine wpo_late (by kernel_rfl) (by go_simp;first | done | with_reducible rfl | rfl | exact ⟨rfl,rfl⟩) ?_
     clear u0 u1 u2 u3 u4 u5 u6 f0 f1 f2 f3 f4 f5 f6
     change anyL _ _ _ _ _ _ _ _ _ (setL WB B 5 [.slice aB (m - 3) cB])
     replace gB:=set_5k gB (.slice aB (m - 3) cB)
     replace gT:=(setL_blk [.slice aB (m - 3) cB] WB B 5 w.heap.size (by omega)).trans gT
     replace gA:=(setL_blk [.slice aB (m - 3) cB] WB B 5 A (by omega)).trans gA
     replace HR:=hid (row_blk HR.out (fun b hb' => setL_blk [.slice aB (m - 3) cB] WB B 5 b (by have h9:=hgb b hb';omega)))
     replace HF:=hid (fr_setN (g:=B) HF.out (.inr (by omega)) [.slice aB (m - 3) cB] 5)
     replace HOB:=hid (row_blk HOB.out (fun b hb' => setL_blk [.slice aB (m - 3) cB] WB B 5 b (fun e => hnBB (e ▸ hb'))))
     replace HOA:=hid (row_blk HOA.out (fun b hb' => setL_blk [.slice aB (m - 3) cB] WB B 5 b (fun e => hnAB (e ▸ hb'))))
     change (setL WB B 5 [.slice aB (m - 3) cB]).heap[B]? = _ at gB
     generalize setL WB B 5 [.slice aB (m - 3) cB] = VB at *
     try simp only [sq]
     refine anyL_done (by kernel_rfl) ?_ _
     have hAl2:∀ b ∈ hb aA,b < VB.heap.size:=fun b h => (row_lt HOA.out b h).2
     have hBl2:∀ b ∈ hb aB,b < VB.heap.size:=fun b h => (row_lt HOB.out b h).2
     clear HR SRCA SRCB
     obtain ⟨ka0,ka1,ka2,ka3,ka4,ka5,ka6,fa0,fa1,fa2,fa3,_,_,_⟩:=cell7k gA
     go_wp2_with fail
     refine (ARA.out _ _ _ HOA).mono ?_
     rintro e ZA ⟨rfl,hb⟩
     replace gT:=keepheap hb gT
     replace gA:=keepheap hb gA
     replace gB:=keepheap hb gB
     replace HOA:=hid (row_blk HOA.out (fun b hb' => hb.block b (hAl2 b hb')))
     replace HOB:=hid (row_blk HOB.out (fun b hb' => hb.block b (hBl2 b hb')))
     replace HF:=hid (HF.out.bel hb)
     have hszA:=hb.size
     clear hb
     clear ka0 ka1 ka2 ka3 ka4 ka5 ka6 fa0 fa1 fa2 fa3
     obtain ⟨ka0,ka1,ka2,ka3,_,_,_,fa0,fa1,fa2,fa3,_,_,_⟩:=cell7k gA
     go_upto_region 30 with fail
     clear ka0 ka1 ka2 ka3 fa0 fa1 fa2 fa3
     clear gT
     have q1:=set4k gA (.int .i64 (jns (l1.map (·.2))).1) (.int .i64 (jns (l1.map (·.2))).2.1) (.int .i64 (jns (l1.map (·.2))).2.2.1) (.int .i64 (jns (l1.map (·.2))).2.2.2)
     have q2:=(setL_blk [.int .i64 (jns (l1.map (·.2))).1,.int .i64 (jns (l1.map (·.2))).2.1,.int .i64 (jns (l1.map (·.2))).2.2.1,.int .i64 (jns (l1.map (·.2))).2.2.2] ZA A 0 _ (by omega)).trans gB
     have q3:=hid (row_blk HOA.out (fun b hb' => setL_blk [.int .i64 (jns (l1.map (·.2))).1,.int .i64 (jns (l1.map (·.2))).2.1,.int .i64 (jns (l1.map (·.2))).2.2.1,.int .i64 (jns (l1.map (·.2))).2.2.2] ZA A 0 b (fun e => hnAA (e ▸ hb'))))
     have q4:=hid (row_blk HOB.out (fun b hb' => setL_blk [.int .i64 (jns (l1.map (·.2))).1,.int .i64 (jns (l1.map (·.2))).2.1,.int .i64 (jns (l1.map (·.2))).2.2.1,.int .i64 (jns (l1.map (·.2))).2.2.2] ZA A 0 b (fun e => hnBA (e ▸ hb'))))
     have q5:=hid (fr_setN (g:=A) HF.out (.inr (by omega)) [.int .i64 (jns (l1.map (·.2))).1,.int .i64 (jns (l1.map (·.2))).2.1,.int .i64 (jns (l1.map (·.2))).2.2.1,.int .i64 (jns (l1.map (·.2))).2.2.2] 0)
     simp only [setL,Nat.zero_add,Nat.reduceAdd] at q2 q3 q4 q5
     have q8:=fun b hb' => (row_lt q3.out b hb').2
     have q9:=fun b hb' => (row_lt q4.out b hb').2
     have q6:=lt_of_heap q1
     have q7:=lt_of_heap q2
     refine wp_wld (fun X => X.heap[A]? = some (.cells #[.int .i64 (jns (l1.map (·.2))).1,.int .i64 (jns (l1.map (·.2))).2.1,.int .i64 (jns (l1.map (·.2))).2.2.1,.int .i64 (jns (l1.map (·.2))).2.2.2,.bool true,.slice aA 3 cA,.slice none 0 0] 35 (0,0)) ∧ X.heap[B]? = some (.cells #[.int .i64 0,.int .i64 0,.int .i64 0,.int .i64 0,.bool true,.slice aB (m - 3) cB,.slice none 0 0] 35 (0,0)) ∧ Hid (X.ownsRow w.heap.size 40 5 (.slice aA 3 cA) 3 (flI l1)) ∧ Hid (X.ownsRow w.heap.size 40 5 (.slice aB (m - 3) cB) (m - 3) (flI l2)) ∧ Hid (Fr [g] w X) ∧ A < X.heap.size ∧ B < X.heap.size ∧ (∀ b ∈ hb aA,b < X.heap.size) ∧ ∀ b ∈ hb aB,b < X.heap.size) ⟨q1,q2,q3,q4,q5,q6,q7,q8,q9⟩ ?_
     clear gA gB HOA HOB HF hAl2 hBl2 q1 q2 q3 q4 q5 q6 q7 q8 q9
     rintro XA ⟨gA,gB,HOA,HOB,HF,hA0,hB0,hAl2,hBl2⟩
     obtain ⟨ka0,ka1,ka2,ka3,ka4,ka5,ka6,fa0,fa1,fa2,fa3,_,_,_⟩:=cell7k gB
     go_wp2_with fail
     refine (ARB.out _ _ _ HOB).mono ?_
     rintro e ZB ⟨rfl,hb⟩
     replace gA:=keepheap hb gA
     replace gB:=keepheap hb gB
     replace HOA:=hid (row_blk HOA.out (fun b hb' => hb.block b (hAl2 b hb')))
     replace HOB:=hid (row_blk HOB.out (fun b hb' => hb.block b (hBl2 b hb')))
     replace HF:=hid (HF.out.bel hb)
     have hszB:=hb.size
     clear hb
     clear ka0 ka1 ka2 ka3 ka4 ka5 ka6 fa0 fa1 fa2 fa3
     obtain ⟨ka0,ka1,ka2,ka3,_,_,_,fa0,fa1,fa2,fa3,_,_,_⟩:=cell7k gB
     go_upto_region 31 with fail
     clear ka0 ka1 ka2 ka3 fa0 fa1 fa2 fa3
     have q1:=set4k gB (.int .i64 (jns (l2.map (·.2))).1) (.int .i64 (jns (l2.map (·.2))).2.1) (.int .i64 (jns (l2.map (·.2))).2.2.1) (.int .i64 (jns (l2.map (·.2))).2.2.2)
     have q2:=(setL_blk [.int .i64 (jns (l2.map (·.2))).1,.int .i64 (jns (l2.map (·.2))).2.1,.int .i64 (jns (l2.map (·.2))).2.2.1,.int .i64 (jns (l2.map (·.2))).2.2.2] ZB B 0 _ (by omega)).trans gA
     have q3:=hid (row_blk HOA.out (fun b hb' => setL_blk [.int .i64 (jns (l2.map (·.2))).1,.int .i64 (jns (l2.map (·.2))).2.1,.int .i64 (jns (l2.map (·.2))).2.2.1,.int .i64 (jns (l2.map (·.2))).2.2.2] ZB B 0 b (fun e => hnAB (e ▸ hb'))))
     have q4:=hid (row_blk HOB.out (fun b hb' => setL_blk [.int .i64 (jns (l2.map (·.2))).1,.int .i64 (jns (l2.map (·.2))).2.1,.int .i64 (jns (l2.map (·.2))).2.2.1,.int .i64 (jns (l2.map (·.2))).2.2.2] ZB B 0 b (fun e => hnBB (e ▸ hb'))))
     have q5:=hid (fr_setN (g:=B) HF.out (.inr (by omega)) [.int .i64 (jns (l2.map (·.2))).1,.int .i64 (jns (l2.map (·.2))).2.1,.int .i64 (jns (l2.map (·.2))).2.2.1,.int .i64 (jns (l2.map (·.2))).2.2.2] 0)
     simp only [setL,Nat.zero_add,Nat.reduceAdd] at q2 q3 q4 q5
     have q8:=fun b hb' => (row_lt q3.out b hb').2
     have q9:=fun b hb' => (row_lt q4.out b hb').2
     have q6:=lt_of_heap q2
     have q7:=lt_of_heap q1
     refine wp_wld (fun X => X.heap[B]? = some (.cells #[.int .i64 (jns (l2.map (·.2))).1,.int .i64 (jns (l2.map (·.2))).2.1,.int .i64 (jns (l2.map (·.2))).2.2.1,.int .i64 (jns (l2.map (·.2))).2.2.2,.bool true,.slice aB (m - 3) cB,.slice none 0 0] 35 (0,0)) ∧ X.heap[A]? = some (.cells #[.int .i64 (jns (l1.map (·.2))).1,.int .i64 (jns (l1.map (·.2))).2.1,.int .i64 (jns (l1.map (·.2))).2.2.1,.int .i64 (jns (l1.map (·.2))).2.2.2,.bool true,.slice aA 3 cA,.slice none 0 0] 35 (0,0)) ∧ Hid (X.ownsRow w.heap.size 40 5 (.slice aA 3 cA) 3 (flI l1)) ∧ Hid (X.ownsRow w.heap.size 40 5 (.slice aB (m - 3) cB) (m - 3) (flI l2)) ∧ Hid (Fr [g] w X) ∧ A < X.heap.size ∧ B < X.heap.size ∧ (∀ b ∈ hb aA,b < X.heap.size) ∧ ∀ b ∈ hb aB,b < X.heap.size) ⟨q1,q2,q3,q4,q5,q6,q7,q8,q9⟩ ?_
     clear gA gB HOA HOB HF hAl2 hBl2 q1 q2 q3 q4 q5 q6 q7 q8 q9
     rintro XB ⟨gB,gA,HOA,HOB,HF,hA0,hB0,hAl2,hBl2⟩
     obtain ⟨ka0,ka1,ka2,ka3,ka4,ka5,ka6,_,_,_,_,_,_,_⟩:=cell7k gA
     obtain ⟨kb0,kb1,kb2,kb3,kb4,kb5,kb6,_,_,_,_,_,_,_⟩:=cell7k gB
     go_wp2_with fail
     go_ret
     exact HDONE.out aA aB cA cB XB hABd HOA HOB HF HF.out.size
    ·skip
     clear hHeld
     refine wpo_val (by go_simp;first | done | with_reducible rfl | rfl | exact ⟨rfl,rfl⟩) ?_
     have gB:=heap_alloc_new Vb0 (.cells #[.int .i64 0,.int .i64 0,.int .i64 0,.int .i64 0,.bool false,.slice none 0 0,.slice none 0 0] 35)
     have hTB:=lt_of_heap gT
     replace gT:=old_alloc (o':=(.cells #[.int .i64 0,.int .i64 0,.int .i64 0,.int .i64 0,.bool false,.slice none 0 0,.slice none 0 0] 35)) gT
     replace HR:=hid (HR.out.alloc (.cells #[.int .i64 0,.int .i64 0,.int .i64 0,.int .i64 0,.bool false,.slice none 0 0,.slice none 0 0] 35))
     replace HF:=hid (HF.out.bel (balloc (Below.refl _ _) (.cells #[.int .i64 0,.int .i64 0,.int .i64 0,.int .i64 0,.bool false,.slice none 0 0,.slice none 0 0] 35)))
     obtain ⟨B,hB⟩:∃ B,B = Vb0.heap.size:=⟨_,rfl⟩
     rw [← hB] at gB hTB ⊢
     generalize Vb0.alloc (.cells #[.int .i64 0,.int .i64 0,.int .i64 0,.int .i64 0,.bool false,.slice none 0 0,.slice none 0 0] 35) = Vb1 at *
     clear hB
     refine ⟨by (obtain ⟨_,_,_,_,a4,_,_,_,_,_,_,_,_,_⟩:=cell7k gT;exact a4),fun hHeld => ?_⟩
     try simp only [sq]
     refine anyL_1 (i:=6) rfl (by kernel_rfl) rfl ?_
     clear hHeld
     refine wpo_val (by go_simp;first | done | with_reducible rfl | rfl | exact ⟨rfl,rfl⟩) ?_
     have gA:=heap_alloc_new Vb1 (.cells #[.int .i64 0,.int .i64 0,.int .i64 0,.int .i64 0,.bool false,.slice none 0 0,.slice none 0 0] 35)
     have hTA:=lt_of_heap gT
     replace gT:=old_alloc (o':=(.cells #[.int .i64 0,.int .i64 0,.int .i64 0,.int .i64 0,.bool false,.slice none 0 0,.slice none 0 0] 35)) gT
     have hAB:=lt_of_heap gB
     replace gB:=old_alloc (o':=(.cells #[.int .i64 0,.int .i64 0,.int .i64 0,.int .i64 0,.bool false,.slice none 0 0,.slice none 0 0] 35)) gB
     replace HR:=hid (HR.out.alloc (.cells #[.int .i64 0,.int .i64 0,.int .i64 0,.int .i64 0,.bool false,.slice none 0 0,.slice none 0 0] 35))
     replace HF:=hid (HF.out.bel (balloc (Below.refl _ _) (.cells #[.int .i64 0,.int .i64 0,.int .i64 0,.int .i64 0,.bool false,.slice none 0 0,.slice none 0 0] 35)))
     obtain ⟨A,hA⟩:∃ A,A = Vb1.heap.size:=⟨_,rfl⟩
     rw [← hA] at gA hTA ⊢
     rw [← hA] at hAB
     generalize Vb1.alloc (.cells #[.int .i64 0,.int .i64 0,.int .i64 0,.int .i64 0,.bool false,.slice none 0 0,.slice none 0 0] 35) = Vb2 at *
     clear hA
     refine ⟨by (obtain ⟨_,_,_,_,a4,_,_,_,_,_,_,_,_,_⟩:=cell7k gT;exact a4),fun hHeld => ?_⟩
     try simp only [sq]
     refine anyL_1 (i:=8) rfl (by kernel_rfl) rfl ?_
     obtain ⟨u0,u1,u2,u3,u4,u5,u6,f0,f1,f2,f3,f4,f5,f6⟩:=cell7k gA
     clear hHeld
     refine wpo_st (by go_simp;first | done | with_reducible rfl | rfl | exact ⟨rfl,rfl⟩) ?_
     clear u0 u1 u2 u3 u4 u5 u6 f0 f1 f2 f3 f4 f5 f6
     have q1:=setL_new [.int .i64 0,.int .i64 0,.int .i64 0,.int .i64 0,.bool true,.slice none 0 0,.slice none 0 0] gA rfl
     have q2:=(setL_blk [.int .i64 0,.int .i64 0,.int .i64 0,.int .i64 0,.bool true,.slice none 0 0,.slice none 0 0] Vb2 A 0 w.heap.size (by omega)).trans gT
     have q3:=(setL_blk [.int .i64 0,.int .i64 0,.int .i64 0,.int .i64 0,.bool true,.slice none 0 0,.slice none 0 0] Vb2 A 0 B (by omega)).trans gB
     have q4:=row_blk HR.out (fun b hb' => setL_blk [.int .i64 0,.int .i64 0,.int .i64 0,.int .i64 0,.bool true,.slice none 0 0,.slice none 0 0] Vb2 A 0 b (by have h9:=hgb b hb';omega))
     have q5:=fr_setN (g:=A) HF.out (.inr (by omega)) [.int .i64 0,.int .i64 0,.int .i64 0,.int .i64 0,.bool true,.slice none 0 0,.slice none 0 0] 0
     simp only [setL,Nat.zero_add,Nat.reduceAdd] at q1 q2 q3 q4 q5
     clear gA gT gB HR HF
     generalize (((((((Vb2.setCell ⟨A,0,none⟩ (.int .i64 0)).setCell ⟨A,1,none⟩ (.int .i64 0)).setCell ⟨A,2,none⟩ (.int .i64 0)).setCell ⟨A,3,none⟩ (.int .i64 0)).setCell ⟨A,4,none⟩ (.bool true)).setCell ⟨A,5,none⟩ (.slice none 0 0)).setCell ⟨A,6,none⟩ (.slice none 0 0)) = Vb3 at *
     have gA:=q1
     have gT:=q2
     have gB:=q3
     have HR:=hid q4
     have HF:=hid q5
     clear q1 q2 q3 q4 q5
     refine ⟨by (obtain ⟨_,_,_,_,a4,_,_,_,_,_,_,_,_,_⟩:=cell7k gT;exact a4),fun hHeld => ?_⟩
     try simp only [sq]
     refine anyL_1 (i:=9) rfl (by kernel_rfl) rfl ?_
     obtain ⟨u0,u1,u2,u3,u4,u5,u6,f0,f1,f2,f3,f4,f5,f6⟩:=cell7k gB
     clear hHeld
     refine wpo_st (by go_simp;first | done | with_reducible rfl | rfl | exact ⟨rfl,rfl⟩) ?_
     clear u0 u1 u2 u3 u4 u5 u6 f0 f1 f2 f3 f4 f5 f6
     have q1:=setL_new [.int .i64 0,.int .i64 0,.int .i64 0,.int .i64 0,.bool true,.slice none 0 0,.slice none 0 0] gB rfl
     have q2:=(setL_blk [.int .i64 0,.int .i64 0,.int .i64 0,.int .i64 0,.bool true,.slice none 0 0,.slice none 0 0] Vb3 B 0 w.heap.size (by omega)).trans gT
     have q3:=(setL_blk [.int .i64 0,.int .i64 0,.int .i64 0,.int .i64 0,.bool true,.slice none 0 0,.slice none 0 0] Vb3 B 0 A (by omega)).trans gA
     have q4:=row_blk HR.out (fun b hb' => setL_blk [.int .i64 0,.int .i64 0,.int .i64 0,.int .i64 0,.bool true,.slice none 0 0,.slice none 0 0] Vb3 B 0 b (by have h9:=hgb b hb';omega))
     have q5:=fr_setN (g:=B) HF.out (.inr (by omega)) [.int .i64 0,.int .i64 0,.int .i64 0,.int .i64 0,.bool true,.slice none 0 0,.slice none 0 0] 0
     simp only [setL,Nat.zero_add,Nat.reduceAdd] at q1 q2 q3 q4 q5
     clear gB gT gA HR HF
     generalize (((((((Vb3.setCell ⟨B,0,none⟩ (.int .i64 0)).setCell ⟨B,1,none⟩ (.int .i64 0)).setCell ⟨B,2,none⟩ (.int .i64 0)).setCell ⟨B,3,none⟩ (.int .i64 0)).setCell ⟨B,4,none⟩ (.bool true)).setCell ⟨B,5,none⟩ (.slice none 0 0)).setCell ⟨B,6,none⟩ (.slice none 0 0)) = Vb4 at *
     have gB:=q1
     have gT:=q2
     have gA:=q3
     have HR:=hid q4
     have HF:=hid q5
     clear q1 q2 q3 q4 q5
     refine ⟨by (obtain ⟨_,_,_,_,a4,_,_,_,_,_,_,_,_,_⟩:=cell7k gT;exact a4),fun hHeld => ?_⟩
     try simp only [sq]
     refine anyL_done (by kernel_rfl) ?_ _
     have hA0:=lt_of_heap gA
     have hB0:=lt_of_heap gB
     obtain ⟨_,_,_,_,a4,_,_,_,_,_,_,_,_,_⟩:=cell7k gT
     go_upto_region 25 with fail
     clear a4
     refine wp_region_late (L:=[7]) (S:=(fun w' => w'.cell? ⟨A,5,none⟩ = some (.slice none 0 0) ∧ w'.cell? ⟨w.heap.size,5,none⟩ = some (.slice (some ⟨g,0,none⟩) m ic))) (by kernel_rfl) ?_ (fun hHeld => ?_)
     ·(obtain ⟨_,_,_,_,_,l5,_,_,_,_,_,_,_,_⟩:=cell7k gA;obtain ⟨_,_,_,_,_,a5,_,_,_,_,_,_,_,_⟩:=cell7k gT;exact ⟨l5,a5⟩)
     have hbD:=bdrew (Below.refl Vb4.heap.size Vb4)
     replace gT:=keepheap hbD gT
     replace gA:=keepheap hbD gA
     replace gB:=keepheap hbD gB
     replace HR:=hid (HR.out.drew)
     replace HF:=hid (HF.out.bel hbD)
     clear hbD
     generalize Vb4.drew = Vc at *
     have hA0:=lt_of_heap gA
     have hB0:=lt_of_heap gB
     have hT0:=lt_of_heap gT
     refine tkP 0 hHeld ?_
     try simp only [sq]
     refine tkA 1 hHeld ?_
     try simp only [sq]
     refine tkP 2 hHeld ?_
     try simp only [sq]
     refine tkA 3 hHeld ?_
     try simp only [sq]
     refine tkP 4 hHeld ?_
     try simp only [sq]
     refine anyL_1 (i:=5) rfl (by kernel_rfl) rfl ?_
     clear hHeld
     refine wpo_app (.tmp 132) (.tmp 135) 32 rfl w.heap.size 40 i0 _ 5 40 Tryz.underlying32 hi0 hz0 hz1 hzz rfl (by decide) none 0 0 [] (by rfl) (own_nilR _ _ _ _) (some ⟨g,0,none⟩) 3 ic (flI l1) (by rfl) (SRCA.out _ HR) HLA.out (flI_one _) (by unfold maxLen;omega) (by omega) (Fr.size HF.out) ?_
     intro aA cA WA hown hgrow hat
     replace gT:=(app_blk hgrow (lt_of_heap gT) (by simp [hb])).trans gT
     replace gA:=(app_blk hgrow (lt_of_heap gA) (by simp [hb])).trans gA
     replace gB:=(app_blk hgrow (lt_of_heap gB) (by simp [hb])).trans gB
     replace HR:=hid (row_blk HR.out (fun b hb' => app_blk hgrow (row_lt HR.out b hb').2 (by simp [hb])))
     replace HF:=hid (HF.out.trans (app_fr hgrow) (fun k hk => by simp [hb] at hk))
     have hnAA:A ∉ hb aA:=fun hc => by
      rcases hat A hc with e | e
      ·simp [hb] at e
      ·have:=hA0;omega
     have hnAB:B ∉ hb aA:=fun hc => by
      rcases hat B hc with e | e
      ·simp [hb] at e
      ·have:=hB0;omega
     have hnAT:w.heap.size ∉ hb aA:=fun hc => by
      rcases hat _ hc with e | e
      ·simp [hb] at e
      ·omega
     have HOA:=hid (show WA.ownsRow w.heap.size 40 5 (.slice aA 3 cA) 3 (flI l1) from by simpa using hown)
     have hAl:∀ b ∈ hb aA,b < WA.heap.size:=fun b h => (row_lt HOA.out b h).2
     have hA0:=lt_of_heap gA
     have hB0:=lt_of_heap gB
     rw [Nat.zero_add]
     clear hown hgrow hat
     refine ⟨?_,fun hHeld => ?_⟩
     ·(obtain ⟨_,_,_,_,_,l5,_,_,_,_,_,_,_,_⟩:=cell7k gA;obtain ⟨_,_,_,_,_,a5,_,_,_,_,_,_,_,_⟩:=cell7k gT;exact ⟨l5,a5⟩)
     try simp only [sq]
     refine tkP 6 hHeld ?_
     try simp only [sq]
     refine anyL_1 (i:=7) rfl (by kernel_rfl) rfl ?_
     obtain ⟨u0,u1,u2,u3,u4,u5,u6,f0,f1,f2,f3,f4,f5,f6⟩:=cell7k gA
     refine wpo_late (by kernel_rfl) (by go_simp;first | done | with_reducible rfl | rfl | exact ⟨rfl,rfl⟩) ?_
     clear u0 u1 u2 u3 u4 u5 u6 f0 f1 f2 f3 f4 f5 f6
     change anyL _ _ _ _ _ _ _ _ _ (setL WA A 5 [.slice aA 3 cA])
     replace gA:=set_5k gA (.slice aA 3 cA)
     replace gT:=(setL_blk [.slice aA 3 cA] WA A 5 w.heap.size (by omega)).trans gT
     replace gB:=(setL_blk [.slice aA 3 cA] WA A 5 B (by omega)).trans gB
     replace HR:=hid (row_blk HR.out (fun b hb' => setL_blk [.slice aA 3 cA] WA A 5 b (by have h9:=hgb b hb';omega)))
     replace HF:=hid (fr_setN (g:=A) HF.out (.inr (by omega)) [.slice aA 3 cA] 5)
     replace HOA:=hid (row_blk HOA.out (fun b hb' => setL_blk [.slice aA 3 cA] WA A 5 b (fun e => hnAA (e ▸ hb'))))
     change (setL WA A 5 [.slice aA 3 cA]).heap[A]? = _ at gA
     generalize setL WA A 5 [.slice aA 3 cA] = VA at *
     try simp only [sq]
     refine anyL_done (by kernel_rfl) ?_ _
     have hA0:=lt_of_heap gA
     have hB0:=lt_of_heap gB
     go_upto_region 26 with fail
     clear hAl
     refine wp_region_late (L:=[7]) (S:=(fun w' => w'.cell? ⟨B,5,none⟩ = some (.slice none 0 0) ∧ w'.cell? ⟨w.heap.size,5,none⟩ = some (.slice (some ⟨g,0,none⟩) m ic))) (by kernel_rfl) ?_ (fun hHeld => ?_)
     ·(obtain ⟨_,_,_,_,_,l5,_,_,_,_,_,_,_,_⟩:=cell7k gB;obtain ⟨_,_,_,_,_,a5,_,_,_,_,_,_,_,_⟩:=cell7k gT;exact ⟨l5,a5⟩)
     have hbD:=bdrew (Below.refl VA.heap.size VA)
     replace gT:=keepheap hbD gT
     replace gA:=keepheap hbD gA
     replace gB:=keepheap hbD gB
     replace HR:=hid (HR.out.drew)
     replace HF:=hid (HF.out.bel hbD)
     replace HOA:=hid (HOA.out.drew)
     clear hbD
     generalize VA.drew = Vc0 at *
     have hA0:=lt_of_heap gA
     have hB0:=lt_of_heap gB
     have hT0:=lt_of_heap gT
     have hAl:∀ b ∈ hb aA,b < Vc0.heap.size:=fun b h => (row_lt HOA.out b h).2
     refine tkP 0 hHeld ?_
     try simp only [sq]
     refine tkA 1 hHeld ?_
     try simp only [sq]
     refine tkP 2 hHeld ?_
     try simp only [sq]
     refine tkA 3 hHeld ?_
     try simp only [sq]
     refine tkP 4 hHeld ?_
     try simp only [sq]
     refine anyL_1 (i:=5) rfl (by kernel_rfl) rfl ?_
     clear hHeld
     refine wpo_app (.tmp 139) (.tmp 142) 32 rfl w.heap.size 40 i0 _ 5 40 Tryz.underlying32 hi0 hz0 hz1 hzz rfl (by decide) none 0 0 [] (by rfl) (own_nilR _ _ _ _) (some ⟨g,15,none⟩) (m - 3) (ic - 3) (flI l2) (by rfl) (SRCB.out _ HR) HLB.out (flI_one _) (by unfold maxLen;omega) (by omega) (Fr.size HF.out) ?_
     intro aB cB WB hown hgrow hat
     replace gT:=(app_blk hgrow (lt_of_heap gT) (by simp [hb])).trans gT
     replace gA:=(app_blk hgrow (lt_of_heap gA) (by simp [hb])).trans gA
     replace gB:=(app_blk hgrow (lt_of_heap gB) (by simp [hb])).trans gB
     replace HR:=hid (row_blk HR.out (fun b hb' => app_blk hgrow (row_lt HR.out b hb').2 (by simp [hb])))
     replace HF:=hid (HF.out.trans (app_fr hgrow) (fun k hk => by simp [hb] at hk))
     replace HOA:=hid (row_blk HOA.out (fun b hb' => app_blk hgrow (row_lt HOA.out b hb').2 (by simp [hb])))
     have hABd:∀ b ∈ hb aA,b ∉ hb aB:=fun b h1 h2 => by
      rcases hat b h2 with e | e
      ·simp [hb] at e
      ·have:=(hAl b h1);omega
     have hnBA:A ∉ hb aB:=fun hc => by
      rcases hat A hc with e | e
      ·simp [hb] at e
      ·have:=hA0;omega
     have hnBB:B ∉ hb aB:=fun hc => by
      rcases hat B hc with e | e
      ·simp [hb] at e
      ·have:=hB0;omega
     have hnBT:w.heap.size ∉ hb aB:=fun hc => by
      rcases hat _ hc with e | e
      ·simp [hb] at e
      ·omega
     have HOB:=hid (show WB.ownsRow w.heap.size 40 5 (.slice aB (m - 3) cB) (m - 3) (flI l2) from by simpa using hown)
     have hBl:∀ b ∈ hb aB,b < WB.heap.size:=fun b h => (row_lt HOB.out b h).2
     have hA0:=lt_of_heap gA
     have hB0:=lt_of_heap gB
     rw [Nat.zero_add]
     clear hown hgrow hat
     refine ⟨?_,fun hHeld => ?_⟩
     ·(obtain ⟨_,_,_,_,_,l5,_,_,_,_,_,_,_,_⟩:=cell7k gB;obtain ⟨_,_,_,_,_,a5,_,_,_,_,_,_,_,_⟩:=cell7k gT;exact ⟨l5,a5⟩)
     try simp only [sq]
     refine tkP 6 hHeld ?_
     try simp only [sq]
     refine anyL_1 (i:=7) rfl (by kernel_rfl) rfl ?_
     obtain ⟨u0,u1,u2,u3,u4,u5,u6,f0,f1,f2,f3,f4,f5,f6⟩:=cell7k gB
     refine wpo_late (by kernel_rfl) (by go_simp;first | done | with_reducible rfl | rfl | exact ⟨rfl,rfl⟩) ?_
     clear u0 u1 u2 u3 u4 u5 u6 f0 f1 f2 f3 f4 f5 f6
     change anyL _ _ _ _ _ _ _ _ _ (setL WB B 5 [.slice aB (m - 3) cB])
     replace gB:=set_5k gB (.slice aB (m - 3) cB)
     replace gT:=(setL_blk [.slice aB (m - 3) cB] WB B 5 w.heap.size (by omega)).trans gT
     replace gA:=(setL_blk [.slice aB (m - 3) cB] WB B 5 A (by omega)).trans gA
     replace HR:=hid (row_blk HR.out (fun b hb' => setL_blk [.slice aB (m - 3) cB] WB B 5 b (by have h9:=hgb b hb';omega)))
     replace HF:=hid (fr_setN (g:=B) HF.out (.inr (by omega)) [.slice aB (m - 3) cB] 5)
     replace HOB:=hid (row_blk HOB.out (fun b hb' => setL_blk [.slice aB (m - 3) cB] WB B 5 b (fun e => hnBB (e ▸ hb'))))
     replace HOA:=hid (row_blk HOA.out (fun b hb' => setL_blk [.slice aB (m - 3) cB] WB B 5 b (fun e => hnAB (e ▸ hb'))))
     change (setL WB B 5 [.slice aB (m - 3) cB]).heap[B]? = _ at gB
     generalize setL WB B 5 [.slice aB (m - 3) cB] = VB at *
     try simp only [sq]
     refine anyL_done (by kernel_rfl) ?_ _
     have hAl2:∀ b ∈ hb aA,b < VB.heap.size:=fun b h => (row_lt HOA.out b h).2
     have hBl2:∀ b ∈ hb aB,b < VB.heap.size:=fun b h => (row_lt HOB.out b h).2
     clear HR SRCA SRCB
     obtain ⟨ka0,ka1,ka2,ka3,ka4,ka5,ka6,fa0,fa1,fa2,fa3,_,_,_⟩:=cell7k gA
     go_wp2_with fail
     refine (ARA.out _ _ _ HOA).mono ?_
     rintro e ZA ⟨rfl,hb⟩
     replace gT:=keepheap hb gT
     replace gA:=keepheap hb gA
     replace gB:=keepheap hb gB
     replace HOA:=hid (row_blk HOA.out (fun b hb' => hb.block b (hAl2 b hb')))
     replace HOB:=hid (row_blk HOB.out (fun b hb' => hb.block b (hBl2 b hb')))
     replace HF:=hid (HF.out.bel hb)
     have hszA:=hb.size
     clear hb
     clear ka0 ka1 ka2 ka3 ka4 ka5 ka6 fa0 fa1 fa2 fa3
     obtain ⟨ka0,ka1,ka2,ka3,_,_,_,fa0,fa1,fa2,fa3,_,_,_⟩:=cell7k gA
     go_upto_region 30 with fail
     clear ka0 ka1 ka2 ka3 fa0 fa1 fa2 fa3
     clear gT
     have q1:=set4k gA (.int .i64 (jns (l1.map (·.2))).1) (.int .i64 (jns (l1.map (·.2))).2.1) (.int .i64 (jns (l1.map (·.2))).2.2.1) (.int .i64 (jns (l1.map (·.2))).2.2.2)
     have q2:=(setL_blk [.int .i64 (jns (l1.map (·.2))).1,.int .i64 (jns (l1.map (·.2))).2.1,.int .i64 (jns (l1.map (·.2))).2.2.1,.int .i64 (jns (l1.map (·.2))).2.2.2] ZA A 0 _ (by omega)).trans gB
     have q3:=hid (row_blk HOA.out (fun b hb' => setL_blk [.int .i64 (jns (l1.map (·.2))).1,.int .i64 (jns (l1.map (·.2))).2.1,.int .i64 (jns (l1.map (·.2))).2.2.1,.int .i64 (jns (l1.map (·.2))).2.2.2] ZA A 0 b (fun e => hnAA (e ▸ hb'))))
     have q4:=hid (row_blk HOB.out (fun b hb' => setL_blk [.int .i64 (jns (l1.map (·.2))).1,.int .i64 (jns (l1.map (·.2))).2.1,.int .i64 (jns (l1.map (·.2))).2.2.1,.int .i64 (jns (l1.map (·.2))).2.2.2] ZA A 0 b (fun e => hnBA (e ▸ hb'))))
     have q5:=hid (fr_setN (g:=A) HF.out (.inr (by omega)) [.int .i64 (jns (l1.map (·.2))).1,.int .i64 (jns (l1.map (·.2))).2.1,.int .i64 (jns (l1.map (·.2))).2.2.1,.int .i64 (jns (l1.map (·.2))).2.2.2] 0)
     simp only [setL,Nat.zero_add,Nat.reduceAdd] at q2 q3 q4 q5
     have q8:=fun b hb' => (row_lt q3.out b hb').2
     have q9:=fun b hb' => (row_lt q4.out b hb').2
     have q6:=lt_of_heap q1
     have q7:=lt_of_heap q2
     refine wp_wld (fun X => X.heap[A]? = some (.cells #[.int .i64 (jns (l1.map (·.2))).1,.int .i64 (jns (l1.map (·.2))).2.1,.int .i64 (jns (l1.map (·.2))).2.2.1,.int .i64 (jns (l1.map (·.2))).2.2.2,.bool true,.slice aA 3 cA,.slice none 0 0] 35 (0,0)) ∧ X.heap[B]? = some (.cells #[.int .i64 0,.int .i64 0,.int .i64 0,.int .i64 0,.bool true,.slice aB (m - 3) cB,.slice none 0 0] 35 (0,0)) ∧ Hid (X.ownsRow w.heap.size 40 5 (.slice aA 3 cA) 3 (flI l1)) ∧ Hid (X.ownsRow w.heap.size 40 5 (.slice aB (m - 3) cB) (m - 3) (flI l2)) ∧ Hid (Fr [g] w X) ∧ A < X.heap.size ∧ B < X.heap.size ∧ (∀ b ∈ hb aA,b < X.heap.size) ∧ ∀ b ∈ hb aB,b < X.heap.size) ⟨q1,q2,q3,q4,q5,q6,q7,q8,q9⟩ ?_
     clear gA gB HOA HOB HF hAl2 hBl2 q1 q2 q3 q4 q5 q6 q7 q8 q9
     rintro XA ⟨gA,gB,HOA,HOB,HF,hA0,hB0,hAl2,hBl2⟩
     obtain ⟨ka0,ka1,ka2,ka3,ka4,ka5,ka6,fa0,fa1,fa2,fa3,_,_,_⟩:=cell7k gB
     go_wp2_with fail
     refine (ARB.out _ _ _ HOB).mono ?_
     rintro e ZB ⟨rfl,hb⟩
     replace gA:=keepheap hb gA
     replace gB:=keepheap hb gB
     replace HOA:=hid (row_blk HOA.out (fun b hb' => hb.block b (hAl2 b hb')))
     replace HOB:=hid (row_blk HOB.out (fun b hb' => hb.block b (hBl2 b hb')))
     replace HF:=hid (HF.out.bel hb)
     have hszB:=hb.size
     clear hb
     clear ka0 ka1 ka2 ka3 ka4 ka5 ka6 fa0 fa1 fa2 fa3
     obtain ⟨ka0,ka1,ka2,ka3,_,_,_,fa0,fa1,fa2,fa3,_,_,_⟩:=cell7k gB
     go_upto_region 31 with fail
     clear ka0 ka1 ka2 ka3 fa0 fa1 fa2 fa3
     have q1:=set4k gB (.int .i64 (jns (l2.map (·.2))).1) (.int .i64 (jns (l2.map (·.2))).2.1) (.int .i64 (jns (l2.map (·.2))).2.2.1) (.int .i64 (jns (l2.map (·.2))).2.2.2)
     have q2:=(setL_blk [.int .i64 (jns (l2.map (·.2))).1,.int .i64 (jns (l2.map (·.2))).2.1,.int .i64 (jns (l2.map (·.2))).2.2.1,.int .i64 (jns (l2.map (·.2))).2.2.2] ZB B 0 _ (by omega)).trans gA
     have q3:=hid (row_blk HOA.out (fun b hb' => setL_blk [.int .i64 (jns (l2.map (·.2))).1,.int .i64 (jns (l2.map (·.2))).2.1,.int .i64 (jns (l2.map (·.2))).2.2.1,.int .i64 (jns (l2.map (·.2))).2.2.2] ZB B 0 b (fun e => hnAB (e ▸ hb'))))
     have q4:=hid (row_blk HOB.out (fun b hb' => setL_blk [.int .i64 (jns (l2.map (·.2))).1,.int .i64 (jns (l2.map (·.2))).2.1,.int .i64 (jns (l2.map (·.2))).2.2.1,.int .i64 (jns (l2.map (·.2))).2.2.2] ZB B 0 b (fun e => hnBB (e ▸ hb'))))
     have q5:=hid (fr_setN (g:=B) HF.out (.inr (by omega)) [.int .i64 (jns (l2.map (·.2))).1,.int .i64 (jns (l2.map (·.2))).2.1,.int .i64 (jns (l2.map (·.2))).2.2.1,.int .i64 (jns (l2.map (·.2))).2.2.2] 0)
     simp only [setL,Nat.zero_add,Nat.reduceAdd] at q2 q3 q4 q5
     have q8:=fun b hb' => (row_lt q3.out b hb').2
     have q9:=fun b hb' => (row_lt q4.out b hb').2
     have q6:=lt_of_heap q2
     have q7:=lt_of_heap q1
     refine wp_wld (fun X => X.heap[B]? = some (.cells #[.int .i64 (jns (l2.map (·.2))).1,.int .i64 (jns (l2.map (·.2))).2.1,.int .i64 (jns (l2.map (·.2))).2.2.1,.int .i64 (jns (l2.map (·.2))).2.2.2,.bool true,.slice aB (m - 3) cB,.slice none 0 0] 35 (0,0)) ∧ X.heap[A]? = some (.cells #[.int .i64 (jns (l1.map (·.2))).1,.int .i64 (jns (l1.map (·.2))).2.1,.int .i64 (jns (l1.map (·.2))).2.2.1,.int .i64 (jns (l1.map (·.2))).2.2.2,.bool true,.slice aA 3 cA,.slice none 0 0] 35 (0,0)) ∧ Hid (X.ownsRow w.heap.size 40 5 (.slice aA 3 cA) 3 (flI l1)) ∧ Hid (X.ownsRow w.heap.size 40 5 (.slice aB (m - 3) cB) (m - 3) (flI l2)) ∧ Hid (Fr [g] w X) ∧ A < X.heap.size ∧ B < X.heap.size ∧ (∀ b ∈ hb aA,b < X.heap.size) ∧ ∀ b ∈ hb aB,b < X.heap.size) ⟨q1,q2,q3,q4,q5,q6,q7,q8,q9⟩ ?_
     clear gA gB HOA HOB HF hAl2 hBl2 q1 q2 q3 q4 q5 q6 q7 q8 q9
     rintro XB ⟨gB,gA,HOA,HOB,HF,hA0,hB0,hAl2,hBl2⟩
     obtain ⟨ka0,ka1,ka2,ka3,ka4,ka5,ka6,_,_,_,_,_,_,_⟩:=cell7k gA
     obtain ⟨kb0,kb1,kb2,kb3,kb4,kb5,kb6,_,_,_,_,_,_,_⟩:=cell7k gB
     go_wp2_with fail
     go_ret
     exact HDONE.out aA aB cA cB XB hABd HOA HOB HF HF.out.size
end Go.Proofs.YtjahlofahjgdbaaGreat
