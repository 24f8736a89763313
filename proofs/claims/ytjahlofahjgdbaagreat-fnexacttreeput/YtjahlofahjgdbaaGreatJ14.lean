/- Texts of stores, joined: Jq, Fw. -/
import Derived.Test.YtjahlofahjgdbaaGreatJp
set_option maxRecDepth 100000
set_option maxHeartbeats 8000000
set_option linter.unusedSimpArgs false
set_option linter.unusedVariables false
namespace Go.Proofs.YtjahlofahjgdbaaGreat
open Go.RowKit Go.Shelf
attribute [local go_sem] Oper.semAt_some
theorem BxG.tn0 {w w':World} {B C g c:Nat} {l:List Bx} (h:BxG w B g c l) (H:Tn M0 C w w'):BxG w' B g c l:=by
 refine ⟨h.1,?_⟩
 rcases h.2 with hn | ⟨g',c',cur,e,q1,q2,q3⟩
 ·exact .inl hn
 ·exact .inr ⟨g',c',cur,e,q1,(H.old g' (lt_of_heap q2) (.inr (fun o ho => by rw [q2] at ho;cases ho;rfl))).trans q2,q3⟩
theorem BxB.tn0 {W W':World} {Bl B C:Nat} {L:List Bx} (h:BxB W Bl B L) (H:Tn M0 C W W'):BxB W' Bl B L:=by
 obtain ⟨g,c,h1,h2⟩:=h
 exact ⟨g,c,H.cells h1,h2.tn0 H⟩
theorem impl_boxesR (m:Nat) (t:KT) (ia ka:Option Addr) (ic kc:Nat) (w:World) (h:KnR m w ia ic ka kc t) (hz:t.its.length + t.kids.length ≤ 1048576):Calls Tryz.prog 89 #[kv t ia ic ka kc] w fun e w' => ∃ g c,e = .returned (.slice (some ⟨g,0,none⟩) t.bxs.length c) ∧ BxG w' w.heap.size g c t.bxs ∧ Below w.heap.size w w':=by
 obtain ⟨i0,hi0,hz0,hz1,hzz⟩:=info_parts Tryz.infoBx
 cases m with
 | zero => exact h.elim
 | succ m =>
 have hks:t.its.length + t.kids.length ≤ 1048576:=hz
 obtain ⟨hIO,hic,hic2,hkc,hkc2,hKK⟩:=h
 have HSQ:=hid (fun (hn:t.kids.length ≤ 1099511627776) => eachKid_seqR Fence.wide 9 trivial rfl (by omega) M0 m t ia ka ic kc w hKK hn)
 clear hKK
 obtain ⟨b0,b1,b2,b3,b4,ni,nk,hkf⟩:=kf t
 have hkv:kv t ia ic ka kc = .agg #[.int .i64 b0,.int .i64 b1,.int .i64 b2,.int .i64 b3,.bool b4,.slice ia ni ic,.slice ka nk kc]:=kv_of' hkf _ _ _ _
 rw [hkf.its,hkf.kids] at hks
 rw [hkf.its] at hic
 rw [hkf.kids] at hkc
 have hkl:t.kids.length ≤ 1099511627776:=by rw [hkf.kids];omega
 have HKV:=hid hkv
 have HIO:=hid hIO
 have HNI:=hid hkf.its
 have HNK:=hid hkf.kids
 have hadd:IntKind.i64.wrap ((ni:Int) + (nk:Int)) = ((ni + nk:Nat):Int):=by rw [IntKind.wrap_i64] <;> omega
 have hnib:ni ≤ 1048576:=by omega
 have hNib:=hid hks
 generalize hN:ni + nk = N at *
 have hN0:=hid hN
 have hmk:=make_boxes N (by omega)
 rw [hkv]
 clear hkv hIO hN hkf
 rw [← callsIn_wide (n:=10)]
 refine callsIn_of_wp_marks Tryz.func89 rfl trivial ?_ rfl
 simp only [Tryz.ntmps89,List.size_toArray,List.length_cons,List.length_nil,Nat.reduceAdd,Nat.reduceSub,Array.replicate_succ,Array.replicate_zero,List.push_toArray,List.append_toArray,List.nil_append,List.cons_append]
 gi_wp2
 obtain ⟨A0,A1,A2,hs,hB⟩:=alloc3 w (.cells #[.int .i64 b0,.int .i64 b1,.int .i64 b2,.int .i64 b3,.bool b4,.slice ia ni ic,.slice ka nk kc] 35) (.cells (madeCells #[.int .i64 0,.int .i64 0,.int .i64 0,.int .i64 0] (N * 4)) 31) (.cells #[.slice (some ⟨w.heap.size + 1,0,none⟩) 0 N] 117)
 have hG0:=World.ownsRow_made (base:=w.heap.size) (e:=31) (size:=4) (w.alloc (.cells #[.int .i64 b0,.int .i64 b1,.int .i64 b2,.int .i64 b3,.bool b4,.slice ia ni ic,.slice ka nk kc] 35)) (madeCells #[.int .i64 0,.int .i64 0,.int .i64 0,.int .i64 0] (N * 4)) N (by simp) (by unfold maxLen;omega) (size_madeCells _ _)
 rw [World.size_alloc] at hG0
 have hG1:BxG (((w.alloc (.cells #[.int .i64 b0,.int .i64 b1,.int .i64 b2,.int .i64 b3,.bool b4,.slice ia ni ic,.slice ka nk kc] 35)).alloc (.cells (madeCells #[.int .i64 0,.int .i64 0,.int .i64 0,.int .i64 0] (N * 4)) 31)).alloc (.cells #[.slice (some ⟨w.heap.size + 1,0,none⟩) 0 N] 117)) w.heap.size (w.heap.size + 1) N []:=hG0.alloc _
 generalize (((w.alloc (.cells #[.int .i64 b0,.int .i64 b1,.int .i64 b2,.int .i64 b3,.bool b4,.slice ia ni ic,.slice ka nk kc] 35)).alloc (.cells (madeCells #[.int .i64 0,.int .i64 0,.int .i64 0,.int .i64 0] (N * 4)) 31)).alloc (.cells #[.slice (some ⟨w.heap.size + 1,0,none⟩) 0 N] 117)) = v1 at *
 clear hG0 A1 hmk hadd
 have HS:=hid hs
 clear hs
 have hLI:t.ibs.length = ni:=by unfold KT.ibs;rw [List.length_map];exact HNI.out
 have hLK:t.kbs.length = nk:=by unfold KT.kbs;rw [List.length_map];exact HNK.out
 have HLI:=hid hLI
 have HLK:=hid hLK
 clear hLI hLK
 gi_loopw [18] (fun i X => ∃ k:Nat,k ≤ ni ∧ i = .int .i64 k ∧ Hid (BxB X (w.heap.size + 1 + 1) w.heap.size (t.ibs.take k)) ∧ Hid (X.heap[w.heap.size]? = some (.cells #[.int .i64 b0,.int .i64 b1,.int .i64 b2,.int .i64 b3,.bool b4,.slice ia ni ic,.slice ka nk kc] 35 (0,0))) ∧ Hid (Below w.heap.size w X)) (fun i _ => ni - (intOf i).toNat)
 case atStart => exact ⟨0,Nat.zero_le _,rfl,hid ⟨w.heap.size + 1,N,A2,hG1⟩,hid A0,hid hB⟩
 case round =>
  clear A0 A2 hG1 hB HS v1
  obtain ⟨k,hk,rfl,HBX,HT,HB⟩:=hrel
  by_cases hlt:k < ni
  ·have c1:(k:Int) < (ni:Int):=by omega
   have hkt:k < t.its.length:=by rw [HNI.out];exact hlt
   have hki:k < t.ibs.length:=by rw [HLI.out];exact hlt
   obtain ⟨bi,oi,rfl,hbi,hii⟩:∃ b off,ia = some ⟨b,off,none⟩ ∧ b < w.heap.size ∧ ∀ j (h:j < t.its.length),Cs w b (off + j * 5) (ci t.its[j]):=by
    rcases HIO.out with h | h
    ·rw [h.2.1] at hkt;exact absurd hkt (by simp)
    ·exact h
   obtain ⟨y0,y1,y2,y3,y4⟩:=((hii k hkt).below hbi HB.out).item
   clear hii
   have hnx:t.ibs.take (k + 1) = t.ibs.take k ++ [t.its[k].2]:=by
    rw [List.take_add_one,List.getElem?_eq_getElem hki,Option.toList_some]
    congr 2
    exact List.getElem_map (fun x:It => x.2)
   have hpl:(t.ibs.take k).length = k:=by rw [List.length_take,HLI.out];exact Nat.min_eq_left hk
   have HPL:=hid hpl
   have HNX:=hid hnx
   clear hnx hpl
   generalize t.ibs.take k = P at *
   generalize hxx:t.its[k].2 = xx at *
   clear hxx
   generalize hid0:t.its[k].1 = iid at *
   clear hid0
   obtain ⟨g,c,hb1,hg1⟩:=HBX.out
   have z1:=(cell1k hb1).1
   obtain ⟨hgl,cur,hgt⟩:=hg1.typ
   have hne:g ≠ w.heap.size + 1 + 1:=fun e => by rw [e,hb1] at hgt;cases hgt
   have hsX:=HB.out.size
   have hPn:P.length ≤ 1048576:=by rw [HPL.out];omega
   obtain ⟨x0,x1,x2,x3⟩:=xx
   simp only [] at y1 y2 y3 y4
   replace z1:=(cell1k (old_alloc (o':=.cells #[.int .i64 iid,.int .i64 x0,.int .i64 x1,.int .i64 x2,.int .i64 x3] 40) hb1)).1
   have HGW:Hid (((wr.alloc (.cells #[.int .i64 iid,.int .i64 x0,.int .i64 x1,.int .i64 x2,.int .i64 x3] 40)).alloc (.cells #[.int .i64 x0,.int .i64 x1,.int .i64 x2,.int .i64 x3] 31)).ownsRow w.heap.size 31 4 (.slice (some ⟨g,0,none⟩) P.length c) P.length (flB P)):=hid ((hg1.alloc _).alloc _)
   have hnew:((wr.alloc (.cells #[.int .i64 iid,.int .i64 x0,.int .i64 x1,.int .i64 x2,.int .i64 x3] 40)).alloc (.cells #[.int .i64 x0,.int .i64 x1,.int .i64 x2,.int .i64 x3] 31)).heap[wr.heap.size + 1]? = some (.cells #[.int .i64 x0,.int .i64 x1,.int .i64 x2,.int .i64 x3] 31 (0,0)):=new_alloc _ _ _ (by simp)
   have hbl0:((wr.alloc (.cells #[.int .i64 iid,.int .i64 x0,.int .i64 x1,.int .i64 x2,.int .i64 x3] 40)).alloc (.cells #[.int .i64 x0,.int .i64 x1,.int .i64 x2,.int .i64 x3] 31)).heap[w.heap.size + 1 + 1]? = some (.cells #[.slice (some ⟨g,0,none⟩) P.length c] 117 (0,0)):=old_alloc (old_alloc hb1)
   have ht0:((wr.alloc (.cells #[.int .i64 iid,.int .i64 x0,.int .i64 x1,.int .i64 x2,.int .i64 x3] 40)).alloc (.cells #[.int .i64 x0,.int .i64 x1,.int .i64 x2,.int .i64 x3] 31)).heap[w.heap.size]? = some (.cells #[.int .i64 b0,.int .i64 b1,.int .i64 b2,.int .i64 b3,.bool b4,.slice (some ⟨bi,oi,none⟩) ni ic,.slice ka nk kc] 35 (0,0)):=old_alloc (old_alloc HT.out)
   have hB0:Below w.heap.size w ((wr.alloc (.cells #[.int .i64 iid,.int .i64 x0,.int .i64 x1,.int .i64 x2,.int .i64 x3] 40)).alloc (.cells #[.int .i64 x0,.int .i64 x1,.int .i64 x2,.int .i64 x3] 31)):=balloc (balloc HB.out _) _
   have hsX2:=hB0.size
   have hgW:g ≠ w.heap.size:=fun e => by rw [e,HT.out] at hgt;cases hgt
   have HNW:=hid hnew
   have HBL0:=hid hbl0
   have HT0:=hid ht0
   have HB0:=hid hB0
   clear hnew hbl0 ht0 hB0
   gi_wp2_with (gi_at_builtin;refine wpListIn_append_own _ rfl (.tmp 22) (.tmp 25) 117 rfl w.heap.size 31 i0 _ 4 32 Tryz.underlying117 hi0 hz0 hz1 hzz rfl (by decide) (.slice (some ⟨g,0,none⟩) P.length c) P.length (flB P) (by rfl) HGW.out ⟨wr.heap.size + 1,0,none⟩ 1 1 [.int .i64 x0,.int .i64 x1,.int .i64 x2,.int .i64 x3] (by rfl) (by rfl) (World.news_of_block (cs:=#[.int .i64 x0,.int .i64 x1,.int .i64 x2,.int .i64 x3]) (t:=31) (fr:=(0,0)) HNW.out) (by simp [Value.oneCell']) (by unfold maxLen;omega) (by omega) hsX2 ?_;intro v' w1 hown hgrow hiff;obtain ⟨g',c',rfl⟩:=owned_at hown hiff;have hbl1:w1.heap[w.heap.size + 1 + 1]? = some (.cells #[.slice (some ⟨g,0,none⟩) P.length c] 117 (0,0)):=(hgrow.block _ (lt_of_heap HBL0.out) (by simp [Value.ownBlock];omega)).trans HBL0.out;obtain ⟨u1,uf1⟩:=cell1k hbl1)
   have hg2:BxG w1 w.heap.size g' c' (P ++ [(x0,x1,x2,x3)]):=ofB hown (by rw [List.length_append];rfl) (by rw [flB_app];rfl)
   have hs2:(w1.setCell ⟨w.heap.size + 1 + 1,0,none⟩ (.slice (some ⟨g',0,none⟩) (P.length + 1) c')).heap[w.heap.size + 1 + 1]? = some (.cells #[.slice (some ⟨g',0,none⟩) (P.length + 1) c'] 117 (0,0)):=set_at hbl1
   have hg3:BxG (w1.setCell ⟨w.heap.size + 1 + 1,0,none⟩ (.slice (some ⟨g',0,none⟩) (P.length + 1) c')) w.heap.size g' c' (P ++ [(x0,x1,x2,x3)]):=World.ownsRow.kept hg2 (grownBy_setCell' w1 _ _) (.inr (by
    obtain ⟨_,cur',hgt'⟩:=hg2.typ
    simp only [Value.ownBlock,ne_eq,Option.some.injEq]
    intro e
    rw [e,hbl1] at hgt';cases hgt'))
   have ht2:(w1.setCell ⟨w.heap.size + 1 + 1,0,none⟩ (.slice (some ⟨g',0,none⟩) (P.length + 1) c')).heap[w.heap.size]? = some (.cells #[.int .i64 b0,.int .i64 b1,.int .i64 b2,.int .i64 b3,.bool b4,.slice (some ⟨bi,oi,none⟩) ni ic,.slice ka nk kc] 35 (0,0)):=(Below.heap_setCell _ _ _ _ (by dsimp only;omega)).trans ((hgrow.block _ (lt_of_heap HT0.out) (by simp [Value.ownBlock];omega)).trans HT0.out)
   have hB2:Below w.heap.size w (w1.setCell ⟨w.heap.size + 1 + 1,0,none⟩ (.slice (some ⟨g',0,none⟩) (P.length + 1) c')):=(HB0.out.grown hgrow hsX2 (fun r e => by cases e;exact hgl)).setCell (by dsimp only;omega) _
   go_roundw
   case rel => exact ⟨k + 1,by omega,by go_num,hid ⟨g',c',by rw [HNX.out,List.length_append];exact hs2,by rw [HNX.out];exact hg3⟩,hid ht2,hid hB2⟩
   case measure => simp [intOf];omega
  ·have c1:(ni:Int) ≤ (k:Int):=by omega
   have hall:t.ibs.take k = t.ibs:=List.take_of_length_le (by rw [HLI.out];omega)
   rw [hall] at HBX
   have hTO:=HT.out
   obtain ⟨z0,z1,z2,z3,z4,z5,z6,_,_,_,_,_,_,_⟩:=cell7k hTO
   have hB:=HB.out
   have h2:=HBX.out
   obtain ⟨gg0,cc0,hbb0,_⟩:=HBX.out
   have hZ:w.heap.size + 1 + 1 < wr.heap.size:=lt_of_heap hbb0
   gi_wp2
   clear z0 z1 z2 z3 z4 z5 z6 hall
   refine wpIn_rangeN rfl (fun h => by cases h) (first:=#[kv t ia ic ka kc]) (lb:=#[]) (by rw [HKV.out];rfl) trivial (enters_of Tryz.func79 (by kernel_rfl) rfl) (fun _ => rfl) (fun _ => rfl) (HSQ.out hkl) hB hB.size
    (fun k X => BxB X (w.heap.size + 1 + 1) w.heap.size (t.ibs ++ t.kbs.take k) ∧ Below w.heap.size w X)
    (fun c k X => False)
    (fun _ _ _ => trivial) ?hI ?hIx ?h0
    (RdR m wr.heap.size w t.kids (fun k X => BxB X (w.heap.size + 1 + 1) w.heap.size (t.ibs ++ t.kbs.take k) ∧ Below w.heap.size w X) (fun Bx vv => #[.agg #[.int .i64 b0,.int .i64 b1,.int .i64 b2,.int .i64 b3,.bool b4,.slice ia ni ic,.slice ka nk kc],.pointer (some ⟨w.heap.size,0,none⟩),.slice none 0 0,.pointer (some ⟨w.heap.size + 1 + 1,0,none⟩),undef,u5,.pointer (some ⟨Bx,0,none⟩),.pointer (some ⟨w.heap.size,5,none⟩),.slice ia ni ic,.int .i64 ni,.pointer (some ⟨w.heap.size,6,none⟩),.slice ka nk kc,.int .i64 nk,.int .i64 N,.slice (some ⟨w.heap.size + 1,0,none⟩) 0 N,.pointer (some ⟨w.heap.size,5,none⟩),.slice ia ni ic,.int .i64 ni,.int .i64 k,.bool false,u20,u21,u22,u23,u24,u25,u26,u27,.agg #[.int .i64 b0,.int .i64 b1,.int .i64 b2,.int .i64 b3,.bool b4,.slice ia ni ic,.slice ka nk kc],.func (.func 79) #[.agg #[.int .i64 b0,.int .i64 b1,.int .i64 b2,.int .i64 b3,.bool b4,.slice ia ni ic,.slice ka nk kc]] #[],vv,undef,undef,undef,undef,undef,undef]))
    ?hAx ?assign ?body ?done ?stop
   case hI =>
    rintro k X Y ⟨h1,h3⟩ ht
    exact ⟨h1.tn0 ht,h3.trans (ht.below hB.size h3.size)⟩
   case hIx => exact fun c k X Y h _ => h.elim
   case h0 => exact ⟨by rw [List.take_zero,List.append_nil];exact h2,hB⟩
   case hAx =>
    rintro k a' X l' r r' HH hl' hle'
    exact RdR.putR HH hl' hle'
   case assign =>
    rintro l' k v X hk h1 ⟨hk',ia',ic',ka',kc',rfl,hkn⟩ hsX hbX
    obtain ⟨c0,c1,c2,c3,c4,mi,mk,hf⟩:=kf t.kids[k]
    rw [kv_of' hf]
    gi_wp2
    have hBA:Below X.heap.size X (X.alloc (.cells #[.int .i64 c0,.int .i64 c1,.int .i64 c2,.int .i64 c3,.bool c4,.slice ia' mi ic',.slice ka' mk kc'] 35)):=balloc (Below.refl X.heap.size X) _
    exact ⟨Kp.of_below hBA (Nat.le_trans hB.size hbX.size),X.heap.size,ia',ic',ka',kc',hk',c0,c1,c2,c3,c4,mi,mk,hf,new_alloc _ _ _ rfl,hsX,hkn,⟨X,h1,Nat.le_refl _,Tn.of_below hBA⟩,rfl⟩
   case body =>
    rintro l' k' a' X hk' ⟨Bx,ia',ic',ka',kc',hk2,c0,c1,c2,c3,c4,mi,mk,hf,hbx,hle,hkn,⟨X0,⟨hX1,hX3⟩,hX0,ht0⟩,rfl⟩
    have h3:=hX3.trans (ht0.below hB.size hX3.size)
    obtain ⟨g,c,hb1,hg1⟩:=hX1.tn0 ht0
    clear hkn hX1 hX3 hX0 ht0
    have hki:k' < t.kbs.length:=by rw [HLK.out,← HNK.out];exact hk2
    have hnx:t.ibs ++ t.kbs.take (k' + 1) = t.ibs ++ t.kbs.take k' ++ [(c0,c1,c2,c3)]:=by
     rw [List.take_add_one,List.getElem?_eq_getElem hki,Option.toList_some,List.append_assoc]
     congr 3
     have e:t.kbs[k'] = t.kids[k'].box:=List.getElem_map KT.box
     rw [e,← hf.x0,← hf.x1,← hf.x2,← hf.x3]
    have hpl:(t.ibs ++ t.kbs.take k').length ≤ 1048576:=by
     have:=HNK.out
     have:=hN0.out
     rw [List.length_append,HLI.out,List.length_take]
     omega
    have HNX:=hid hnx
    clear hnx hf
    generalize hP:t.ibs ++ t.kbs.take k' = P at *
    clear hP
    have hsX:=h3.size
    obtain ⟨z0,z1,z2,z3,z4,z5,z6,_,_,_,_,_,_,_⟩:=cell7k hbx
    obtain ⟨y0,yf⟩:=cell1k hb1
    obtain ⟨hgl,cur,hgt⟩:=hg1.typ
    have hne:g ≠ w.heap.size + 1 + 1:=fun e => by rw [e,hb1] at hgt;cases hgt
    have HGW:Hid ((X.alloc (.cells #[.int .i64 c0,.int .i64 c1,.int .i64 c2,.int .i64 c3] 31)).ownsRow w.heap.size 31 4 (.slice (some ⟨g,0,none⟩) P.length c) P.length (flB P)):=hid (hg1.alloc _)
    have HNW:=hid (new_alloc X X.heap.size (.cells #[.int .i64 c0,.int .i64 c1,.int .i64 c2,.int .i64 c3] 31) rfl)
    have HBL0:=hid (old_alloc (o':=.cells #[.int .i64 c0,.int .i64 c1,.int .i64 c2,.int .i64 c3] 31) hb1)
    have hB0:=balloc (Below.refl X.heap.size X) (.cells #[.int .i64 c0,.int .i64 c1,.int .i64 c2,.int .i64 c3] 31)
    have hsX2:w.heap.size ≤ (X.alloc (.cells #[.int .i64 c0,.int .i64 c1,.int .i64 c2,.int .i64 c3] 31)).heap.size:=Nat.le_trans hsX hB0.size
    have HB0:=hid hB0
    clear hB0
    simp only []
    gi_wp2_with (gi_at_builtin;refine wpListIn_append_own _ rfl (.tmp 31) (.tmp 34) 117 rfl w.heap.size 31 i0 _ 4 32 Tryz.underlying117 hi0 hz0 hz1 hzz rfl (by decide) (.slice (some ⟨g,0,none⟩) P.length c) P.length (flB P) (by rfl) HGW.out ⟨X.heap.size,0,none⟩ 1 1 [.int .i64 c0,.int .i64 c1,.int .i64 c2,.int .i64 c3] (by rfl) (by rfl) (World.news_of_block (cs:=#[.int .i64 c0,.int .i64 c1,.int .i64 c2,.int .i64 c3]) (t:=31) (fr:=(0,0)) HNW.out) (by simp [Value.oneCell']) (by unfold maxLen;omega) (by omega) hsX2 ?_;intro v' w1 hown hgrow hiff;obtain ⟨g',c',rfl⟩:=owned_at hown hiff;have hbl1:w1.heap[w.heap.size + 1 + 1]? = some (.cells #[.slice (some ⟨g,0,none⟩) P.length c] 117 (0,0)):=(hgrow.block _ (lt_of_heap HBL0.out) (by simp [Value.ownBlock];omega)).trans HBL0.out;obtain ⟨u1,uf1⟩:=cell1k hbl1)
    have hg2:BxG w1 w.heap.size g' c' (P ++ [(c0,c1,c2,c3)]):=ofB hown (by rw [List.length_append];rfl) (by rw [flB_app];rfl)
    have hk1:Kp M0 wr.heap.size w.heap.size X w1:=((Kp.refl _ _ _ _).belowR HB0.out hsX).grown hgrow hsX2 (fun r e => by
     cases e
     exact ⟨hgl,.inr (fun o ho => by
      have:=old_alloc (o':=.cells #[.int .i64 c0,.int .i64 c1,.int .i64 c2,.int .i64 c3] 31) hgt
      rw [this] at ho;cases ho;rfl)⟩)
    refine ⟨hk1.set _ (by dsimp only;omega) (.inl (by dsimp only;omega)),⟨g',c',?_,?_⟩,(h3.trans hk1.below).setCell (by dsimp only;omega) _⟩
    ·rw [HNX.out,List.length_append]
     exact set_at hbl1
    ·rw [HNX.out]
     obtain ⟨_,cur',hgt'⟩:=hg2.typ
     exact World.ownsRow.kept hg2 (grownBy_setCell' w1 _ _) (.inr (by
      simp only [Value.ownBlock,ne_eq,Option.some.injEq]
      intro e
      rw [e,hbl1] at hgt';cases hgt'))
   case done =>
    rintro X ⟨⟨g,c,hb1,hg1⟩,h3⟩ hD hbX
    have hfin:t.ibs ++ t.kbs.take t.kids.length = t.bxs:=by
     rw [List.take_of_length_le (by rw [HLK.out,HNK.out];exact Nat.le_refl _)];rfl
    rw [hfin] at hb1 hg1
    obtain ⟨y0,yf⟩:=cell1k hb1
    gi_wp2
    refine ⟨by simp,.inl ⟨_,_,rfl,run_takeDeferred hD,?_⟩⟩
    have ht:Tn M0 wr.heap.size X (X.putObj wr.heap.size (.deferred none)):=Tn.put _ hD rfl (Nat.le_refl _)
    exact ⟨_,results_tmp rfl _ _ _,g,c,rfl,hg1.tn0 ht,h3.trans (ht.below hB.size h3.size)⟩
   case stop => exact fun c k X _ h => h.elim
def flp (qs:List (Int × Int)):List Value:=qs.flatMap fun q => [.int .i64 q.1,.int .i64 q.2]
theorem flp_app (a b:List (Int × Int)):flp (a ++ b) = flp a ++ flp b:=List.flatMap_append
theorem cell_flp {w:World} {b:Nat}:∀ (l:List (Int × Int)) (o:Nat),Cs w b o (flp l) → ∀ j (h:j < l.length),w.cell? ⟨b,o + j * 2,none⟩ = some (.int .i64 l[j].1) ∧ w.cell? ⟨b,o + j * 2 + 1,none⟩ = some (.int .i64 l[j].2)
 | [],o,_,j,h => by cases h
 | x :: r,o,H,0,h => by
  refine ⟨?_,?_⟩
  ·have:=H 0 (.int .i64 x.1) rfl
   simpa using this
  ·have:=H 1 (.int .i64 x.2) rfl
   simpa using this
 | x :: r,o,H,j + 1,h => by
  have:=cell_flp r (o + 2) (fun i v e => by
   have:=H (i + 2) v (show ([Value.int .i64 x.1,.int .i64 x.2] ++ flp r)[i + 2]? = some v by
    rw [List.getElem?_append_right (by simp)]
    simpa using e)
   rwa [show o + (i + 2) = o + 2 + i by omega] at this) j (by simpa using h)
  rw [show o + (j + 1) * 2 = o + 2 + j * 2 by omega]
  exact this
def PtG (w:World) (B g c:Nat) (l:List (Int × Int)):Prop:=w.ownsRow B 108 2 (.slice (some ⟨g,0,none⟩) l.length c) l.length (flp l)
theorem PtG.lt {w:World} {B g c:Nat} {l:List (Int × Int)} (h:PtG w B g c l):B ≤ g ∧ g < w.heap.size:=World.ownsRow.lt h g rfl
theorem PtG.typ {w:World} {B g c:Nat} {l:List (Int × Int)} (h:PtG w B g c l):B ≤ g ∧ l.length ≤ c ∧ ∃ cur,w.heap[g]? = some (.cells cur 108 (0,0)):=by
 rcases h.2 with ⟨e,_⟩ | ⟨g',c',cur,e,q1,q2,q3,_⟩
 ·cases e
 ·cases e;exact ⟨q1,q3,cur,q2⟩
theorem PtG.below {w w':World} {B g c:Nat} {l:List (Int × Int)} (h:PtG w B g c l) (H:Below w.heap.size w w'):PtG w' B g c l:=
 World.ownsRow.kept h (row:=none) ⟨H.os,H.tape,H.output,H.size,fun k hk _ => H.block k hk⟩ (.inr (by simp [Value.ownBlock]))
theorem PtG.pts {w:World} {B g c:Nat} {l:List (Int × Int)} (h:PtG w B g c l):Pts w (some ⟨g,0,none⟩) l:=by
 have hc:=World.ownsRow.cells h (g:=g) rfl
 have hcs:Cs w g 0 (flp l):=by
  intro i v e
  have:=hc i v e
  have ha:(⟨g,0,none⟩:Addr).add i = ⟨g,0 + i,none⟩:=Addr.add_mid g 0 i
  rwa [ha] at this
 exact .inr ⟨g,0,rfl,h.lt.2,fun j hj => by
  have:=cell_flp l 0 hcs j hj
  have e:l.getD j (0,0) = l[j]:=by rw [List.getD_eq_getElem?_getD,List.getElem?_eq_getElem hj];rfl
  rw [e];exact this⟩
theorem ofP {w:World} {B g c n:Nat} {l:List (Int × Int)} {vs:List Value} (h:w.ownsRow B 108 2 (.slice (some ⟨g,0,none⟩) n c) n vs) (hn:n = l.length) (hv:vs = flp l):PtG w B g c l:=by
 subst hn hv;exact h
theorem cor_len:∀ l:List Bx,(cor l).length = 2 * l.length
 | [] => rfl
 | x :: r => by rw [cor_cons];simp only [List.length_cons];rw [cor_len r];omega
theorem cor_next (l:List Bx) (x:Bx):cor (l ++ [x]) = cor l ++ [(x.1,x.2.1),(x.2.2.1,x.2.2.2)]:=by
 unfold cor
 rw [List.flatMap_append];rfl
theorem Tryz.infoPo:(Tryz.prog.info? 108).map (fun i => (i.zero,i.size,i.bytes)) = some (some (.agg #[.int .i64 0,.int .i64 0]),2,16):=by kernel_rfl
theorem make_pts (n:Nat) (hn:n ≤ 1099511627776) (w:World):(Instr.makeSlice 127 (.int .i64 0) (.int .i64 n)).run Tryz.prog w = .ok (.slice (some ⟨w.heap.size,0,none⟩) 0 n) (w.alloc (.cells (madeCells #[.int .i64 0,.int .i64 0] (n * 2)) 108)):=by
 obtain ⟨i0,hi0,hz0,hz1,hz2⟩:=info_parts Tryz.infoPo
 have:=run_make (P:=Tryz.prog) w 127 108 i0 _ Tryz.underlying127 hi0 hz0 .i64 .i64 0 n (by omega) (by omega) (by rw [hz2];omega) (by omega)
 rw [hz1] at this
 exact this
theorem impl_around (m lo:Nat) (t:KT) (ia ka:Option Addr) (w:World) (h:Kn lo m w ia ka t) (hz:ksz m t ≤ 1048576):Calls Tryz.prog 90 #[kvo t ia ka] w fun e w' => e = .returned (.agg #[.int .i64 (arI t).1,.int .i64 (arI t).2.1,.int .i64 (arI t).2.2.1,.int .i64 (arI t).2.2.2]) ∧ Below w.heap.size w w':=by
 obtain ⟨i0,hi0,hz0,hz1,hzz⟩:=info_parts Tryz.infoPo
 have hks:t.bxs.length ≤ 1048576:=by
  cases m with
  | zero => exact h.elim
  | succ m =>
   unfold KT.bxs KT.ibs KT.kbs
   rw [List.length_append,List.length_map,List.length_map]
   exact Nat.le_trans (show t.its.length + t.kids.length ≤ t.its.length + t.kids.length + (t.kids.map (ksz m)).sum by omega) hz
 have CB:=hid (fun (W:World) (hb:Below w.heap.size w W) => impl_boxes m lo t ia ka W (h.below hb) hz)
 obtain ⟨b0,b1,b2,b3,b4,ni,nk,hkf⟩:=kf t
 have hkv:kvo t ia ka = .agg #[.int .i64 b0,.int .i64 b1,.int .i64 b2,.int .i64 b3,.bool b4,.slice ia ni ni,.slice ka nk nk]:=kvo_of hkf _ _
 rw [hkv] at CB ⊢
 have HAR:Hid (arI t = (aX (cor t.bxs),aY (cor t.bxs),bX (cor t.bxs),bY' (cor t.bxs))):=hid rfl
 generalize arI t = ar at *
 generalize t.bxs = L at *
 clear h hz hkv hkf
 have gT:=hid (old_alloc (o':=(.cells #[.int .i64 0,.int .i64 0,.int .i64 0,.int .i64 0] 31)) (new_alloc w w.heap.size (.cells #[.int .i64 b0,.int .i64 b1,.int .i64 b2,.int .i64 b3,.bool b4,.slice ia ni ni,.slice ka nk nk] 35) rfl))
 have gZ:=hid (new_alloc (w.alloc (.cells #[.int .i64 b0,.int .i64 b1,.int .i64 b2,.int .i64 b3,.bool b4,.slice ia ni ni,.slice ka nk nk] 35)) (w.heap.size + 1) (.cells #[.int .i64 0,.int .i64 0,.int .i64 0,.int .i64 0] 31) (by simp))
 have B0:=hid (balloc (balloc (Below.refl w.heap.size w) (.cells #[.int .i64 b0,.int .i64 b1,.int .i64 b2,.int .i64 b3,.bool b4,.slice ia ni ni,.slice ka nk nk] 35)) (.cells #[.int .i64 0,.int .i64 0,.int .i64 0,.int .i64 0] 31))
 have hmul:IntKind.i64.wrap (2 * (L.length:Int)) = ((2 * L.length:Nat):Int):=by rw [IntKind.wrap_i64] <;> omega
 have hmk:=make_pts (2 * L.length) (by omega)
 have hN2:2 * L.length ≤ 2097152:=by omega
 generalize hN:2 * L.length = N at *
 have HN:=hid hN
 clear hN
 go_enter Tryz.func90,Tryz.ntmps90
 go_wp2_with fail
 generalize (w.alloc (.cells #[.int .i64 b0,.int .i64 b1,.int .i64 b2,.int .i64 b3,.bool b4,.slice ia ni ni,.slice ka nk nk] 35)).alloc (.cells #[.int .i64 0,.int .i64 0,.int .i64 0,.int .i64 0] 31) = v0 at *
 refine (CB.out _ B0.out).mono ?_
 rintro e v1 ⟨g,c,rfl,hG,hb⟩
 have gZ1:=hid (keepheap hb gZ.out)
 have B1:=hid (btrans B0.out hb)
 have hs0:=B0.out.size
 have HG:=hid hG
 clear hG hb CB gZ B0 gT
 go_wp2_with fail
 have hO0:=World.ownsRow_made (base:=w.heap.size) (e:=108) (size:=2) v1 (madeCells #[.int .i64 0,.int .i64 0] (N * 2)) N B1.out.size (by unfold maxLen;omega) (size_madeCells _ _)
 have P0:PtG (v1.alloc (.cells (madeCells #[.int .i64 0,.int .i64 0] (N * 2)) 108)) w.heap.size v1.heap.size N (cor (L.take 0)):=hO0
 have G0:=HG.out.below (balloc (Below.refl v1.heap.size v1) (.cells (madeCells #[.int .i64 0,.int .i64 0] (N * 2)) 108))
 have Z0:=old_alloc (o':=.cells (madeCells #[.int .i64 0,.int .i64 0] (N * 2)) 108) gZ1.out
 have BB0:=balloc B1.out (.cells (madeCells #[.int .i64 0,.int .i64 0] (N * 2)) 108)
 generalize v1.alloc (.cells (madeCells #[.int .i64 0,.int .i64 0] (N * 2)) 108) = v2 at *
 clear hO0 hmk HG gZ1 B1
 go_loopw [4,17] (fun t4 t17 wr => ∃ k gp cp:Nat,k ≤ L.length ∧ t17 = .int .i64 k ∧ t4 = .slice (some ⟨gp,0,none⟩) (cor (L.take k)).length cp ∧ Hid (PtG wr w.heap.size gp cp (cor (L.take k))) ∧ Hid (BxG wr v0.heap.size g c L) ∧ Hid (wr.heap[w.heap.size + 1]? = some (.cells #[.int .i64 0,.int .i64 0,.int .i64 0,.int .i64 0] 31 (0,0))) ∧ Hid (Below w.heap.size w wr)) (fun _ t17 _ => L.length - (intOf t17).toNat)
 case atStart => exact ⟨0,v1.heap.size,N,Nat.zero_le _,rfl,rfl,hid P0,hid G0,hid Z0,hid BB0⟩
 case round =>
  clear P0 G0 Z0 BB0 v2
  obtain ⟨k,gp,cp,hk,rfl,rfl,HP,HG,HZ,HB⟩:=hrel
  by_cases hlt:k < L.length
  ·have c1:(k:Int) < (L.length:Int):=by omega
   obtain hcs:=HG.out.at k hlt
   have y0:=hcs 0 _ rfl
   have y1:=hcs 1 _ rfl
   have y2:=hcs 2 _ rfl
   have y3:=hcs 3 _ rfl
   have hnx:cor (L.take (k + 1)) = cor (L.take k) ++ [(L[k].1,L[k].2.1),(L[k].2.2.1,L[k].2.2.2)]:=by
    rw [List.take_add_one,List.getElem?_eq_getElem hlt,Option.toList_some,cor_next]
   have hpl:(cor (L.take k)).length ≤ 2097152:=by rw [cor_len,List.length_take];omega
   have HNX:=hid hnx
   clear hnx hcs
   generalize cor (L.take k) = P at *
   generalize hxx:L[k] = xx at *
   clear hxx
   obtain ⟨x0,x1,x2,x3⟩:=xx
   simp only [Nat.add_zero] at y0 y1 y2 y3
   have hgg:=HG.out.lt
   obtain ⟨hgl,hgc,cur,hgt⟩:=HP.out.typ
   obtain ⟨_,curb,hgb⟩:=HG.out.typ
   have hgpl:=lt_of_heap hgt
   have hne:gp ≠ g:=fun e => by rw [e,hgb] at hgt;cases hgt
   have hnz:gp ≠ w.heap.size + 1:=fun e => by rw [e,HZ.out] at hgt;cases hgt
   have hsX:=HB.out.size
   go_upto_region 6 with fail
   have r0:=(cell4b (new_alloc wr wr.heap.size (.cells #[.int .i64 x0,.int .i64 x1,.int .i64 x2,.int .i64 x3] 31) rfl)).1
   have r1:=(cell4b (new_alloc wr wr.heap.size (.cells #[.int .i64 x0,.int .i64 x1,.int .i64 x2,.int .i64 x3] 31) rfl)).2.1
   have r2:=(cell4b (new_alloc wr wr.heap.size (.cells #[.int .i64 x0,.int .i64 x1,.int .i64 x2,.int .i64 x3] 31) rfl)).2.2.1
   have r3:=(cell4b (new_alloc wr wr.heap.size (.cells #[.int .i64 x0,.int .i64 x1,.int .i64 x2,.int .i64 x3] 31) rfl)).2.2.2.1
   have hBx:=balloc (Below.refl wr.heap.size wr) (.cells #[.int .i64 x0,.int .i64 x1,.int .i64 x2,.int .i64 x3] 31)
   have HPF:Hid (∀ W,Below (wr.alloc (.cells #[.int .i64 x0,.int .i64 x1,.int .i64 x2,.int .i64 x3] 31)).heap.size (wr.alloc (.cells #[.int .i64 x0,.int .i64 x1,.int .i64 x2,.int .i64 x3] 31)) W → PtG W w.heap.size gp cp P):=hid (fun W hb => (HP.out.below hBx).below hb)
   have HGF:Hid (∀ W,Below (wr.alloc (.cells #[.int .i64 x0,.int .i64 x1,.int .i64 x2,.int .i64 x3] 31)).heap.size (wr.alloc (.cells #[.int .i64 x0,.int .i64 x1,.int .i64 x2,.int .i64 x3] 31)) W → BxG W v0.heap.size g c L):=hid (fun W hb => (HG.out.below hBx).below hb)
   have HZF:Hid (∀ W,Below (wr.alloc (.cells #[.int .i64 x0,.int .i64 x1,.int .i64 x2,.int .i64 x3] 31)).heap.size (wr.alloc (.cells #[.int .i64 x0,.int .i64 x1,.int .i64 x2,.int .i64 x3] 31)) W → W.heap[w.heap.size + 1]? = some (.cells #[.int .i64 0,.int .i64 0,.int .i64 0,.int .i64 0] 31 (0,0))):=hid (fun W hb => keepheap hb (keepheap hBx HZ.out))
   have HBF:Hid (∀ W,Below (wr.alloc (.cells #[.int .i64 x0,.int .i64 x1,.int .i64 x2,.int .i64 x3] 31)).heap.size (wr.alloc (.cells #[.int .i64 x0,.int .i64 x1,.int .i64 x2,.int .i64 x3] 31)) W → Below w.heap.size w W):=hid (fun W hb => btrans (btrans HB.out hBx) hb)
   have hsW:w.heap.size ≤ (wr.alloc (.cells #[.int .i64 x0,.int .i64 x1,.int .i64 x2,.int .i64 x3] 31)).heap.size:=Nat.le_trans hsX hBx.size
   clear HP HG HZ HB hBx
   generalize wr.alloc (.cells #[.int .i64 x0,.int .i64 x1,.int .i64 x2,.int .i64 x3] 31) = v at *
   have hvb:some wr.heap.size ≠ (Value.slice (some ⟨gp,0,none⟩) P.length cp).ownBlock:=by simp only [Value.ownBlock,ne_eq,Option.some.injEq];omega
   go_region_held3 (fun w' => w'.cell? ⟨wr.heap.size,0,none⟩ = some (.int .i64 x0) ∧ w'.cell? ⟨wr.heap.size,1,none⟩ = some (.int .i64 x1) ∧ w'.cell? ⟨wr.heap.size,2,none⟩ = some (.int .i64 x2) ∧ w'.cell? ⟨wr.heap.size,3,none⟩ = some (.int .i64 x3)) ((go_split_ands;(repeat' apply And.intro) <;> (repeat (first | with_reducible assumption | with_reducible refine keepdrew ?_ | with_reducible refine keepalloc ?_ _ | with_reducible exact keepcell hv2 (by with_reducible assumption) | with_reducible exact keepcell hv1 (by with_reducible assumption) | (refine hgrow.cell ?_ hvb)))))
    (first
     | (go_at_call 81;refine (low_b _ _ _ _ _).mono ?_;rintro e' w1 ⟨rfl,hb1⟩;have hv1:Below v.heap.size v w1:=btrans (bdrew (Below.refl _ _)) hb1)
     | (go_at_call 82;refine (high_b _ _ _ _ _).mono ?_;rintro e' w2 ⟨rfl,hb2⟩;have hv2:Below v.heap.size v w2:=btrans hv1 hb2)
     | (refine step_append_lies _ (by rfl) _ _ _ (by rfl) w.heap.size 108 i0 _ 2 16 Tryz.underlying127 hi0 hz0 hz1 hzz rfl (by omega) (.slice (some ⟨gp,0,none⟩) P.length cp) P.length (flp P) (by rfl) (World.ownsRow.alloc (HPF.out _ hv2) _) ⟨w2.heap.size,0,none⟩ 2 2 [.int .i64 x0,.int .i64 x1,.int .i64 x2,.int .i64 x3] (by rfl) (by rfl) (World.news_of_block (cs:=#[.int .i64 x0,.int .i64 x1,.int .i64 x2,.int .i64 x3]) (t:=108) (fr:=(0,0)) (heap_alloc_new _ _)) (by simp [Value.oneCell']) (by omega) (by unfold maxLen;omega) (by omega) (balloc (HBF.out _ hv2) _).size _ rfl ?_;intro gg cp' v3 hown1 hgrow hat hlt2))
   have hg2:PtG v3 w.heap.size gg cp' (P ++ [(x0,x1),(x2,x3)]):=ofP hown1 (by rw [List.length_append];rfl) (by rw [flp_app];rfl)
   have hG2:BxG v3 v0.heap.size g c L:=World.ownsRow.kept (World.ownsRow.alloc (HGF.out _ hv2) _) hgrow (.inr (by simp only [Value.ownBlock,ne_eq,Option.some.injEq];omega))
   have hZ2:v3.heap[w.heap.size + 1]? = some (.cells #[.int .i64 0,.int .i64 0,.int .i64 0,.int .i64 0] 31 (0,0)):=(hgrow.block _ (lt_of_heap (old_alloc (HZF.out _ hv2))) (by simp only [Value.ownBlock,ne_eq,Option.some.injEq];omega)).trans (old_alloc (HZF.out _ hv2))
   have hB2:Below w.heap.size w v3:=(balloc (HBF.out _ hv2) _).grown hgrow (balloc (HBF.out _ hv2) _).size (fun r e => by cases e;exact hgl)
   have hPl:(P ++ [(x0,x1),(x2,x3)]).length = P.length + 2:=by rw [List.length_append];rfl
   clear hown1 hgrow hat hb1 hb2 hv1 hv2 r0 r1 r2 r3
   go_wp2_with fail
   go_roundw
   case rel => exact ⟨k + 1,gg,cp',by omega,by go_num,by rw [HNX.out,hPl],by rw [HNX.out];exact hid hg2,hid hG2,hid hZ2,hid hB2⟩
   case measure => simp [intOf];omega
  ·have c1:¬ (k:Int) < (L.length:Int):=by omega
   have hall:L.take k = L:=List.take_of_length_le (by omega)
   rw [hall] at HP ⊢
   obtain ⟨hgl,hgc,cur,hgt⟩:=HP.out.typ
   have hlen:(cor L).length ≤ 2097152:=by rw [cor_len];omega
   have CA:=hid (impl_BoxAround (some ⟨gp,0,none⟩) cp (cor L) wr (by omega) hgc HP.out.pts)
   have HZ2:=HZ
   clear hgt hall
   generalize aX (cor L) = a0 at *
   generalize aY (cor L) = a1 at *
   generalize bX (cor L) = a2 at *
   generalize bY' (cor L) = a3 at *
   generalize aok (cor L) = ak at *
   generalize (cor L).length = NN at *
   go_wp2_with fail
   refine CA.out.mono ?_
   rintro e w1 ⟨rfl,hb1⟩
   have hz1:=keepheap hb1 HZ.out
   have hB1:=balloc (btrans HB.out hb1) (.cells #[.int .i64 a0,.int .i64 a1,.int .i64 a2,.int .i64 a3] 31)
   have hz2:=old_alloc (o':=(.cells #[.int .i64 a0,.int .i64 a1,.int .i64 a2,.int .i64 a3] 31)) hz1
   obtain ⟨z0,z1,z2,z3,f0,f1,f2,f3⟩:=cell4b hz2
   have hz3:=set4b hz2 (.int .i64 a0) (.int .i64 a1) (.int .i64 a2) (.int .i64 a3)
   have HB3:=hid (setL_below [.int .i64 a0,.int .i64 a1,.int .i64 a2,.int .i64 a3] w _ (w.heap.size + 1) 0 w.heap.size hB1 (by omega))
   obtain ⟨q0,q1,q2,q3,_,_,_,_⟩:=cell4b hz3
   have HQ:=hid (And.intro q0 (And.intro q1 (And.intro q2 q3)))
   clear q0 q1 q2 q3 hz3 hz2 hz1 hB1 HG HP HB HZ HZ2 CA hgl hgc
   go_wp2_with fail
   obtain ⟨q0,q1,q2,q3⟩:=HQ.out
   rw [HAR.out]
   exact bodyPost_ret (v:=.agg #[.int .i64 a0,.int .i64 a1,.int .i64 a2,.int .i64 a3]) (by simp [results,Tryz.results90,go_sem,q0,q1,q2,q3]) rfl ⟨rfl,HB3.out⟩
end Go.Proofs.YtjahlofahjgdbaaGreat
