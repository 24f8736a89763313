/- Texts of stores, joined: Jr, Ka, Jx0. -/
import Derived.Test.YtjahlofahjgdbaaGreatJ14
import Derived.Test.YtjahlofahjgdbaaGreatJ13
set_option maxRecDepth 100000
set_option maxHeartbeats 8000000
set_option linter.unusedSimpArgs false
set_option linter.unusedVariables false
namespace Go.Proofs.YtjahlofahjgdbaaGreat
open Go.RowKit Go.Shelf
theorem impl_aroundR (m:Nat) (t:KT) (ia ka:Option Addr) (ic kc:Nat) (w:World) (h:KnR m w ia ic ka kc t) (hz:t.its.length + t.kids.length ≤ 1048576):Calls Tryz.prog 90 #[kv t ia ic ka kc] w fun e w' => e = .returned (.agg #[.int .i64 (arI t).1,.int .i64 (arI t).2.1,.int .i64 (arI t).2.2.1,.int .i64 (arI t).2.2.2]) ∧ Below w.heap.size w w':=by
 obtain ⟨i0,hi0,hz0,hz1,hzz⟩:=info_parts Tryz.infoPo
 have hks:t.bxs.length ≤ 1048576:=by
  cases m with
  | zero => exact h.elim
  | succ m =>
   unfold KT.bxs KT.ibs KT.kbs
   rw [List.length_append,List.length_map,List.length_map]
   exact hz
 have CB:=hid (fun (W:World) (hb:Below w.heap.size w W) => impl_boxesR m t ia ka ic kc W (h.below hb) hz)
 obtain ⟨b0,b1,b2,b3,b4,ni,nk,hkf⟩:=kf t
 have hkv:kv t ia ic ka kc = .agg #[.int .i64 b0,.int .i64 b1,.int .i64 b2,.int .i64 b3,.bool b4,.slice ia ni ic,.slice ka nk kc]:=kv_of' hkf _ _ _ _
 rw [hkv] at CB ⊢
 have HAR:Hid (arI t = (aX (cor t.bxs),aY (cor t.bxs),bX (cor t.bxs),bY' (cor t.bxs))):=hid rfl
 generalize arI t = ar at *
 generalize t.bxs = L at *
 clear h hz hkv hkf
 have gT:=hid (old_alloc (o':=(.cells #[.int .i64 0,.int .i64 0,.int .i64 0,.int .i64 0] 31)) (new_alloc w w.heap.size (.cells #[.int .i64 b0,.int .i64 b1,.int .i64 b2,.int .i64 b3,.bool b4,.slice ia ni ic,.slice ka nk kc] 35) rfl))
 have gZ:=hid (new_alloc (w.alloc (.cells #[.int .i64 b0,.int .i64 b1,.int .i64 b2,.int .i64 b3,.bool b4,.slice ia ni ic,.slice ka nk kc] 35)) (w.heap.size + 1) (.cells #[.int .i64 0,.int .i64 0,.int .i64 0,.int .i64 0] 31) (by simp))
 have B0:=hid (balloc (balloc (Below.refl w.heap.size w) (.cells #[.int .i64 b0,.int .i64 b1,.int .i64 b2,.int .i64 b3,.bool b4,.slice ia ni ic,.slice ka nk kc] 35)) (.cells #[.int .i64 0,.int .i64 0,.int .i64 0,.int .i64 0] 31))
 have hmul:IntKind.i64.wrap (2 * (L.length:Int)) = ((2 * L.length:Nat):Int):=by rw [IntKind.wrap_i64] <;> omega
 have hmk:=make_pts (2 * L.length) (by omega)
 have hN2:2 * L.length ≤ 2097152:=by omega
 generalize hN:2 * L.length = N at *
 have HN:=hid hN
 clear hN
 go_enter Tryz.func90,Tryz.ntmps90
 go_wp2_with fail
 generalize (w.alloc (.cells #[.int .i64 b0,.int .i64 b1,.int .i64 b2,.int .i64 b3,.bool b4,.slice ia ni ic,.slice ka nk kc] 35)).alloc (.cells #[.int .i64 0,.int .i64 0,.int .i64 0,.int .i64 0] 31) = v0 at *
 refine (CB.out _ B0.out).mono ?_
 rintro e v1 ⟨g,c,rfl,hG,hb⟩
 have gZ1:=hid (keepheap hb gZ.out)
 have B1:=hid (btrans B0.out hb)
 have hs0:=B0.out.size
 have HG:=hid hG
 clear hG hb CB gZ B0 gT
 go_wp2_with fail
 have hO0:=World.ownsRow_made (base:=w.heap.size) (e:=108) (size:=2) v1 (madeCells #[.int .i64 0,.int .i64 0] (N * 2)) N B1.out.size (by unfold maxLen;omega) (size_madeCells _ _)
 have P0:PtG (v1.alloc (.cells (madeCells #[.int .i64 0,.int .i64 0] (N * 2)) 108)) w.heap.size v1.heap.size N (cor (L.take 0)):=hO0
 have G0:=HG.out.below (balloc (Below.refl v1.heap.size v1) (.cells (madeCells #[.int .i64 0,.int .i64 0] (N * 2)) 108))
 have Z0:=old_alloc (o':=.cells (madeCells #[.int .i64 0,.int .i64 0] (N * 2)) 108) gZ1.out
 have BB0:=balloc B1.out (.cells (madeCells #[.int .i64 0,.int .i64 0] (N * 2)) 108)
 generalize v1.alloc (.cells (madeCells #[.int .i64 0,.int .i64 0] (N * 2)) 108) = v2 at *
 clear hO0 hmk HG gZ1 B1
 go_loopw [4,17] (fun t4 t17 wr => ∃ k gp cp:Nat,k ≤ L.length ∧ t17 = .int .i64 k ∧ t4 = .slice (some ⟨gp,0,none⟩) (cor (L.take k)).length cp ∧ Hid (PtG wr w.heap.size gp cp (cor (L.take k))) ∧ Hid (BxG wr v0.heap.size g c L) ∧ Hid (wr.heap[w.heap.size + 1]? = some (.cells #[.int .i64 0,.int .i64 0,.int .i64 0,.int .i64 0] 31 (0,0))) ∧ Hid (Below w.heap.size w wr)) (fun _ t17 _ => L.length - (intOf t17).toNat)
 case atStart => exact ⟨0,v1.heap.size,N,Nat.zero_le _,rfl,rfl,hid P0,hid G0,hid Z0,hid BB0⟩
 case round =>
  clear P0 G0 Z0 BB0 v2
  obtain ⟨k,gp,cp,hk,rfl,rfl,HP,HG,HZ,HB⟩:=hrel
  by_cases hlt:k < L.length
  ·have c1:(k:Int) < (L.length:Int):=by omega
   obtain hcs:=HG.out.at k hlt
   have y0:=hcs 0 _ rfl
   have y1:=hcs 1 _ rfl
   have y2:=hcs 2 _ rfl
   have y3:=hcs 3 _ rfl
   have hnx:cor (L.take (k + 1)) = cor (L.take k) ++ [(L[k].1,L[k].2.1),(L[k].2.2.1,L[k].2.2.2)]:=by
    rw [List.take_add_one,List.getElem?_eq_getElem hlt,Option.toList_some,cor_next]
   have hpl:(cor (L.take k)).length ≤ 2097152:=by rw [cor_len,List.length_take];omega
   have HNX:=hid hnx
   clear hnx hcs
   generalize cor (L.take k) = P at *
   generalize hxx:L[k] = xx at *
   clear hxx
   obtain ⟨x0,x1,x2,x3⟩:=xx
   simp only [Nat.add_zero] at y0 y1 y2 y3
   have hgg:=HG.out.lt
   obtain ⟨hgl,hgc,cur,hgt⟩:=HP.out.typ
   obtain ⟨_,curb,hgb⟩:=HG.out.typ
   have hgpl:=lt_of_heap hgt
   have hne:gp ≠ g:=fun e => by rw [e,hgb] at hgt;cases hgt
   have hnz:gp ≠ w.heap.size + 1:=fun e => by rw [e,HZ.out] at hgt;cases hgt
   have hsX:=HB.out.size
   go_upto_region 6 with fail
   have r0:=(cell4b (new_alloc wr wr.heap.size (.cells #[.int .i64 x0,.int .i64 x1,.int .i64 x2,.int .i64 x3] 31) rfl)).1
   have r1:=(cell4b (new_alloc wr wr.heap.size (.cells #[.int .i64 x0,.int .i64 x1,.int .i64 x2,.int .i64 x3] 31) rfl)).2.1
   have r2:=(cell4b (new_alloc wr wr.heap.size (.cells #[.int .i64 x0,.int .i64 x1,.int .i64 x2,.int .i64 x3] 31) rfl)).2.2.1
   have r3:=(cell4b (new_alloc wr wr.heap.size (.cells #[.int .i64 x0,.int .i64 x1,.int .i64 x2,.int .i64 x3] 31) rfl)).2.2.2.1
   have hBx:=balloc (Below.refl wr.heap.size wr) (.cells #[.int .i64 x0,.int .i64 x1,.int .i64 x2,.int .i64 x3] 31)
   have HPF:Hid (∀ W,Below (wr.alloc (.cells #[.int .i64 x0,.int .i64 x1,.int .i64 x2,.int .i64 x3] 31)).heap.size (wr.alloc (.cells #[.int .i64 x0,.int .i64 x1,.int .i64 x2,.int .i64 x3] 31)) W → PtG W w.heap.size gp cp P):=hid (fun W hb => (HP.out.below hBx).below hb)
   have HGF:Hid (∀ W,Below (wr.alloc (.cells #[.int .i64 x0,.int .i64 x1,.int .i64 x2,.int .i64 x3] 31)).heap.size (wr.alloc (.cells #[.int .i64 x0,.int .i64 x1,.int .i64 x2,.int .i64 x3] 31)) W → BxG W v0.heap.size g c L):=hid (fun W hb => (HG.out.below hBx).below hb)
   have HZF:Hid (∀ W,Below (wr.alloc (.cells #[.int .i64 x0,.int .i64 x1,.int .i64 x2,.int .i64 x3] 31)).heap.size (wr.alloc (.cells #[.int .i64 x0,.int .i64 x1,.int .i64 x2,.int .i64 x3] 31)) W → W.heap[w.heap.size + 1]? = some (.cells #[.int .i64 0,.int .i64 0,.int .i64 0,.int .i64 0] 31 (0,0))):=hid (fun W hb => keepheap hb (keepheap hBx HZ.out))
   have HBF:Hid (∀ W,Below (wr.alloc (.cells #[.int .i64 x0,.int .i64 x1,.int .i64 x2,.int .i64 x3] 31)).heap.size (wr.alloc (.cells #[.int .i64 x0,.int .i64 x1,.int .i64 x2,.int .i64 x3] 31)) W → Below w.heap.size w W):=hid (fun W hb => btrans (btrans HB.out hBx) hb)
   have hsW:w.heap.size ≤ (wr.alloc (.cells #[.int .i64 x0,.int .i64 x1,.int .i64 x2,.int .i64 x3] 31)).heap.size:=Nat.le_trans hsX hBx.size
   clear HP HG HZ HB hBx
   generalize wr.alloc (.cells #[.int .i64 x0,.int .i64 x1,.int .i64 x2,.int .i64 x3] 31) = v at *
   have hvb:some wr.heap.size ≠ (Value.slice (some ⟨gp,0,none⟩) P.length cp).ownBlock:=by simp only [Value.ownBlock,ne_eq,Option.some.injEq];omega
   go_region_held3 (fun w' => w'.cell? ⟨wr.heap.size,0,none⟩ = some (.int .i64 x0) ∧ w'.cell? ⟨wr.heap.size,1,none⟩ = some (.int .i64 x1) ∧ w'.cell? ⟨wr.heap.size,2,none⟩ = some (.int .i64 x2) ∧ w'.cell? ⟨wr.heap.size,3,none⟩ = some (.int .i64 x3)) ((go_split_ands;(repeat' apply And.intro) <;> (repeat (first | with_reducible assumption | with_reducible refine keepdrew ?_ | with_reducible refine keepalloc ?_ _ | with_reducible exact keepcell hv2 (by with_reducible assumption) | with_reducible exact keepcell hv1 (by with_reducible assumption) | (refine hgrow.cell ?_ hvb)))))
    (first
     | (go_at_call 81;refine (low_b _ _ _ _ _).mono ?_;rintro e' w1 ⟨rfl,hb1⟩;have hv1:Below v.heap.size v w1:=btrans (bdrew (Below.refl _ _)) hb1)
     | (go_at_call 82;refine (high_b _ _ _ _ _).mono ?_;rintro e' w2 ⟨rfl,hb2⟩;have hv2:Below v.heap.size v w2:=btrans hv1 hb2)
     | (refine step_append_lies _ (by rfl) _ _ _ (by rfl) w.heap.size 108 i0 _ 2 16 Tryz.underlying127 hi0 hz0 hz1 hzz rfl (by omega) (.slice (some ⟨gp,0,none⟩) P.length cp) P.length (flp P) (by rfl) (World.ownsRow.alloc (HPF.out _ hv2) _) ⟨w2.heap.size,0,none⟩ 2 2 [.int .i64 x0,.int .i64 x1,.int .i64 x2,.int .i64 x3] (by rfl) (by rfl) (World.news_of_block (cs:=#[.int .i64 x0,.int .i64 x1,.int .i64 x2,.int .i64 x3]) (t:=108) (fr:=(0,0)) (heap_alloc_new _ _)) (by simp [Value.oneCell']) (by omega) (by unfold maxLen;omega) (by omega) (balloc (HBF.out _ hv2) _).size _ rfl ?_;intro gg cp' v3 hown1 hgrow hat hlt2))
   have hg2:PtG v3 w.heap.size gg cp' (P ++ [(x0,x1),(x2,x3)]):=ofP hown1 (by rw [List.length_append];rfl) (by rw [flp_app];rfl)
   have hG2:BxG v3 v0.heap.size g c L:=World.ownsRow.kept (World.ownsRow.alloc (HGF.out _ hv2) _) hgrow (.inr (by simp only [Value.ownBlock,ne_eq,Option.some.injEq];omega))
   have hZ2:v3.heap[w.heap.size + 1]? = some (.cells #[.int .i64 0,.int .i64 0,.int .i64 0,.int .i64 0] 31 (0,0)):=(hgrow.block _ (lt_of_heap (old_alloc (HZF.out _ hv2))) (by simp only [Value.ownBlock,ne_eq,Option.some.injEq];omega)).trans (old_alloc (HZF.out _ hv2))
   have hB2:Below w.heap.size w v3:=(balloc (HBF.out _ hv2) _).grown hgrow (balloc (HBF.out _ hv2) _).size (fun r e => by cases e;exact hgl)
   have hPl:(P ++ [(x0,x1),(x2,x3)]).length = P.length + 2:=by rw [List.length_append];rfl
   clear hown1 hgrow hat hb1 hb2 hv1 hv2 r0 r1 r2 r3
   go_wp2_with fail
   go_roundw
   case rel => exact ⟨k + 1,gg,cp',by omega,by go_num,by rw [HNX.out,hPl],by rw [HNX.out];exact hid hg2,hid hG2,hid hZ2,hid hB2⟩
   case measure => simp [intOf];omega
  ·have c1:¬ (k:Int) < (L.length:Int):=by omega
   have hall:L.take k = L:=List.take_of_length_le (by omega)
   rw [hall] at HP ⊢
   obtain ⟨hgl,hgc,cur,hgt⟩:=HP.out.typ
   have hlen:(cor L).length ≤ 2097152:=by rw [cor_len];omega
   have CA:=hid (impl_BoxAround (some ⟨gp,0,none⟩) cp (cor L) wr (by omega) hgc HP.out.pts)
   have HZ2:=HZ
   clear hgt hall
   generalize aX (cor L) = a0 at *
   generalize aY (cor L) = a1 at *
   generalize bX (cor L) = a2 at *
   generalize bY' (cor L) = a3 at *
   generalize aok (cor L) = ak at *
   generalize (cor L).length = NN at *
   go_wp2_with fail
   refine CA.out.mono ?_
   rintro e w1 ⟨rfl,hb1⟩
   have hz1:=keepheap hb1 HZ.out
   have hB1:=balloc (btrans HB.out hb1) (.cells #[.int .i64 a0,.int .i64 a1,.int .i64 a2,.int .i64 a3] 31)
   have hz2:=old_alloc (o':=(.cells #[.int .i64 a0,.int .i64 a1,.int .i64 a2,.int .i64 a3] 31)) hz1
   obtain ⟨z0,z1,z2,z3,f0,f1,f2,f3⟩:=cell4b hz2
   have hz3:=set4b hz2 (.int .i64 a0) (.int .i64 a1) (.int .i64 a2) (.int .i64 a3)
   have HB3:=hid (setL_below [.int .i64 a0,.int .i64 a1,.int .i64 a2,.int .i64 a3] w _ (w.heap.size + 1) 0 w.heap.size hB1 (by omega))
   obtain ⟨q0,q1,q2,q3,_,_,_,_⟩:=cell4b hz3
   have HQ:=hid (And.intro q0 (And.intro q1 (And.intro q2 q3)))
   clear q0 q1 q2 q3 hz3 hz2 hz1 hB1 HG HP HB HZ HZ2 CA hgl hgc
   go_wp2_with fail
   obtain ⟨q0,q1,q2,q3⟩:=HQ.out
   rw [HAR.out]
   exact bodyPost_ret (v:=.agg #[.int .i64 a0,.int .i64 a1,.int .i64 a2,.int .i64 a3]) (by simp [results,Tryz.results90,go_sem,q0,q1,q2,q3]) rfl ⟨rfl,HB3.out⟩
end Go.Proofs.YtjahlofahjgdbaaGreat
namespace Go.Proofs.YtjahlofahjgdbaaGreat
open Go.RowKit
def BK (w:World) (b o:Nat) (P R vs:List Value):Prop:=w.heap[b]? = some (.cells (P ++ (vs ++ R)).toArray 35 (0,0)) ∧ P.length = o
theorem BK.keep {w w':World} {b o:Nat} {P R vs:List Value} (h:BK w b o P R vs) (e:w'.heap[b]? = w.heap[b]?):BK w' b o P R vs:=⟨e.trans h.1,h.2⟩
theorem BK.lt {w:World} {b o:Nat} {P R vs:List Value} (h:BK w b o P R vs):b < w.heap.size:=lt_of_heap h.1
theorem BK.below {w w':World} {b o:Nat} {P R vs:List Value} (h:BK w b o P R vs) (H:Below w.heap.size w w'):BK w' b o P R vs:=h.keep (H.block b h.lt)
theorem BK.cell {w:World} {b o:Nat} {P R vs:List Value} (h:BK w b o P R vs) (i:Nat) {v:Value} (e:vs[i]? = some v):w.cell? ⟨b,o + i,none⟩ = some v ∧ w.frozen? ⟨b,o + i,none⟩ = false:=by
 have hi:=(List.getElem?_eq_some_iff.1 e).1
 have e2:(P ++ (vs ++ R))[o + i]? = some v:=by
  rw [List.getElem?_append_right (by have:=h.2;omega),h.2,Nat.add_sub_cancel_left,List.getElem?_append_left hi]
  exact e
 constructor
 ·simp [World.cell?,h.1,e2]
 ·simp [World.frozen?,h.1]
theorem BK.set {w:World} {b o:Nat} {P R vs:List Value} (h:BK w b o P R vs) (i:Nat) (hi:i < vs.length) (u:Value):BK (w.setCell ⟨b,o + i,none⟩ u) b o P R (vs.set i u):=by
 refine ⟨?_,h.2⟩
 have h1:=set_at (k:=o + i) (u:=u) h.1
 rw [h1]
 rw [List.setIfInBounds_toArray,List.set_append_right _ _ (by have:=h.2;omega),h.2,Nat.add_sub_cancel_left,List.set_append_left _ _ hi]
theorem BK.k7 {w:World} {b o:Nat} {P R:List Value} {v0 v1 v2 v3 v4 v5 v6:Value} (h:BK w b o P R [v0,v1,v2,v3,v4,v5,v6]):w.cell? ⟨b,o,none⟩ = some v0 ∧ w.cell? ⟨b,o + 1,none⟩ = some v1 ∧ w.cell? ⟨b,o + 2,none⟩ = some v2 ∧ w.cell? ⟨b,o + 3,none⟩ = some v3 ∧ w.cell? ⟨b,o + 4,none⟩ = some v4 ∧ w.cell? ⟨b,o + 5,none⟩ = some v5 ∧ w.cell? ⟨b,o + 6,none⟩ = some v6 ∧ w.frozen? ⟨b,o,none⟩ = false ∧ w.frozen? ⟨b,o + 1,none⟩ = false ∧ w.frozen? ⟨b,o + 2,none⟩ = false ∧ w.frozen? ⟨b,o + 3,none⟩ = false ∧ w.frozen? ⟨b,o + 4,none⟩ = false ∧ w.frozen? ⟨b,o + 5,none⟩ = false ∧ w.frozen? ⟨b,o + 6,none⟩ = false:=
 ⟨(h.cell 0 rfl).1,(h.cell 1 rfl).1,(h.cell 2 rfl).1,(h.cell 3 rfl).1,(h.cell 4 rfl).1,(h.cell 5 rfl).1,(h.cell 6 rfl).1,(h.cell 0 rfl).2,(h.cell 1 rfl).2,(h.cell 2 rfl).2,(h.cell 3 rfl).2,(h.cell 4 rfl).2,(h.cell 5 rfl).2,(h.cell 6 rfl).2⟩
theorem BK.set4 {w:World} {b o:Nat} {P R:List Value} {v0 v1 v2 v3 v4 v5 v6:Value} (h:BK w b o P R [v0,v1,v2,v3,v4,v5,v6]) (a c d e:Value):BK ((((w.setCell ⟨b,o,none⟩ a).setCell ⟨b,o + 1,none⟩ c).setCell ⟨b,o + 2,none⟩ d).setCell ⟨b,o + 3,none⟩ e) b o P R [a,c,d,e,v4,v5,v6]:=
 (((h.set 0 (by simp) a).set 1 (by simp) c).set 2 (by simp) d).set 3 (by simp) e
theorem BK.set5 {w:World} {b o:Nat} {P R:List Value} {v0 v1 v2 v3 v4 v5 v6:Value} (h:BK w b o P R [v0,v1,v2,v3,v4,v5,v6]) (a:Value):BK (w.setCell ⟨b,o + 5,none⟩ a) b o P R [v0,v1,v2,v3,v4,a,v6]:=h.set 5 (by simp) a
theorem BK.set6 {w:World} {b o:Nat} {P R:List Value} {v0 v1 v2 v3 v4 v5 v6:Value} (h:BK w b o P R [v0,v1,v2,v3,v4,v5,v6]) (a:Value):BK (w.setCell ⟨b,o + 6,none⟩ a) b o P R [v0,v1,v2,v3,v4,v5,a]:=h.set 6 (by simp) a
theorem fr_step {S0 S1:List Nat} {w v v':World} (h:Fr S0 w v) (h1:Fr S1 v v') (hS:∀ k ∈ S1,k ∈ S0 ∨ w.heap.size ≤ k):Fr S0 w v':=h.trans h1 hS
theorem fr_set {S0:List Nat} {w v:World} {b k:Nat} {u:Value} (h:Fr S0 w v) (hb:b ∈ S0 ∨ w.heap.size ≤ b):Fr S0 w (v.setCell ⟨b,k,none⟩ u):=h.trans (Fr.set (S:=[b]) ⟨b,k,none⟩ u (by simp)) (fun j hj => by rw [List.mem_singleton] at hj;subst hj;exact hb)
def SpA (w:World) (lo n b o:Nat) (P R:List Value) (S:List Nat) (t1 t2:KT) (e:Ending) (w':World):Prop:=∃ (h1:Hd) (S1:List Nat) (h2:Hd) (S2:List Nat),e = .returned (kvh t2 h2) ∧ BK w' b o P R (ckh t1 h1) ∧ KO lo n w' h1 S1 t1 ∧ KO lo n w' h2 S2 t2 ∧ (∀ x ∈ S1,x ∉ S2) ∧ (∀ x ∈ S1,x ∈ S ∨ w.heap.size ≤ x) ∧ (∀ x ∈ S2,x ∈ S ∨ w.heap.size ≤ x) ∧ Fr (b :: S) w w'
theorem arI_leaf {b:Bx} {lf:Bool} {l:List It} (h:l.all (fun x => bkb x.2) = true):arI (.mk b lf l []) = jns (l.map (·.2)):=by
 have h2:(l.map (·.2)).all bkb = true:=by rw [List.all_map];exact h
 rw [← around_jns h2]
 have e:(KT.mk b lf l []).bxs = l.map (·.2):=List.append_nil _
 unfold arI
 rw [e]
theorem arI_kids {b:Bx} {lf:Bool} {ks:List KT} (h:ks.all (fun k => bkb k.box) = true):arI (.mk b lf [] ks) = jns (ks.map KT.box):=by
 have h2:(ks.map KT.box).all bkb = true:=by rw [List.all_map];exact h
 rw [← around_jns h2]
 rfl
theorem set4k {w:World} {B:Nat} {o0 o1 o2 o3 o4 o5 o6:Value} {t:TypeId} (gz:w.heap[B]? = some (.cells #[o0,o1,o2,o3,o4,o5,o6] t (0,0))) (a b c d:Value):((((w.setCell ⟨B,0,none⟩ a).setCell ⟨B,1,none⟩ b).setCell ⟨B,2,none⟩ c).setCell ⟨B,3,none⟩ d).heap[B]? = some (.cells #[a,b,c,d,o4,o5,o6] t (0,0)):=by
 have e1:=set_at (k:=3) (u:=d) (set_at (k:=2) (u:=c) (set_at (k:=1) (u:=b) (set_at (k:=0) (u:=a) gz)))
 simpa using e1
theorem KO_blk {lo n:Nat} {w:World} {ps:List KP} (h:KOs lo n w ps):∀ x ∈ ps.flatMap (·.2.2),x < w.heap.size:=fun x hx => by
 obtain ⟨p,hp,hx⟩:=List.mem_flatMap.1 hx
 exact ((h.2 p hp).lt x hx).2
theorem anyL_1w {P:Program} {md:Region.Mode} {ops:Array Oper} {Q:Exit → Act → World → Prop} {L:List Nat} {S:World → Prop} {i:Nat} {o:Oper} {fuel:Nat} {listed:Array Bool} {a:Act} {w:World} (ho:ops[i]? = some o) (hr:Region.ready md ops listed = [i]) (hw:Region.wanted o (yielded ops a.tmps) = true)
  (h:o.wp P a w (Next1 P md ops Q L S fuel listed i) Q):anyL P md ops Q L S (fuel + 1) listed a w:=by
 refine ⟨fun h0 => (by rw [hr] at h0;cases h0),fun j hj => ?_⟩
 rw [hr] at hj
 have e:j = i:=by simpa using hj
 subst e
 unfold wpOp
 rw [ho]
 simp only []
 rw [if_pos hw]
 exact .inl h
end Go.Proofs.YtjahlofahjgdbaaGreat
