/- Texts of stores, joined: Fd, Fe. -/
import Derived.Test.YtjahlofahjgdbaaGreatJ4
set_option maxRecDepth 100000
set_option maxHeartbeats 8000000
set_option linter.unusedSimpArgs false
set_option linter.unusedVariables false
namespace Go.Proofs.YtjahlofahjgdbaaGreat
open Go.RowKit
theorem cell_blk {w w':World} {b o:Nat} (h:w'.heap[b]? = w.heap[b]?):w'.cell? ⟨b,o,none⟩ = w.cell? ⟨b,o,none⟩:=by simp only [World.cell?,h]
theorem frozen_blk {w w':World} {b o:Nat} (h:w'.heap[b]? = w.heap[b]?):w'.frozen? ⟨b,o,none⟩ = w.frozen? ⟨b,o,none⟩:=by simp only [World.frozen?,h]
theorem Cs.keep {w w':World} {b o:Nat} {vs:List Value} (h:Cs w b o vs) (e:w'.heap[b]? = w.heap[b]?):Cs w' b o vs:=fun i v q => (cell_blk e).trans (h i v q)
theorem there_keep {w w':World} {b n:Nat} (h:w.there b 0 n) (e:w'.heap[b]? = w.heap[b]?):w'.there b 0 n:=fun j hj => by
 obtain ⟨h1,h2⟩:=h j hj
 exact ⟨by rw [cell_blk e];exact h1,by rw [frozen_blk e];exact h2⟩
theorem ItO.keep {w w':World} {b:Nat} {l:List It} (h:ItO w b l) (hs:w.heap.size ≤ w'.heap.size) (e:w'.heap[b]? = w.heap[b]?):ItO w' b l:=
 ⟨Nat.lt_of_lt_of_le h.1 hs,fun j hj => (h.2.1 j hj).keep e,there_keep h.2.2 e⟩
theorem Kn.keep {lo:Nat}:∀ {n:Nat} {w w':World} {ia ka:Option Addr} {t:KT},Kn lo n w ia ka t → w.heap.size ≤ w'.heap.size → (∀ b,lo ≤ b → b < w.heap.size → w'.heap[b]? = w.heap[b]?) → Kn lo n w' ia ka t
 | 0,_,_,_,_,_,h,_,_ => h.elim
 | n + 1,w,w',ia,ka,t,h,hs,hk => by
  obtain ⟨bi,bk,h1,h2,h3,h4,h5,h6,h7,h8⟩:=h
  refine ⟨bi,bk,h1,h2,h3,h4,h5.keep hs (hk bi h3 h5.1),Nat.lt_of_lt_of_le h6 hs,there_keep h7 (hk bk h4 h6),fun j hj => ?_⟩
  obtain ⟨ia',ka',k1,k2⟩:=h8 j hj
  exact ⟨ia',ka',k1.keep (hk bk h4 h6),Kn.keep k2 hs hk⟩
theorem heap_set (w:World) (q k b:Nat) (u:Value) (h:q ≠ b):(w.setCell ⟨q,k,none⟩ u).heap[b]? = w.heap[b]?:=Below.heap_setCell _ _ _ b (fun e => h e.symm)
theorem setL_blk:∀ (vs:List Value) (w:World) (q o b:Nat),q ≠ b → (setL w q o vs).heap[b]? = w.heap[b]?
 | [],w,q,o,b,_ => rfl
 | v :: r,w,q,o,b,h => by
  unfold setL
  rw [setL_blk r _ q (o + 1) b h,heap_set w q o b v h]
theorem cell7k {w:World} {p:Nat} {a b c d e f g:Value} {t:TypeId} (h:w.heap[p]? = some (.cells #[a,b,c,d,e,f,g] t (0,0))):w.cell? ⟨p,0,none⟩ = some a ∧ w.cell? ⟨p,1,none⟩ = some b ∧ w.cell? ⟨p,2,none⟩ = some c ∧ w.cell? ⟨p,3,none⟩ = some d ∧ w.cell? ⟨p,4,none⟩ = some e ∧ w.cell? ⟨p,5,none⟩ = some f ∧ w.cell? ⟨p,6,none⟩ = some g ∧ w.frozen? ⟨p,0,none⟩ = false ∧ w.frozen? ⟨p,1,none⟩ = false ∧ w.frozen? ⟨p,2,none⟩ = false ∧ w.frozen? ⟨p,3,none⟩ = false ∧ w.frozen? ⟨p,4,none⟩ = false ∧ w.frozen? ⟨p,5,none⟩ = false ∧ w.frozen? ⟨p,6,none⟩ = false:=by
 refine ⟨?_,?_,?_,?_,?_,?_,?_,?_,?_,?_,?_,?_,?_,?_⟩ <;> simp [World.cell?,World.frozen?,h]
def KdO (lo n:Nat) (w:World) (b:Nat) (l:List KT):Prop:=∀ j (h:j < l.length),∃ ia' ka',Cs w b (j * 7) (ck l[j] ia' l[j].its.length ka' l[j].kids.length) ∧ Kn lo n w ia' ka' l[j]
theorem to_knots (n:Nat) (IH:∀ (t:KT) (ia:Option Addr) (ic:Nat) (ka:Option Addr) (kc:Nat) (w:World),KnL n w ia ic ka kc t → ksz n t ≤ 1048576 → Calls Tryz.prog 9 #[kv t ia ic ka kc] w fun e w' => ∃ ia' ka',e = .returned (kvo t ia' ka') ∧ Kn w.heap.size n w' ia' ka' t ∧ Below w.heap.size w w')
  (a:Option Addr) (cap:Nat) (l:List KT) (w:World) (hc:l.length ≤ cap) (hm:l.length ≤ 1048576) (hz:∀ t ∈ l,ksz n t ≤ 1048576)
  (h:l = [] ∨ ∃ b off,a = some ⟨b,off,none⟩ ∧ b < w.heap.size ∧ ∀ j (h:j < l.length),∃ ia' ic' ka' kc',Cs w b (off + j * 7) (ck l[j] ia' ic' ka' kc') ∧ KnL n w ia' ic' ka' kc' l[j]) :
  Calls Tryz.prog 44 #[.slice a l.length cap] w fun e w' => ∃ b,e = .returned (.slice (some ⟨b,0,none⟩) l.length l.length) ∧ w.heap.size ≤ b ∧ b < w'.heap.size ∧ w'.there b 0 (l.length * 7) ∧ KdO w.heap.size n w' b l ∧ Below w.heap.size w w':=by
 have hmk:=make_knots l.length (by omega)
 have hIH:=hid IH
 have hh:=hid h
 clear IH h
 go_enter Tryz.func44,Tryz.ntmps44
 go_wp2_with fail
 go_loopw [4] (fun ti wr => ∃ k:Nat,ti = .int .i64 k ∧ k ≤ l.length ∧ Below w.heap.size w wr ∧ w.heap.size < wr.heap.size ∧ (∀ j (h:j < l.length),j < k → ∃ ia' ka',Cs wr w.heap.size (j * 7) (ck l[j] ia' l[j].its.length ka' l[j].kids.length) ∧ Kn (w.heap.size + 1) n wr ia' ka' l[j]) ∧ wr.there w.heap.size 0 (l.length * 7)) (fun ti _ => l.length - (intOf ti).toNat)
 case atStart => exact ⟨0,rfl,Nat.zero_le _,(Below.refl _ _).alloc (Nat.le_refl _) _,by simp,fun j _ hj => by omega,made_ownG w _ _ _ (by simp)⟩
 case round =>
  clear hmk
  obtain ⟨k,rfl,hk,hb,hB,hp,ht⟩:=hrel
  by_cases hlt:k < l.length
  ·obtain ⟨b,off,rfl,hbs,hq⟩:∃ b off,a = some ⟨b,off,none⟩ ∧ b < w.heap.size ∧ ∀ j (h:j < l.length),∃ ia' ic' ka' kc',Cs w b (off + j * 7) (ck l[j] ia' ic' ka' kc') ∧ KnL n w ia' ic' ka' kc' l[j]:=by
    rcases hh.out with h | h
    ·rw [h] at hlt;simp at hlt
    ·exact h
   obtain ⟨ia',ic',ka',kc',q1,q2⟩:=hq k hlt
   obtain ⟨c0,c1,c2,c3,c4,c5,c6⟩:=(q1.below hbs hb).knot
   have C:=hid (hIH.out l[k] ia' ic' ka' kc' wr (q2.below hb) (hz _ (List.getElem_mem hlt)))
   unfold kvo kv at C
   have hck:∀ ia ka,ck l[k] ia l[k].its.length ka l[k].kids.length = [.int .i64 l[k].box.1,.int .i64 l[k].box.2.1,.int .i64 l[k].box.2.2.1,.int .i64 l[k].box.2.2.2,.bool l[k].lf,.slice ia l[k].its.length l[k].its.length,.slice ka l[k].kids.length l[k].kids.length]:=fun _ _ => rfl
   have Hp:=hid hp
   have Ht:=hid ht
   have Hck:=hid hck
   clear q1 q2 hq hp ht hck
   generalize l[k].box.1 = b0 at *
   generalize l[k].box.2.1 = b1 at *
   generalize l[k].box.2.2.1 = b2 at *
   generalize l[k].box.2.2.2 = b3 at *
   generalize l[k].lf = b4 at *
   generalize hb5:l[k].its.length = b5 at *
   generalize hb6:l[k].kids.length = b6 at *
   go_wp2_with fail
   refine C.out.mono ?_
   rintro e w1 ⟨ja,jk,rfl,hkn,hb1⟩
   have Ht1:=hid (there_below Ht.out hB hb1)
   have HK1:=hid hkn
   have hB1:=Nat.lt_of_lt_of_le hB hb1.size
   obtain ⟨g0,g0'⟩:=Ht1.out (k * 7) (by omega)
   obtain ⟨g1,g1'⟩:=Ht1.out (k * 7 + 1) (by omega)
   obtain ⟨g2,g2'⟩:=Ht1.out (k * 7 + 2) (by omega)
   obtain ⟨g3,g3'⟩:=Ht1.out (k * 7 + 3) (by omega)
   obtain ⟨g4,g4'⟩:=Ht1.out (k * 7 + 4) (by omega)
   obtain ⟨g5,g5'⟩:=Ht1.out (k * 7 + 5) (by omega)
   obtain ⟨g6,g6'⟩:=Ht1.out (k * 7 + 6) (by omega)
   obtain ⟨u0,hu0⟩:=Option.isSome_iff_exists.1 g0
   obtain ⟨u1,hu1⟩:=Option.isSome_iff_exists.1 g1
   obtain ⟨u2,hu2⟩:=Option.isSome_iff_exists.1 g2
   obtain ⟨u3,hu3⟩:=Option.isSome_iff_exists.1 g3
   obtain ⟨u4,hu4⟩:=Option.isSome_iff_exists.1 g4
   obtain ⟨u5,hu5⟩:=Option.isSome_iff_exists.1 g5
   obtain ⟨u6,hu6⟩:=Option.isSome_iff_exists.1 g6
   simp only [Nat.zero_add,← Nat.add_assoc] at hu0 hu1 hu2 hu3 hu4 hu5 hu6 g0' g1' g2' g3' g4' g5' g6'
   clear g0 g1 g2 g3 g4 g5 g6 hkn
   go_wp2_with fail
   go_roundw
   case rel =>
    obtain ⟨r1,r2,r3⟩:=put_el (k:=k) (m:=7) (vs:=[.int .i64 b0,.int .i64 b1,.int .i64 b2,.int .i64 b3,.bool b4,.slice ja b5 b5,.slice jk b6 b6]) rfl Ht1.out (by omega)
    have hsz:=setL_size [.int .i64 b0,.int .i64 b1,.int .i64 b2,.int .i64 b3,.bool b4,.slice ja b5 b5,.slice jk b6 b6] w1 w.heap.size (k * 7)
    have hfar:∀ c,w.heap.size + 1 ≤ c → c < w1.heap.size → (setL w1 w.heap.size (k * 7) [.int .i64 b0,.int .i64 b1,.int .i64 b2,.int .i64 b3,.bool b4,.slice ja b5 b5,.slice jk b6 b6]).heap[c]? = w1.heap[c]?:=fun c hc _ => setL_blk _ w1 _ _ c (by omega)
    refine ⟨k + 1,by go_num,by omega,setL_below [.int .i64 b0,.int .i64 b1,.int .i64 b2,.int .i64 b3,.bool b4,.slice ja b5 b5,.slice jk b6 b6] w w1 w.heap.size (k * 7) _ (btrans hb hb1) (Nat.le_refl _),?_,?_,r2⟩
    ·show w.heap.size < (setL w1 w.heap.size (k * 7) [.int .i64 b0,.int .i64 b1,.int .i64 b2,.int .i64 b3,.bool b4,.slice ja b5 b5,.slice jk b6 b6]).heap.size
     rw [hsz];exact hB1
    ·intro j hj hjk
     by_cases e:j = k
     ·subst e
      refine ⟨ja,jk,?_,(HK1.out.lo (by omega)).keep (Nat.le_of_eq hsz.symm) hfar⟩
      rw [hb5,hb6,Hck.out]
      exact r1
     ·obtain ⟨ia2,ka2,s1,s2⟩:=Hp.out j hj (by omega)
      exact ⟨ia2,ka2,r3 (j * 7) _ (by simp [ck];omega) (s1.below hB hb1),(s2.below hb1).keep (Nat.le_of_eq hsz.symm) hfar⟩
   case measure => simp [intOf];omega
  ·have hk':k = l.length:=by omega
   subst hk'
   have Hp:=hid hp
   have Ht:=hid ht
   clear hp ht
   go_wp2_with fail
   go_ret
   refine ⟨w.heap.size,rfl,Nat.le_refl _,hB,Ht.out,fun j hj => ?_,hb⟩
   obtain ⟨ia2,ka2,s1,s2⟩:=Hp.out j hj hj
   exact ⟨ia2,ka2,s1,s2.lo (by omega)⟩
theorem ksz_kid {n:Nat} {t k:KT} (h:k ∈ t.kids):ksz n k ≤ ksz (n + 1) t:=by
 have:ksz n k ≤ (t.kids.map (ksz n)).sum:=by
  have hm:ksz n k ∈ t.kids.map (ksz n):=List.mem_map.2 ⟨k,h,rfl⟩
  generalize t.kids.map (ksz n) = l at *
  generalize ksz n k = x at *
  clear h
  induction l with
  | nil => cases hm
  | cons y r ih =>
   rw [List.sum_cons]
   rcases List.mem_cons.1 hm with rfl | hm
   ·omega
   ·have:=ih hm;omega
 show _ ≤ t.its.length + t.kids.length + (t.kids.map (ksz n)).sum
 omega
theorem to_knot (n:Nat):∀ (t:KT) (ia:Option Addr) (ic:Nat) (ka:Option Addr) (kc:Nat) (w:World),KnL n w ia ic ka kc t → ksz n t ≤ 1048576 → Calls Tryz.prog 9 #[kv t ia ic ka kc] w fun e w' => ∃ ia' ka',e = .returned (kvo t ia' ka') ∧ Kn w.heap.size n w' ia' ka' t ∧ Below w.heap.size w w':=by
 induction n with
 | zero => intro t ia ic ka kc w h;exact h.elim
 | succ n ih =>
  intro t ia ic ka kc w h hz
  have hz2:t.its.length ≤ 1048576 ∧ t.kids.length ≤ 1048576:=by unfold ksz at hz;omega
  obtain ⟨p1,p2,p3,p4,p5,p6⟩:=h
  have CK:=hid (fun (W:World) (hb:Below w.heap.size w W) => to_knots n ih ka kc t.kids W p4 (by omega) (fun k hk => Nat.le_trans (ksz_kid hk) hz) (by
   rcases p6 with p6 | ⟨b,off,e,hbs,hq⟩
   ·exact .inl p6
   ·refine .inr ⟨b,off,e,Nat.lt_of_lt_of_le hbs hb.size,fun j hj => ?_⟩
    obtain ⟨ia',ic',ka',kc',q1,q2⟩:=hq j hj
    exact ⟨ia',ic',ka',kc',q1.below hbs hb,q2.below hb⟩))
  have CI:=hid (fun (W:World) (hb:Below w.heap.size w W) => to_items ia ic t.its W (by omega) p2 (p1.below hb))
  clear p1 p6 ih hz
  have HF:Hid (∀ (W:World) (bi bk:Nat),w.heap.size ≤ bi → w.heap.size ≤ bk → ItO W bi t.its → bk < W.heap.size → W.there bk 0 (t.kids.length * 7) → KdO w.heap.size n W bk t.kids → Kn w.heap.size (n + 1) W (some ⟨bi,0,none⟩) (some ⟨bk,0,none⟩) t):=hid (fun W bi bk h1 h2 h3 h4 h5 h6 => ⟨bi,bk,rfl,rfl,h1,h2,h3,h4,h5,h6⟩)
  unfold kvo kv
  generalize t.box.1 = b0 at *
  generalize t.box.2.1 = b1 at *
  generalize t.box.2.2.1 = b2 at *
  generalize t.box.2.2.2 = b3 at *
  generalize t.lf = b4 at *
  generalize hni:t.its.length = ni at *
  generalize hnk:t.kids.length = nk at *
  go_enter Tryz.func9,Tryz.ntmps9
  go_wp2_with fail
  have gA:=hid (old_alloc (o':=.cells #[.int .i64 0,.int .i64 0,.int .i64 0,.int .i64 0,.bool false,.slice none 0 0,.slice none 0 0] 35) (old_alloc (o':=.cells #[.int .i64 0,.int .i64 0,.int .i64 0,.int .i64 0,.bool false,.slice none 0 0,.slice none 0 0] 35) (new_alloc w w.heap.size (.cells #[.int .i64 b0,.int .i64 b1,.int .i64 b2,.int .i64 b3,.bool b4,.slice ia ni ic,.slice ka nk kc] 27) rfl)))
  have gR:=hid (old_alloc (o':=.cells #[.int .i64 0,.int .i64 0,.int .i64 0,.int .i64 0,.bool false,.slice none 0 0,.slice none 0 0] 35) (new_alloc (w.alloc (.cells #[.int .i64 b0,.int .i64 b1,.int .i64 b2,.int .i64 b3,.bool b4,.slice ia ni ic,.slice ka nk kc] 27)) (w.heap.size + 1) (.cells #[.int .i64 0,.int .i64 0,.int .i64 0,.int .i64 0,.bool false,.slice none 0 0,.slice none 0 0] 35) (by simp)))
  have gO:=hid (new_alloc ((w.alloc (.cells #[.int .i64 b0,.int .i64 b1,.int .i64 b2,.int .i64 b3,.bool b4,.slice ia ni ic,.slice ka nk kc] 27)).alloc (.cells #[.int .i64 0,.int .i64 0,.int .i64 0,.int .i64 0,.bool false,.slice none 0 0,.slice none 0 0] 35)) (w.heap.size + 2) (.cells #[.int .i64 0,.int .i64 0,.int .i64 0,.int .i64 0,.bool false,.slice none 0 0,.slice none 0 0] 35) (by simp))
  have B0:=hid (balloc (balloc (balloc (Below.refl w.heap.size w) (.cells #[.int .i64 b0,.int .i64 b1,.int .i64 b2,.int .i64 b3,.bool b4,.slice ia ni ic,.slice ka nk kc] 27)) (.cells #[.int .i64 0,.int .i64 0,.int .i64 0,.int .i64 0,.bool false,.slice none 0 0,.slice none 0 0] 35)) (.cells #[.int .i64 0,.int .i64 0,.int .i64 0,.int .i64 0,.bool false,.slice none 0 0,.slice none 0 0] 35))
  generalize ((w.alloc (.cells #[.int .i64 b0,.int .i64 b1,.int .i64 b2,.int .i64 b3,.bool b4,.slice ia ni ic,.slice ka nk kc] 27)).alloc (.cells #[.int .i64 0,.int .i64 0,.int .i64 0,.int .i64 0,.bool false,.slice none 0 0,.slice none 0 0] 35)).alloc (.cells #[.int .i64 0,.int .i64 0,.int .i64 0,.int .i64 0,.bool false,.slice none 0 0,.slice none 0 0] 35) = v0 at *
  refine (to_boxb _ _ _ _ _).mono ?_
  rintro e v1 ⟨rfl,hb⟩
  replace gA:=hid (keepheap hb gA.out)
  replace gR:=hid (keepheap hb gR.out)
  replace gO:=hid (keepheap hb gO.out)
  replace B0:=hid (btrans B0.out hb)
  clear hb
  obtain ⟨a0,a1,a2,a3,a4,a5,a6,_,_,_,_,_,_,_⟩:=cell7k gA.out
  obtain ⟨o0,o1,o2,o3,o4,o5,o6,f0,f1,f2,f3,f4,f5,f6⟩:=cell7k gO.out
  have n0:w.heap.size + 2 ≠ w.heap.size:=by omega
  have n1:w.heap.size + 2 ≠ w.heap.size + 1:=by omega
  go_upto_region 4 with fail
  have gO2:(((((v1.setCell ⟨w.heap.size + 2,0,none⟩ (.int .i64 b0)).setCell ⟨w.heap.size + 2,1,none⟩ (.int .i64 b1)).setCell ⟨w.heap.size + 2,2,none⟩ (.int .i64 b2)).setCell ⟨w.heap.size + 2,3,none⟩ (.int .i64 b3)).setCell ⟨w.heap.size + 2,4,none⟩ (.bool b4)).heap[w.heap.size + 2]? = some (.cells #[.int .i64 b0,.int .i64 b1,.int .i64 b2,.int .i64 b3,.bool b4,.slice none 0 0,.slice none 0 0] 35 (0,0)):=set_at (set_at (set_at (set_at (set_at gO.out))))
  have gA2:(((((v1.setCell ⟨w.heap.size + 2,0,none⟩ (.int .i64 b0)).setCell ⟨w.heap.size + 2,1,none⟩ (.int .i64 b1)).setCell ⟨w.heap.size + 2,2,none⟩ (.int .i64 b2)).setCell ⟨w.heap.size + 2,3,none⟩ (.int .i64 b3)).setCell ⟨w.heap.size + 2,4,none⟩ (.bool b4)).heap[w.heap.size]? = some (.cells #[.int .i64 b0,.int .i64 b1,.int .i64 b2,.int .i64 b3,.bool b4,.slice ia ni ic,.slice ka nk kc] 27 (0,0)):=(setL_blk [.int .i64 b0,.int .i64 b1,.int .i64 b2,.int .i64 b3,.bool b4] v1 (w.heap.size + 2) 0 _ n0).trans gA.out
  have gR2:(((((v1.setCell ⟨w.heap.size + 2,0,none⟩ (.int .i64 b0)).setCell ⟨w.heap.size + 2,1,none⟩ (.int .i64 b1)).setCell ⟨w.heap.size + 2,2,none⟩ (.int .i64 b2)).setCell ⟨w.heap.size + 2,3,none⟩ (.int .i64 b3)).setCell ⟨w.heap.size + 2,4,none⟩ (.bool b4)).heap[w.heap.size + 1]? = some (.cells #[.int .i64 0,.int .i64 0,.int .i64 0,.int .i64 0,.bool false,.slice none 0 0,.slice none 0 0] 35 (0,0)):=(setL_blk [.int .i64 b0,.int .i64 b1,.int .i64 b2,.int .i64 b3,.bool b4] v1 (w.heap.size + 2) 0 _ n1).trans gR.out
  have B2:Below w.heap.size w (((((v1.setCell ⟨w.heap.size + 2,0,none⟩ (.int .i64 b0)).setCell ⟨w.heap.size + 2,1,none⟩ (.int .i64 b1)).setCell ⟨w.heap.size + 2,2,none⟩ (.int .i64 b2)).setCell ⟨w.heap.size + 2,3,none⟩ (.int .i64 b3)).setCell ⟨w.heap.size + 2,4,none⟩ (.bool b4)):=setL_below [.int .i64 b0,.int .i64 b1,.int .i64 b2,.int .i64 b3,.bool b4] w v1 (w.heap.size + 2) 0 _ B0.out (by omega)
  have hs2:(((((v1.setCell ⟨w.heap.size + 2,0,none⟩ (.int .i64 b0)).setCell ⟨w.heap.size + 2,1,none⟩ (.int .i64 b1)).setCell ⟨w.heap.size + 2,2,none⟩ (.int .i64 b2)).setCell ⟨w.heap.size + 2,3,none⟩ (.int .i64 b3)).setCell ⟨w.heap.size + 2,4,none⟩ (.bool b4)).heap.size = v1.heap.size:=setL_size [.int .i64 b0,.int .i64 b1,.int .i64 b2,.int .i64 b3,.bool b4] v1 (w.heap.size + 2) 0
  replace gO:=hid gO2
  replace gA:=hid gA2
  replace gR:=hid gR2
  replace B0:=hid B2
  clear gO2 gA2 gR2 B2 a0 a1 a2 a3 a4 a5 a6 o0 o1 o2 o3 o4 o5 o6 f0 f1 f2 f3 f4 f5 f6
  generalize (((((v1.setCell ⟨w.heap.size + 2,0,none⟩ (.int .i64 b0)).setCell ⟨w.heap.size + 2,1,none⟩ (.int .i64 b1)).setCell ⟨w.heap.size + 2,2,none⟩ (.int .i64 b2)).setCell ⟨w.heap.size + 2,3,none⟩ (.int .i64 b3)).setCell ⟨w.heap.size + 2,4,none⟩ (.bool b4)) = v2 at *
  have hlo:=lt_of_block gO.out
  obtain ⟨a0,a1,a2,a3,a4,a5,a6,_,_,_,_,_,_,_⟩:=cell7k gA.out
  go_wp2_with fail
  refine (CI.out _ B0.out).mono ?_
  rintro e v3 ⟨bi,rfl,hbi,hio,hb⟩
  replace gA:=hid (keepheap hb gA.out)
  replace gR:=hid (keepheap hb gR.out)
  replace gO:=hid (keepheap hb gO.out)
  replace B0:=hid (btrans B0.out hb)
  clear hb a0 a1 a2 a3 a4 a5 a6
  obtain ⟨o0,o1,o2,o3,o4,o5,o6,f0,f1,f2,f3,f4,f5,f6⟩:=cell7k gO.out
  have HIO:=hid hio
  have hbl:=hio.1
  clear hio
  go_upto_region 5 with fail
  have gO2:(v3.setCell ⟨w.heap.size + 2,5,none⟩ (.slice (some ⟨bi,0,none⟩) ni ni)).heap[w.heap.size + 2]? = some (.cells #[.int .i64 b0,.int .i64 b1,.int .i64 b2,.int .i64 b3,.bool b4,.slice (some ⟨bi,0,none⟩) ni ni,.slice none 0 0] 35 (0,0)):=set_at gO.out
  have gA2:(v3.setCell ⟨w.heap.size + 2,5,none⟩ (.slice (some ⟨bi,0,none⟩) ni ni)).heap[w.heap.size]? = some (.cells #[.int .i64 b0,.int .i64 b1,.int .i64 b2,.int .i64 b3,.bool b4,.slice ia ni ic,.slice ka nk kc] 27 (0,0)):=(heap_set v3 (w.heap.size + 2) 5 _ _ n0).trans gA.out
  have gR2:(v3.setCell ⟨w.heap.size + 2,5,none⟩ (.slice (some ⟨bi,0,none⟩) ni ni)).heap[w.heap.size + 1]? = some (.cells #[.int .i64 0,.int .i64 0,.int .i64 0,.int .i64 0,.bool false,.slice none 0 0,.slice none 0 0] 35 (0,0)):=(heap_set v3 (w.heap.size + 2) 5 _ _ n1).trans gR.out
  have B2:Below w.heap.size w (v3.setCell ⟨w.heap.size + 2,5,none⟩ (.slice (some ⟨bi,0,none⟩) ni ni)):=bset B0.out (by omega) _
  have HI2:ItO (v3.setCell ⟨w.heap.size + 2,5,none⟩ (.slice (some ⟨bi,0,none⟩) ni ni)) bi t.its:=HIO.out.keep (by simp) (heap_set v3 (w.heap.size + 2) 5 bi _ (by omega))
  replace HIO:=hid HI2
  replace gO:=hid gO2
  replace gA:=hid gA2
  replace gR:=hid gR2
  replace B0:=hid B2
  clear gO2 gA2 gR2 B2 HI2 o0 o1 o2 o3 o4 o5 o6 f0 f1 f2 f3 f4 f5 f6
  generalize (v3.setCell ⟨w.heap.size + 2,5,none⟩ (.slice (some ⟨bi,0,none⟩) ni ni)) = v4 at *
  have hlo4:=lt_of_block gO.out
  obtain ⟨a0,a1,a2,a3,a4,a5,a6,_,_,_,_,_,_,_⟩:=cell7k gA.out
  go_wp2_with fail
  refine (CK.out _ B0.out).mono ?_
  rintro e v5 ⟨bk,rfl,hbk,hbkl,hth,hkd,hb⟩
  replace gR:=hid (keepheap hb gR.out)
  replace gO:=hid (keepheap hb gO.out)
  replace HIO:=hid (HIO.out.below hb)
  have hlw:w.heap.size ≤ v4.heap.size:=B0.out.size
  replace B0:=hid (btrans B0.out hb)
  clear hb a0 a1 a2 a3 a4 a5 a6 gA
  have HTH:=hid hth
  have HKD:Hid (KdO (w.heap.size + 2 + 1) n v5 bk t.kids):=hid (fun j hj => by
   obtain ⟨ia',ka',k1,k2⟩:=hkd j hj
   exact ⟨ia',ka',k1,k2.lo (by omega)⟩)
  clear hth hkd
  obtain ⟨o0,o1,o2,o3,o4,o5,o6,f0,f1,f2,f3,f4,f5,f6⟩:=cell7k gO.out
  go_upto_region 6 with fail
  have gO2:(v5.setCell ⟨w.heap.size + 2,6,none⟩ (.slice (some ⟨bk,0,none⟩) nk nk)).heap[w.heap.size + 2]? = some (.cells #[.int .i64 b0,.int .i64 b1,.int .i64 b2,.int .i64 b3,.bool b4,.slice (some ⟨bi,0,none⟩) ni ni,.slice (some ⟨bk,0,none⟩) nk nk] 35 (0,0)):=set_at gO.out
  have gR2:(v5.setCell ⟨w.heap.size + 2,6,none⟩ (.slice (some ⟨bk,0,none⟩) nk nk)).heap[w.heap.size + 1]? = some (.cells #[.int .i64 0,.int .i64 0,.int .i64 0,.int .i64 0,.bool false,.slice none 0 0,.slice none 0 0] 35 (0,0)):=(heap_set v5 (w.heap.size + 2) 6 _ _ n1).trans gR.out
  have B2:Below w.heap.size w (v5.setCell ⟨w.heap.size + 2,6,none⟩ (.slice (some ⟨bk,0,none⟩) nk nk)):=bset B0.out (by omega) _
  have hf6:∀ b,b ≠ w.heap.size + 2 → (v5.setCell ⟨w.heap.size + 2,6,none⟩ (.slice (some ⟨bk,0,none⟩) nk nk)).heap[b]? = v5.heap[b]?:=fun b hb => heap_set v5 (w.heap.size + 2) 6 b _ (fun e => hb e.symm)
  have hs6:(v5.setCell ⟨w.heap.size + 2,6,none⟩ (.slice (some ⟨bk,0,none⟩) nk nk)).heap.size = v5.heap.size:=by simp
  generalize hv6:(v5.setCell ⟨w.heap.size + 2,6,none⟩ (.slice (some ⟨bk,0,none⟩) nk nk)) = v6 at *
  obtain ⟨o0,o1,o2,o3,o4,o5,o6,f0,f1,f2,f3,f4,f5,f6⟩:=cell7k gO2
  obtain ⟨r0,r1,r2,r3,r4,r5,r6,q0,q1,q2,q3,q4,q5,q6⟩:=cell7k gR2
  have gF:(((((((v6.setCell ⟨w.heap.size + 1,0,none⟩ (.int .i64 b0)).setCell ⟨w.heap.size + 1,1,none⟩ (.int .i64 b1)).setCell ⟨w.heap.size + 1,2,none⟩ (.int .i64 b2)).setCell ⟨w.heap.size + 1,3,none⟩ (.int .i64 b3)).setCell ⟨w.heap.size + 1,4,none⟩ (.bool b4)).setCell ⟨w.heap.size + 1,5,none⟩ (.slice (some ⟨bi,0,none⟩) ni ni)).setCell ⟨w.heap.size + 1,6,none⟩ (.slice (some ⟨bk,0,none⟩) nk nk)).heap[w.heap.size + 1]? = some (.cells #[.int .i64 b0,.int .i64 b1,.int .i64 b2,.int .i64 b3,.bool b4,.slice (some ⟨bi,0,none⟩) ni ni,.slice (some ⟨bk,0,none⟩) nk nk] 35 (0,0)):=set_at (set_at (set_at (set_at (set_at (set_at (set_at gR2))))))
  have BF:Below w.heap.size w (((((((v6.setCell ⟨w.heap.size + 1,0,none⟩ (.int .i64 b0)).setCell ⟨w.heap.size + 1,1,none⟩ (.int .i64 b1)).setCell ⟨w.heap.size + 1,2,none⟩ (.int .i64 b2)).setCell ⟨w.heap.size + 1,3,none⟩ (.int .i64 b3)).setCell ⟨w.heap.size + 1,4,none⟩ (.bool b4)).setCell ⟨w.heap.size + 1,5,none⟩ (.slice (some ⟨bi,0,none⟩) ni ni)).setCell ⟨w.heap.size + 1,6,none⟩ (.slice (some ⟨bk,0,none⟩) nk nk)):=setL_below [.int .i64 b0,.int .i64 b1,.int .i64 b2,.int .i64 b3,.bool b4,.slice (some ⟨bi,0,none⟩) ni ni,.slice (some ⟨bk,0,none⟩) nk nk] w v6 (w.heap.size + 1) 0 _ B2 (by omega)
  have hf8:∀ b,b ≠ w.heap.size + 2 → b ≠ w.heap.size + 1 → (((((((v6.setCell ⟨w.heap.size + 1,0,none⟩ (.int .i64 b0)).setCell ⟨w.heap.size + 1,1,none⟩ (.int .i64 b1)).setCell ⟨w.heap.size + 1,2,none⟩ (.int .i64 b2)).setCell ⟨w.heap.size + 1,3,none⟩ (.int .i64 b3)).setCell ⟨w.heap.size + 1,4,none⟩ (.bool b4)).setCell ⟨w.heap.size + 1,5,none⟩ (.slice (some ⟨bi,0,none⟩) ni ni)).setCell ⟨w.heap.size + 1,6,none⟩ (.slice (some ⟨bk,0,none⟩) nk nk)).heap[b]? = v5.heap[b]?:=fun b hb hb' => (setL_blk [.int .i64 b0,.int .i64 b1,.int .i64 b2,.int .i64 b3,.bool b4,.slice (some ⟨bi,0,none⟩) ni ni,.slice (some ⟨bk,0,none⟩) nk nk] v6 (w.heap.size + 1) 0 b (fun e => hb' e.symm)).trans (hf6 b hb)
  have hs8:(((((((v6.setCell ⟨w.heap.size + 1,0,none⟩ (.int .i64 b0)).setCell ⟨w.heap.size + 1,1,none⟩ (.int .i64 b1)).setCell ⟨w.heap.size + 1,2,none⟩ (.int .i64 b2)).setCell ⟨w.heap.size + 1,3,none⟩ (.int .i64 b3)).setCell ⟨w.heap.size + 1,4,none⟩ (.bool b4)).setCell ⟨w.heap.size + 1,5,none⟩ (.slice (some ⟨bi,0,none⟩) ni ni)).setCell ⟨w.heap.size + 1,6,none⟩ (.slice (some ⟨bk,0,none⟩) nk nk)).heap.size = v5.heap.size:=(setL_size [.int .i64 b0,.int .i64 b1,.int .i64 b2,.int .i64 b3,.bool b4,.slice (some ⟨bi,0,none⟩) ni ni,.slice (some ⟨bk,0,none⟩) nk nk] v6 (w.heap.size + 1) 0).trans hs6
  obtain ⟨z0,z1,z2,z3,z4,z5,z6,_,_,_,_,_,_,_⟩:=cell7k gF
  have HKN:=hid (HF.out ((((((((v6.setCell ⟨w.heap.size + 1,0,none⟩ (.int .i64 b0)).setCell ⟨w.heap.size + 1,1,none⟩ (.int .i64 b1)).setCell ⟨w.heap.size + 1,2,none⟩ (.int .i64 b2)).setCell ⟨w.heap.size + 1,3,none⟩ (.int .i64 b3)).setCell ⟨w.heap.size + 1,4,none⟩ (.bool b4)).setCell ⟨w.heap.size + 1,5,none⟩ (.slice (some ⟨bi,0,none⟩) ni ni)).setCell ⟨w.heap.size + 1,6,none⟩ (.slice (some ⟨bk,0,none⟩) nk nk))) bi bk (by omega) (by omega) (HIO.out.keep (by omega) (hf8 bi (by omega) (by omega))) (by omega) (there_keep HTH.out (hf8 bk (by omega) (by omega))) (fun j hj => by
   obtain ⟨ia',ka',k1,k2⟩:=HKD.out j hj
   exact ⟨ia',ka',k1.keep (hf8 bk (by omega) (by omega)),(k2.keep (by omega) (fun b hb _ => hf8 b (by omega) (by omega))).lo (by omega)⟩))
  clear gF gO2 gR2 gO gR hf6 hf8 HIO HTH HKD HF CI CK
  go_wp2_with fail
  exact bodyPost_ret (v:=.agg #[.int .i64 b0,.int .i64 b1,.int .i64 b2,.int .i64 b3,.bool b4,.slice (some ⟨bi,0,none⟩) ni ni,.slice (some ⟨bk,0,none⟩) nk nk]) (by simp [results,Tryz.results9,go_sem,z0,z1,z2,z3,z4,z5,z6]) rfl ⟨_,_,rfl,HKN.out,BF⟩
theorem eq_box_same (a b c d:Int) (w:World):Calls Tryz.prog 49 #[.agg #[.int .i64 a,.int .i64 b,.int .i64 c,.int .i64 d],.agg #[.int .i64 a,.int .i64 b,.int .i64 c,.int .i64 d]] w fun e w' => e = .returned (.bool true) ∧ Below w.heap.size w w':=by
 go_enter Tryz.func49,Tryz.ntmps49
 go_wp2_with fail
 go_ret
 exact ⟨rfl,by (with_reducible repeat (first | exact Below.refl _ _ | assumption | (refine btrans ?_ (by assumption)) | refine bdrew ?_ | refine balloc ?_ _))⟩
theorem eq_item_same (i a b c d:Int) (w:World):Calls Tryz.prog 84 #[.agg #[.int .i64 i,.int .i64 a,.int .i64 b,.int .i64 c,.int .i64 d],.agg #[.int .i64 i,.int .i64 a,.int .i64 b,.int .i64 c,.int .i64 d]] w fun e w' => e = .returned (.bool true) ∧ Below w.heap.size w w':=by
 go_enter Tryz.func84,Tryz.ntmps84
 go_wp2_with fail
 refine (eq_box_same _ _ _ _ _).mono ?_
 rintro e w1 ⟨rfl,hb1⟩
 go_wp2_with fail
 go_ret
 exact ⟨rfl,by (with_reducible repeat (first | exact Below.refl _ _ | assumption | (refine btrans ?_ (by assumption)) | refine bdrew ?_ | refine balloc ?_ _))⟩
def ItR (w:World) (b:Nat) (l:List It):Prop:=b < w.heap.size ∧ ∀ j (h:j < l.length),Cs w b (j * 5) (ci l[j])
theorem ItR.below {w w':World} {b:Nat} {l:List It} (h:ItR w b l) (H:Below w.heap.size w w'):ItR w' b l:=⟨Nat.lt_of_lt_of_le h.1 H.size,fun j hj => (h.2 j hj).below h.1 H⟩
theorem ItO.r {w:World} {b:Nat} {l:List It} (h:ItO w b l):ItR w b l:=⟨h.1,h.2.1⟩
theorem eq_items (p q c c':Nat) (l:List It) (w:World) (hm:l.length ≤ 1099511627776) (h:ItR w p l) (h':ItR w q l):Calls Tryz.prog 50 #[.slice (some ⟨p,0,none⟩) l.length c,.slice (some ⟨q,0,none⟩) l.length c'] w fun e w' => e = .returned (.bool true) ∧ Below w.heap.size w w':=by
 have HP:=hid h
 have HQ:=hid h'
 clear h h'
 go_enter Tryz.func50,Tryz.ntmps50
 go_wp2_with fail
 go_loopw [5] (fun ti wr => ∃ k:Nat,ti = .int .i64 k ∧ k ≤ l.length ∧ Below w.heap.size w wr) (fun ti _ => l.length - (intOf ti).toNat)
 case atStart => exact ⟨0,rfl,Nat.zero_le _,Below.refl _ _⟩
 case round =>
  obtain ⟨k,rfl,hk,hb⟩:=hrel
  by_cases hlt:k < l.length
  ·obtain ⟨c0,c1,c2,c3,c4⟩:=((HP.out.below hb).2 k hlt).item
   obtain ⟨d0,d1,d2,d3,d4⟩:=((HQ.out.below hb).2 k hlt).item
   generalize l[k].1 = x at *
   generalize l[k].2.1 = y at *
   generalize l[k].2.2.1 = u at *
   generalize l[k].2.2.2.1 = v at *
   generalize l[k].2.2.2.2 = z at *
   have hk0:(0:Int) ≤ (k:Int):=by omega
   have hk1:(k:Int) < (l.length:Int):=by omega
   go_upto_region 6 with fail
   refine wp_region_held_drew (S:=(fun w' => w'.cell? ⟨p,k * 5,none⟩ = some (.int .i64 x) ∧ w'.cell? ⟨p,k * 5 + 1,none⟩ = some (.int .i64 y) ∧ w'.cell? ⟨p,k * 5 + 2,none⟩ = some (.int .i64 u) ∧ w'.cell? ⟨p,k * 5 + 3,none⟩ = some (.int .i64 v) ∧ w'.cell? ⟨p,k * 5 + 4,none⟩ = some (.int .i64 z) ∧ w'.cell? ⟨q,k * 5,none⟩ = some (.int .i64 x) ∧ w'.cell? ⟨q,k * 5 + 1,none⟩ = some (.int .i64 y) ∧ w'.cell? ⟨q,k * 5 + 2,none⟩ = some (.int .i64 u) ∧ w'.cell? ⟨q,k * 5 + 3,none⟩ = some (.int .i64 v) ∧ w'.cell? ⟨q,k * 5 + 4,none⟩ = some (.int .i64 z))) (by kernel_rfl) ?_ (fun hHeld => ?_)
   ·(repeat' apply And.intro) <;> (repeat (first | with_reducible assumption | refine keepcell (by with_reducible assumption) ?_ | refine keepdrew ?_ | refine keepalloc ?_ _))
   refine tkR 0 hHeld ?_
   try simp only [sq]
   refine tkR 1 hHeld ?_
   try simp only [sq]
   refine tkR 2 hHeld ?_
   try simp only [sq]
   refine tkR 3 hHeld ?_
   try simp only [sq]
   refine tkR 4 hHeld ?_
   try simp only [sq]
   refine tkR 5 hHeld ?_
   try simp only [sq]
   refine tkR 6 hHeld ?_
   try simp only [sq]
   refine tkR 7 hHeld ?_
   try simp only [sq]
   refine rd1 8 rfl (fun K hK => ?_)
   try simp only [sq]
   go_simp
   (first
     | (go_at_call 84;refine (eq_item_same _ _ _ _ _ _).mono ?_;rintro e w1 ⟨rfl,hb1⟩))
   go_wp2_with fail
   refine hK.out _ _ ?_ (fun hHeld => ?_)
   ·(repeat' apply And.intro) <;> (repeat (first | with_reducible assumption | refine keepcell (by with_reducible assumption) ?_ | refine keepdrew ?_ | refine keepalloc ?_ _))
   clear hK K
   try simp only [sq]
   refine tkR 9 hHeld ?_
   try simp only [sq]
   refine wpAnyH_done (by kernel_rfl) ?_ _
   go_wp2_with fail
   go_roundw
   case rel => exact ⟨k + 1,by go_num,by omega,by (with_reducible repeat (first | exact Below.refl _ _ | assumption | (refine btrans ?_ (by assumption)) | refine bdrew ?_ | refine balloc ?_ _))⟩
   case measure => simp [intOf];omega
  ·have hk':k = l.length:=by omega
   go_wp2_with fail
   go_ret
   exact ⟨rfl,hb⟩
theorem eq_knots (n lo lo':Nat) (IH:∀ (t:KT) (ia ka ia' ka':Option Addr) (w:World),ksz n t ≤ 1048576 → Kn lo n w ia ka t → Kn lo' n w ia' ka' t → Calls Tryz.prog 12 #[kvo t ia ka,kvo t ia' ka'] w fun e w' => e = .returned (.bool true) ∧ Below w.heap.size w w')
  (p q c c':Nat) (l:List KT) (w:World) (hm:l.length ≤ 1048576) (hz:∀ t ∈ l,ksz n t ≤ 1048576) (hp:p < w.heap.size) (hq:q < w.heap.size) (h:KdO lo n w p l) (h':KdO lo' n w q l):Calls Tryz.prog 51 #[.slice (some ⟨p,0,none⟩) l.length c,.slice (some ⟨q,0,none⟩) l.length c'] w fun e w' => e = .returned (.bool true) ∧ Below w.heap.size w w':=by
 have HP:=hid h
 have HQ:=hid h'
 have hIH:=hid IH
 clear h h' IH
 go_enter Tryz.func51,Tryz.ntmps51
 go_wp2_with fail
 go_loopw [5] (fun ti wr => ∃ k:Nat,ti = .int .i64 k ∧ k ≤ l.length ∧ Below w.heap.size w wr) (fun ti _ => l.length - (intOf ti).toNat)
 case atStart => exact ⟨0,rfl,Nat.zero_le _,Below.refl _ _⟩
 case round =>
  obtain ⟨k,rfl,hk,hb⟩:=hrel
  by_cases hlt:k < l.length
  ·obtain ⟨ia1,ka1,r1,r2⟩:=HP.out k hlt
   obtain ⟨ia2,ka2,s1,s2⟩:=HQ.out k hlt
   have C:=hid (fun (W:World) (hB:Below w.heap.size w W) => hIH.out l[k] ia1 ka1 ia2 ka2 W (hz _ (List.getElem_mem hlt)) (r2.below hB) (s2.below hB))
   unfold kvo kv at C
   obtain ⟨c0,c1,c2,c3,c4,c5,c6⟩:=(r1.below hp hb).knot
   obtain ⟨d0,d1,d2,d3,d4,d5,d6⟩:=(s1.below hq hb).knot
   clear r1 r2 s1 s2
   generalize l[k].box.1 = b0 at *
   generalize l[k].box.2.1 = b1 at *
   generalize l[k].box.2.2.1 = b2 at *
   generalize l[k].box.2.2.2 = b3 at *
   generalize l[k].lf = b4 at *
   generalize l[k].its.length = b5 at *
   generalize l[k].kids.length = b6 at *
   have hk0:(0:Int) ≤ (k:Int):=by omega
   have hk1:(k:Int) < (l.length:Int):=by omega
   go_upto_region 6 with fail
   refine wp_region_held_drew (S:=(fun w' => w'.cell? ⟨p,k * 7,none⟩ = some (.int .i64 b0) ∧ w'.cell? ⟨p,k * 7 + 1,none⟩ = some (.int .i64 b1) ∧ w'.cell? ⟨p,k * 7 + 2,none⟩ = some (.int .i64 b2) ∧ w'.cell? ⟨p,k * 7 + 3,none⟩ = some (.int .i64 b3) ∧ w'.cell? ⟨p,k * 7 + 4,none⟩ = some (.bool b4) ∧ w'.cell? ⟨p,k * 7 + 5,none⟩ = some (.slice ia1 b5 b5) ∧ w'.cell? ⟨p,k * 7 + 6,none⟩ = some (.slice ka1 b6 b6) ∧ w'.cell? ⟨q,k * 7,none⟩ = some (.int .i64 b0) ∧ w'.cell? ⟨q,k * 7 + 1,none⟩ = some (.int .i64 b1) ∧ w'.cell? ⟨q,k * 7 + 2,none⟩ = some (.int .i64 b2) ∧ w'.cell? ⟨q,k * 7 + 3,none⟩ = some (.int .i64 b3) ∧ w'.cell? ⟨q,k * 7 + 4,none⟩ = some (.bool b4) ∧ w'.cell? ⟨q,k * 7 + 5,none⟩ = some (.slice ia2 b5 b5) ∧ w'.cell? ⟨q,k * 7 + 6,none⟩ = some (.slice ka2 b6 b6))) (by kernel_rfl) ?_ (fun hHeld => ?_)
   ·(repeat' apply And.intro) <;> (repeat (first | with_reducible assumption | refine keepcell (by with_reducible assumption) ?_ | refine keepdrew ?_ | refine keepalloc ?_ _))
   refine tkR 0 hHeld ?_
   try simp only [sq]
   refine tkR 1 hHeld ?_
   try simp only [sq]
   refine tkR 2 hHeld ?_
   try simp only [sq]
   refine tkR 3 hHeld ?_
   try simp only [sq]
   refine tkR 4 hHeld ?_
   try simp only [sq]
   refine tkR 5 hHeld ?_
   try simp only [sq]
   refine tkR 6 hHeld ?_
   try simp only [sq]
   refine tkR 7 hHeld ?_
   try simp only [sq]
   refine rd1 8 rfl (fun K hK => ?_)
   try simp only [sq]
   go_simp
   (first
     | (go_at_call 12;refine (C.out _ (by (with_reducible repeat (first | exact Below.refl _ _ | assumption | (refine btrans ?_ (by assumption)) | refine bdrew ?_ | refine balloc ?_ _)))).mono ?_;rintro e w1 ⟨rfl,hb1⟩))
   go_wp2_with fail
   refine hK.out _ _ ?_ (fun hHeld => ?_)
   ·(repeat' apply And.intro) <;> (repeat (first | with_reducible assumption | refine keepcell (by with_reducible assumption) ?_ | refine keepdrew ?_ | refine keepalloc ?_ _))
   clear hK K
   try simp only [sq]
   refine tkR 9 hHeld ?_
   try simp only [sq]
   refine wpAnyH_done (by kernel_rfl) ?_ _
   go_wp2_with fail
   go_roundw
   case rel => exact ⟨k + 1,by go_num,by omega,by (with_reducible repeat (first | exact Below.refl _ _ | assumption | (refine btrans ?_ (by assumption)) | refine bdrew ?_ | refine balloc ?_ _))⟩
   case measure => simp [intOf];omega
  ·have hk':k = l.length:=by omega
   go_wp2_with fail
   go_ret
   exact ⟨rfl,hb⟩
theorem eq_knot (lo lo' n:Nat):∀ (t:KT) (ia ka ia' ka':Option Addr) (w:World),ksz n t ≤ 1048576 → Kn lo n w ia ka t → Kn lo' n w ia' ka' t → Calls Tryz.prog 12 #[kvo t ia ka,kvo t ia' ka'] w fun e w' => e = .returned (.bool true) ∧ Below w.heap.size w w':=by
 induction n with
 | zero => intro t ia ka ia' ka' w _ h;exact h.elim
 | succ n ih =>
  intro t ia ka ia' ka' w hz h h'
  have hz2:t.its.length ≤ 1048576 ∧ t.kids.length ≤ 1048576:=by unfold ksz at hz;omega
  obtain ⟨bi,bk,rfl,rfl,p1,p2,p3,p4,p5,p6⟩:=h
  obtain ⟨bi',bk',rfl,rfl,q1,q2,q3,q4,q5,q6⟩:=h'
  have CI:=hid (fun (W:World) (hB:Below w.heap.size w W) => eq_items bi bi' t.its.length t.its.length t.its W (by omega) (p3.r.below hB) (q3.r.below hB))
  have CK:=hid (fun (W:World) (hB:Below w.heap.size w W) => eq_knots n lo lo' ih bk bk' t.kids.length t.kids.length t.kids W (by omega) (fun k hk => Nat.le_trans (ksz_kid hk) hz) (Nat.lt_of_lt_of_le p4 hB.size) (Nat.lt_of_lt_of_le q4 hB.size) (fun j hj => by
   obtain ⟨a1,a2,a3,a4⟩:=p6 j hj
   exact ⟨a1,a2,a3.below p4 hB,a4.below hB⟩) (fun j hj => by
   obtain ⟨a1,a2,a3,a4⟩:=q6 j hj
   exact ⟨a1,a2,a3.below q4 hB,a4.below hB⟩))
  clear p3 p5 p6 q3 q5 q6 ih hz
  unfold kvo kv
  generalize t.box.1 = b0 at *
  generalize t.box.2.1 = b1 at *
  generalize t.box.2.2.1 = b2 at *
  generalize t.box.2.2.2 = b3 at *
  generalize t.lf = b4 at *
  generalize t.its.length = ni at *
  generalize t.kids.length = nk at *
  go_enter Tryz.func12,Tryz.ntmps12
  go_wp2_with fail
  have gA:=hid (old_alloc (o':=.cells #[.int .i64 b0,.int .i64 b1,.int .i64 b2,.int .i64 b3,.bool b4,.slice (some ⟨bi',0,none⟩) ni ni,.slice (some ⟨bk',0,none⟩) nk nk] 35) (new_alloc w w.heap.size (.cells #[.int .i64 b0,.int .i64 b1,.int .i64 b2,.int .i64 b3,.bool b4,.slice (some ⟨bi,0,none⟩) ni ni,.slice (some ⟨bk,0,none⟩) nk nk] 35) rfl))
  have gB:=hid (new_alloc (w.alloc (.cells #[.int .i64 b0,.int .i64 b1,.int .i64 b2,.int .i64 b3,.bool b4,.slice (some ⟨bi,0,none⟩) ni ni,.slice (some ⟨bk,0,none⟩) nk nk] 35)) (w.heap.size + 1) (.cells #[.int .i64 b0,.int .i64 b1,.int .i64 b2,.int .i64 b3,.bool b4,.slice (some ⟨bi',0,none⟩) ni ni,.slice (some ⟨bk',0,none⟩) nk nk] 35) (by simp))
  have B0:=hid (balloc (balloc (Below.refl w.heap.size w) (.cells #[.int .i64 b0,.int .i64 b1,.int .i64 b2,.int .i64 b3,.bool b4,.slice (some ⟨bi,0,none⟩) ni ni,.slice (some ⟨bk,0,none⟩) nk nk] 35)) (.cells #[.int .i64 b0,.int .i64 b1,.int .i64 b2,.int .i64 b3,.bool b4,.slice (some ⟨bi',0,none⟩) ni ni,.slice (some ⟨bk',0,none⟩) nk nk] 35))
  generalize (w.alloc (.cells #[.int .i64 b0,.int .i64 b1,.int .i64 b2,.int .i64 b3,.bool b4,.slice (some ⟨bi,0,none⟩) ni ni,.slice (some ⟨bk,0,none⟩) nk nk] 35)).alloc (.cells #[.int .i64 b0,.int .i64 b1,.int .i64 b2,.int .i64 b3,.bool b4,.slice (some ⟨bi',0,none⟩) ni ni,.slice (some ⟨bk',0,none⟩) nk nk] 35) = v0 at *
  refine (eq_box_same _ _ _ _ _).mono ?_
  rintro e v1 ⟨rfl,hb⟩
  replace gA:=hid (keepheap hb gA.out)
  replace gB:=hid (keepheap hb gB.out)
  replace B0:=hid (btrans B0.out hb)
  clear hb
  obtain ⟨a0,a1,a2,a3,a4,a5,a6,_,_,_,_,_,_,_⟩:=cell7k gA.out
  obtain ⟨d0,d1,d2,d3,d4,d5,d6,_,_,_,_,_,_,_⟩:=cell7k gB.out
  go_wp2_with fail
  refine (CI.out _ B0.out).mono ?_
  rintro e v2 ⟨rfl,hb⟩
  replace gA:=hid (keepheap hb gA.out)
  replace gB:=hid (keepheap hb gB.out)
  replace B0:=hid (btrans B0.out hb)
  clear hb a0 a1 a2 a3 a4 a5 a6 d0 d1 d2 d3 d4 d5 d6
  obtain ⟨a0,a1,a2,a3,a4,a5,a6,_,_,_,_,_,_,_⟩:=cell7k gA.out
  obtain ⟨d0,d1,d2,d3,d4,d5,d6,_,_,_,_,_,_,_⟩:=cell7k gB.out
  go_wp2_with fail
  refine (CK.out _ B0.out).mono ?_
  rintro e v3 ⟨rfl,hb⟩
  replace B0:=hid (btrans B0.out hb)
  clear hb
  go_wp2_with fail
  go_ret
  exact ⟨rfl,B0.out⟩
end Go.Proofs.YtjahlofahjgdbaaGreat
