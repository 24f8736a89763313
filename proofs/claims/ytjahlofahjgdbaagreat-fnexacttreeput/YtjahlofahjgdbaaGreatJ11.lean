/- Texts of stores, joined: Fu, Fv. -/
import Derived.Test.YtjahlofahjgdbaaGreatJ10
set_option maxRecDepth 100000
set_option maxHeartbeats 4000000
set_option linter.unusedSimpArgs false
set_option linter.unusedVariables false
namespace Go.Proofs.YtjahlofahjgdbaaGreat
open Go.RowKit Go.Shelf
attribute [local go_sem] Oper.semAt_some
theorem ItG.tn {w w':World} {B C g c:Nat} {l:List It} (h:ItG w B g c l) (H:Tn MT C w w'):ItG w' B g c l:=by
 refine ⟨h.1,?_⟩
 rcases h.2 with hn | ⟨g',c',cur,e,q1,q2,q3⟩
 ·exact .inl hn
 ·exact .inr ⟨g',c',cur,e,q1,(H.old g' (lt_of_heap q2) (.inr (fun o ho => by rw [q2] at ho;cases ho;rfl))).trans q2,q3⟩
def ItB (W:World) (Bl B:Nat) (L:List It):Prop:=∃ g c,W.heap[Bl]? = some (.cells #[.slice (some ⟨g,0,none⟩) L.length c] 32 (0,0)) ∧ ItG W B g c L
theorem ItB.tn {W W':World} {Bl B C:Nat} {L:List It} (h:ItB W Bl B L) (H:Tn MT C W W') (hC:Bl < C):ItB W' Bl B L:=by
 obtain ⟨g,c,h1,h2⟩:=h
 exact ⟨g,c,(H.old Bl (lt_of_heap h1) (.inl hC)).trans h1,h2.tn H⟩
theorem its_next (L:List KT) (k:Nat) (h:k < L.length):(L.take (k + 1)).flatMap KT.its = (L.take k).flatMap KT.its ++ L[k].its:=by
 rw [List.take_add_one,List.getElem?_eq_getElem h,Option.toList_some,List.flatMap_append]
 simp
theorem its_le (L:List KT) (k:Nat):((L.take k).flatMap KT.its).length ≤ (L.flatMap KT.its).length:=by
 conv => rhs;rw [← List.take_append_drop k L]
 rw [List.flatMap_append,List.length_append];omega
def RdAx (lo Z:Nat) (w0:World) (L:List KT) (I:Nat → World → Prop) (TM:Nat → Value → Array Value) (k:Nat) (a':Act) (X:World):Prop:=∃ (Bx m':Nat) (ia' ka':Option Addr) (hk:k < L.length) (c0 c1 c2 c3:Int) (c4:Bool) (mi mk:Nat),KF L[k] c0 c1 c2 c3 c4 mi mk ∧ X.heap[Bx]? = some (.cells #[.int .i64 c0,.int .i64 c1,.int .i64 c2,.int .i64 c3,.bool c4,.slice ia' mi mi,.slice ka' mk mk] 35 (0,0)) ∧ Z ≤ Bx ∧ Kn lo m' w0 ia' ka' L[k] ∧ I k X ∧ a' = { tmps:=TM Bx (.agg #[.int .i64 c0,.int .i64 c1,.int .i64 c2,.int .i64 c3,.bool c4,.slice ia' mi mi,.slice ka' mk mk]),defers:=[] }
theorem RdAx.putR {lo Z:Nat} {w0:World} {L:List KT} {I:Nat → World → Prop} {TM:Nat → Value → Array Value} {k:Nat} {a':Act} {X:World} {l:Nat} {r r':Loop} {M:Obj → Bool} (hM:∀ r,M (.loop r) = true) (hI:Ab M Z I) (h:RdAx lo Z w0 L I TM k a' X) (hl:X.heap[l]? = some (.loop r)) (hz:Z ≤ l):RdAx lo Z w0 L I TM k a' (X.putObj l (.loop r')):=by
 obtain ⟨Bx,m',ia',ka',hk,c0,c1,c2,c3,c4,mi,mk,hf,hbx,hle,hkn,h1,ha⟩:=h
 refine ⟨Bx,m',ia',ka',hk,c0,c1,c2,c3,c4,mi,mk,hf,(World.putObj_heap_other (fun e => ?_)).trans hbx,hle,hkn,hI _ _ _ h1 (Tn.put _ hl (hM _) hz),ha⟩
 rw [e,hl] at hbx;cases hbx
theorem alloc4 (W:World) (o0 o1 o2 o3:Obj):((((W.alloc o0).alloc o1).alloc o2).alloc o3).heap[W.heap.size]? = some o0 ∧ ((((W.alloc o0).alloc o1).alloc o2).alloc o3).heap[W.heap.size + 1]? = some o1 ∧ ((((W.alloc o0).alloc o1).alloc o2).alloc o3).heap[W.heap.size + 1 + 1]? = some o2 ∧ ((((W.alloc o0).alloc o1).alloc o2).alloc o3).heap[W.heap.size + 1 + 1 + 1]? = some o3 ∧ ((((W.alloc o0).alloc o1).alloc o2).alloc o3).heap.size = W.heap.size + 4 ∧ Below W.heap.size W ((((W.alloc o0).alloc o1).alloc o2).alloc o3):=by
 refine ⟨?_,?_,?_,?_,by simp,balloc (balloc (balloc (balloc (Below.refl _ W) _) _) _) _⟩
 ·exact old_alloc (old_alloc (old_alloc (new_alloc W _ _ rfl)))
 ·exact old_alloc (old_alloc (new_alloc _ _ _ (by simp)))
 ·exact old_alloc (new_alloc _ _ _ (by simp))
 ·exact new_alloc _ _ _ (by simp)
theorem owned_at {w:World} {base:Nat} {e:TypeId} {size g n0 c:Nat} {v:Value} {k:Nat} {xs:List Value} {m:Nat} (h:w.ownsRow base e size v k xs) (hi:v = .slice none 0 0 ↔ (.slice (some ⟨g,0,none⟩) n0 c:Value) = .slice none 0 0 ∧ m = 0):∃ g' c',v = .slice (some ⟨g',0,none⟩) k c':=by
 rcases h.2 with ⟨e,_⟩ | ⟨g',c',cur,e,_⟩
 ·exact absurd (hi.1 e).1 (fun e => by cases e)
 ·exact ⟨g',c',e⟩
theorem ItG.typ {w:World} {B g c:Nat} {l:List It} (h:ItG w B g c l):B ≤ g ∧ ∃ cur,w.heap[g]? = some (.cells cur 40 (0,0)):=by
 rcases h.2 with ⟨e,_⟩ | ⟨g',c',cur,e,q1,q2,q3⟩
 ·cases e
 ·cases e;exact ⟨q1,cur,q2⟩
theorem impl_TreeItems (m lo:Nat) (t:KT) (ia ka:Option Addr) (w:World) (h:Kn lo m w ia ka t) (hz:ksz m t ≤ 1048576):Calls Tryz.prog 22 #[kvo t ia ka] w fun e w' => ∃ g c,e = .returned (.slice (some ⟨g,0,none⟩) (itm 20 t).length c) ∧ ItG w' w.heap.size g c (itm 20 t) ∧ Below w.heap.size w w':=by
 have hlen:=Nat.le_trans (kn_itm m 20 h) hz
 have hkn:=itm_kns 20 t
 obtain ⟨i0,hi0,hz0,hz1,hzz⟩:=info_parts Tryz.infoIt
 obtain ⟨b0,b1,b2,b3,b4,ni,nk,hkf⟩:=kf t
 have hkv:kvo t ia ka = .agg #[.int .i64 b0,.int .i64 b1,.int .i64 b2,.int .i64 b3,.bool b4,.slice ia ni ni,.slice ka nk nk]:=kvo_of hkf ia ka
 have KC:=hid (fun W => knots_c t ia t.its.length ka t.kids.length W)
 have hck:ck t ia t.its.length ka t.kids.length = [.int .i64 b0,.int .i64 b1,.int .i64 b2,.int .i64 b3,.bool b4,.slice ia ni ni,.slice ka nk nk]:=by
  obtain ⟨rfl,rfl,rfl,rfl,rfl,rfl,rfl⟩:=hkf
  rfl
 change Hid (∀ W,Calls _ _ #[kvo t ia ka] W _) at KC
 rw [hck,hkv] at KC
 rw [hkv]
 rw [← callsIn_wide (n:=10)]
 refine callsIn_of_wp_marks Tryz.func22 rfl trivial ?_ rfl
 simp only [Tryz.ntmps22,List.size_toArray,List.length_cons,List.length_nil,Nat.reduceAdd,Nat.reduceSub,Array.replicate_succ,Array.replicate_zero,List.push_toArray,List.append_toArray,List.nil_append,List.cons_append]
 gi_wp2
 refine ⟨trivial,((callsIn_wide (n:=9)).2 (KC.out _)).mono ?_⟩
 rintro e v1 ⟨rfl,hv1⟩
 gi_wp2
 obtain ⟨A0,A1,A2,A3,hs,hB⟩:=alloc4 w (.cells #[.int .i64 b0,.int .i64 b1,.int .i64 b2,.int .i64 b3,.bool b4,.slice ia ni ni,.slice ka nk nk] 35) (.cells #[] 40) (.cells #[.slice (some ⟨w.heap.size + 1,0,none⟩) 0 0] 32) (.cells #[.int .i64 b0,.int .i64 b1,.int .i64 b2,.int .i64 b3,.bool b4,.slice ia ni ni,.slice ka nk nk] 35)
 have hG0:=World.ownsRow_made (base:=w.heap.size) (e:=40) (size:=5) (w.alloc (.cells #[.int .i64 b0,.int .i64 b1,.int .i64 b2,.int .i64 b3,.bool b4,.slice ia ni ni,.slice ka nk nk] 35)) #[] 0 (by simp) (by decide) rfl
 rw [World.size_alloc] at hG0
 have hG1:ItG ((((w.alloc (.cells #[.int .i64 b0,.int .i64 b1,.int .i64 b2,.int .i64 b3,.bool b4,.slice ia ni ni,.slice ka nk nk] 35)).alloc (.cells #[] 40)).alloc (.cells #[.slice (some ⟨w.heap.size + 1,0,none⟩) 0 0] 32)).alloc (.cells #[.int .i64 b0,.int .i64 b1,.int .i64 b2,.int .i64 b3,.bool b4,.slice ia ni ni,.slice ka nk nk] 35)) w.heap.size (w.heap.size + 1) 0 []:=(hG0.alloc _).alloc _
 generalize (((w.alloc (.cells #[.int .i64 b0,.int .i64 b1,.int .i64 b2,.int .i64 b3,.bool b4,.slice ia ni ni,.slice ka nk nk] 35)).alloc (.cells #[] 40)).alloc (.cells #[.slice (some ⟨w.heap.size + 1,0,none⟩) 0 0] 32)).alloc (.cells #[.int .i64 b0,.int .i64 b1,.int .i64 b2,.int .i64 b3,.bool b4,.slice ia ni ni,.slice ka nk nk] 35) = v1 at *
 clear hG0
 have HL:=hid hlen
 have HKN:=hid hkn
 have HSQ:=hid (knots_seq 9 lo m (by omega) t ia ka w v1 (w.heap.size + 1 + 1 + 1) h hz hB (by rw [hck];exact A3))
 have HS:=hid hs
 clear hlen hkn A0 A1 A3 hs KC hkv hck
 refine wpIn_rangeN rfl (fun h => by cases h) (first:=#[]) (by rfl) trivial (enters_of Tryz.func92 (by kernel_rfl) rfl) (fun _ => rfl) (fun _ => rfl) HSQ.out (Below.refl _ v1) hB.size
  (fun k X => (ItB X (w.heap.size + 1 + 1) w.heap.size (((kns (fun _ => true) 20 t).take k).flatMap KT.its) ∧ Below w.heap.size w X))
  (fun c k X => False)
  (fun _ _ _ => trivial) ?hI ?hIx ?h0
  (RdAx lo v1.heap.size w (kns (fun _ => true) 20 t) (fun k X => (ItB X (w.heap.size + 1 + 1) w.heap.size (((kns (fun _ => true) 20 t).take k).flatMap KT.its) ∧ Below w.heap.size w X)) (fun Bx vv => #[.agg #[.int .i64 b0,.int .i64 b1,.int .i64 b2,.int .i64 b3,.bool b4,.slice ia ni ni,.slice ka nk nk],.pointer (some ⟨w.heap.size,0,none⟩),.slice none 0 0,.pointer (some ⟨w.heap.size + 1 + 1,0,none⟩),.pointer (some ⟨Bx,0,none⟩),.slice (some ⟨w.heap.size + 1,0,none⟩) 0 0,.agg #[.int .i64 b0,.int .i64 b1,.int .i64 b2,.int .i64 b3,.bool b4,.slice ia ni ni,.slice ka nk nk],.func (.func 92) #[] #[.pointer (some ⟨w.heap.size + 1 + 1 + 1,0,none⟩)],vv,undef,undef,undef,undef,undef]))
  ?hAx ?assign ?body ?done ?stop
 case hI =>
  rintro k X Y ⟨h1,h2⟩ ht
  exact ⟨h1.tn ht (by rw [HS.out];omega),h2.trans (ht.below hB.size h2.size)⟩
 case hIx => exact fun c k X Y h _ => h.elim
 case h0 => exact ⟨⟨w.heap.size + 1,0,A2,hG1⟩,hB⟩
 case hAx =>
  rintro k a' X l' r r' HH hl' hle'
  refine RdAx.putR (M:=MT) (fun _ => rfl) ?_ HH hl' hle'
  rintro k X Y ⟨h1,h2⟩ ht
  exact ⟨h1.tn ht (by rw [HS.out];omega),h2.trans (ht.below hB.size h2.size)⟩
 case assign =>
  rintro l' k v X hk ⟨h1,h2⟩ ⟨hk',m',ia',ka',rfl,hkn⟩ hsX hbX
  obtain ⟨c0,c1,c2,c3,c4,mi,mk,hf⟩:=kf (kns (fun _ => true) 20 t)[k]
  rw [kvo_of hf]
  gi_wp2
  have hBA:Below X.heap.size X (X.alloc (.cells #[.int .i64 c0,.int .i64 c1,.int .i64 c2,.int .i64 c3,.bool c4,.slice ia' mi mi,.slice ka' mk mk] 35)):=balloc (Below.refl X.heap.size X) _
  have ht:=Tn.of_below (M:=MT) (B:=v1.heap.size) hBA
  exact ⟨Kp.of_below hBA h2.size,⟨X.heap.size,m',ia',ka',hk',c0,c1,c2,c3,c4,mi,mk,hf,new_alloc _ _ _ rfl,hsX,hkn,⟨h1.tn ht (by rw [HS.out];omega),h2.trans (ht.below hB.size h2.size)⟩,rfl⟩⟩
 case body =>
  rintro l' k a' X hk HH
  obtain ⟨Bx,m',ia',ka',hk',c0,c1,c2,c3,c4,mi,mk,hf,hbx,hle,hkn,⟨⟨g,c,hb1,hg1⟩,h2⟩,rfl⟩:=HH
  cases m' with
  | zero => exact hkn.elim
  | succ m' =>
  obtain ⟨bi,bk,rfl,_,_,_,hIO,_⟩:=hkn
  have hnx:=its_next (kns (fun _ => true) 20 t) k hk'
  have hpl:=its_le (kns (fun _ => true) 20 t) (k + 1)
  rw [hnx,HKN.out,List.length_append,hf.its] at hpl
  have hll:=HL.out
  have HNX:=hid hnx
  have hN5:=flI_len (kns (fun _ => true) 20 t)[k].its
  rw [hf.its] at hN5
  have HF1:=hid (flI_one (kns (fun _ => true) 20 t)[k].its)
  have HNW:=hid (fun j u (e:(flI (kns (fun _ => true) 20 t)[k].its)[j]? = some u) => show X.cell? ((⟨bi,0,none⟩:Addr).add j) = some u by
   rw [Addr.add_mid bi 0 j]
   exact flI_cell _ 0 (fun j hj => by have:=(hIO.2.1 j hj).below hIO.1 h2;rwa [Nat.zero_add]) j u e)
  clear hnx hIO
  generalize hQ:flI (kns (fun _ => true) 20 t)[k].its = Q at *
  have HQ:=hid hQ
  clear hQ
  generalize hP:((kns (fun _ => true) 20 t).take k).flatMap KT.its = P at *
  clear hP
  obtain ⟨z0,z1,z2,z3,z4,z5,z6,_,_,_,_,_,_,_⟩:=cell7k hbx
  obtain ⟨y0,yf⟩:=cell1k hb1
  obtain ⟨hgl,cur,hgt⟩:=hg1.typ
  have hne:g ≠ w.heap.size + 1 + 1:=fun e => by rw [e,hb1] at hgt;cases hgt
  have hsX:=h2.size
  simp only []
  gi_wp2_with (gi_at_builtin;refine wpListIn_append_own _ rfl (.tmp 9) (.tmp 11) 32 rfl w.heap.size 40 i0 _ 5 40 Tryz.underlying32 hi0 hz0 hz1 hzz rfl (by decide) (.slice (some ⟨g,0,none⟩) P.length c) P.length (flI P) (by rfl) hg1 ⟨bi,0,none⟩ mi mi Q (by rfl) hN5 HNW.out HF1.out (by unfold maxLen;omega) (by omega) hsX ?_;intro v' w1 hown hgrow hiff;obtain ⟨g',c',rfl⟩:=owned_at hown hiff;have hbl1:w1.heap[w.heap.size + 1 + 1]? = some (.cells #[.slice (some ⟨g,0,none⟩) P.length c] 32 (0,0)):=(hgrow.block _ (lt_of_heap hb1) (by simp [Value.ownBlock];omega)).trans hb1;obtain ⟨y1,yf1⟩:=cell1k hbl1)
  have hg2:ItG w1 w.heap.size g' c' (P ++ (kns (fun _ => true) 20 t)[k].its):=ofG hown (by rw [List.length_append,hf.its]) (by rw [flI_app,HQ.out])
  have hk1:Kp MT v1.heap.size w.heap.size X w1:=(Kp.refl _ _ _ _).grown hgrow hsX (fun r e => by
   cases e
   exact ⟨hgl,.inr (fun o ho => by rw [hgt] at ho;cases ho;rfl)⟩)
  refine ⟨hk1.set _ (by dsimp only;omega) (.inl (by dsimp only;rw [HS.out];omega)),⟨g',c',?_,?_⟩,(h2.trans hk1.below).setCell (by dsimp only;omega) _⟩
  ·rw [HNX.out,List.length_append,hf.its]
   exact set_at hbl1
  ·rw [HNX.out]
   obtain ⟨_,cur',hgt'⟩:=hg2.typ
   exact World.ownsRow.kept hg2 (grownBy_setCell' w1 _ _) (.inr (by
    simp only [Value.ownBlock,ne_eq,Option.some.injEq]
    intro e
    rw [e,hbl1] at hgt';cases hgt'))
 case done =>
  rintro X ⟨⟨g,c,hb1,hg1⟩,h2⟩ hD hbX
  rw [List.take_length,HKN.out] at hb1 hg1
  obtain ⟨y0,yf⟩:=cell1k hb1
  gi_wp2
  refine ⟨by simp,.inl ⟨_,_,rfl,run_takeDeferred hD,?_⟩⟩
  have ht:Tn MT v1.heap.size X (X.putObj v1.heap.size (.deferred none)):=Tn.put _ hD rfl (Nat.le_refl _)
  exact ⟨_,results_tmp rfl _ _ _,g,c,rfl,hg1.tn ht,h2.trans (ht.below hB.size h2.size)⟩
 case stop => exact fun c k X _ h => h.elim
attribute [local go_sem] Oper.semAt_some
def MB:Obj → Bool
 | .cells _ t _ => t != 31
 | _ => true
def cb (b:Bx):List Value:=[.int .i64 b.1,.int .i64 b.2.1,.int .i64 b.2.2.1,.int .i64 b.2.2.2]
def flB (l:List Bx):List Value:=l.flatMap cb
theorem flB_app (a b:List Bx):flB (a ++ b) = flB a ++ flB b:=List.flatMap_append
theorem cell_flB {w:World} {b:Nat}:∀ (l:List Bx) (o:Nat),Cs w b o (flB l) → ∀ j (h:j < l.length),Cs w b (o + j * 4) (cb l[j])
 | [],o,_,j,h => by cases h
 | x :: r,o,H,0,h => fun i v e0 => by
  have e:(cb x)[i]? = some v:=e0
  have:=H i v (show (cb x ++ flB r)[i]? = some v by
   rw [List.getElem?_append_left (List.getElem?_eq_some_iff.1 e).1];exact e)
  rwa [Nat.zero_mul,Nat.add_zero]
 | x :: r,o,H,j + 1,h => by
  have:=cell_flB r (o + 4) (fun i v e => by
   have:=H (i + 4) v (show (cb x ++ flB r)[i + 4]? = some v by
    rw [List.getElem?_append_right (by simp [cb])]
    simpa [cb] using e)
   rwa [show o + (i + 4) = o + 4 + i by omega] at this) j (by simpa using h)
  rw [show o + (j + 1) * 4 = o + 4 + j * 4 by omega]
  exact this
def BxG (w:World) (B g c:Nat) (l:List Bx):Prop:=w.ownsRow B 31 4 (.slice (some ⟨g,0,none⟩) l.length c) l.length (flB l)
theorem BxG.cs {w:World} {B g c:Nat} {l:List Bx} (h:BxG w B g c l):Cs w g 0 (flB l):=by
 have hc:=World.ownsRow.cells h (g:=g) rfl
 intro i v e
 have:=hc i v e
 have ha:(⟨g,0,none⟩:Addr).add i = ⟨g,0 + i,none⟩:=Addr.add_mid g 0 i
 rwa [ha] at this
theorem BxG.lt {w:World} {B g c:Nat} {l:List Bx} (h:BxG w B g c l):B ≤ g ∧ g < w.heap.size:=World.ownsRow.lt h g rfl
theorem BxG.at {w:World} {B g c:Nat} {l:List Bx} (h:BxG w B g c l) (j:Nat) (hj:j < l.length):Cs w g (j * 4) (cb l[j]):=by
 have:=cell_flB l 0 h.cs j hj
 rwa [Nat.zero_add] at this
theorem BxG.below {w w':World} {B g c:Nat} {l:List Bx} (h:BxG w B g c l) (H:Below w.heap.size w w'):BxG w' B g c l:=
 World.ownsRow.kept h (row:=none) ⟨H.os,H.tape,H.output,H.size,fun k hk _ => H.block k hk⟩ (.inr (by simp [Value.ownBlock]))
theorem ofB {w:World} {B g c n:Nat} {l:List Bx} {vs:List Value} (h:w.ownsRow B 31 4 (.slice (some ⟨g,0,none⟩) n c) n vs) (hn:n = l.length) (hv:vs = flB l):BxG w B g c l:=by
 subst hn hv;exact h
theorem BxG.typ {w:World} {B g c:Nat} {l:List Bx} (h:BxG w B g c l):B ≤ g ∧ ∃ cur,w.heap[g]? = some (.cells cur 31 (0,0)):=by
 rcases h.2 with ⟨e,_⟩ | ⟨g',c',cur,e,q1,q2,q3⟩
 ·cases e
 ·cases e;exact ⟨q1,cur,q2⟩
theorem BxG.tn {w w':World} {B C g c:Nat} {l:List Bx} (h:BxG w B g c l) (H:Tn MB C w w'):BxG w' B g c l:=by
 refine ⟨h.1,?_⟩
 rcases h.2 with hn | ⟨g',c',cur,e,q1,q2,q3⟩
 ·exact .inl hn
 ·exact .inr ⟨g',c',cur,e,q1,(H.old g' (lt_of_heap q2) (.inr (fun o ho => by rw [q2] at ho;cases ho;rfl))).trans q2,q3⟩
def BxB (W:World) (Bl B:Nat) (L:List Bx):Prop:=∃ g c,W.heap[Bl]? = some (.cells #[.slice (some ⟨g,0,none⟩) L.length c] 117 (0,0)) ∧ BxG W B g c L
theorem BxB.tn {W W':World} {Bl B C:Nat} {L:List Bx} (h:BxB W Bl B L) (H:Tn MB C W W') (hC:Bl < C):BxB W' Bl B L:=by
 obtain ⟨g,c,h1,h2⟩:=h
 exact ⟨g,c,(H.old Bl (lt_of_heap h1) (.inl hC)).trans h1,h2.tn H⟩
theorem Tryz.infoBx:(Tryz.prog.info? 31).map (fun i => (i.zero,i.size,i.bytes)) = some (some (.agg #[.int .i64 0,.int .i64 0,.int .i64 0,.int .i64 0]),4,32):=by kernel_rfl
theorem make_boxes (n:Nat) (hn:n ≤ 1099511627776) (w:World):(Instr.makeSlice 117 (.int .i64 0) (.int .i64 n)).run Tryz.prog w = .ok (.slice (some ⟨w.heap.size,0,none⟩) 0 n) (w.alloc (.cells (madeCells #[.int .i64 0,.int .i64 0,.int .i64 0,.int .i64 0] (n * 4)) 31)):=by
 obtain ⟨i0,hi0,hz0,hz1,hz2⟩:=info_parts Tryz.infoBx
 have:=run_make (P:=Tryz.prog) w 117 31 i0 _ Tryz.underlying117 hi0 hz0 .i64 .i64 0 n (by omega) (by omega) (by rw [hz2];omega) (by omega)
 rw [hz1] at this
 exact this
theorem alloc3 (W:World) (o0 o1 o2:Obj):(((W.alloc o0).alloc o1).alloc o2).heap[W.heap.size]? = some o0 ∧ (((W.alloc o0).alloc o1).alloc o2).heap[W.heap.size + 1]? = some o1 ∧ (((W.alloc o0).alloc o1).alloc o2).heap[W.heap.size + 1 + 1]? = some o2 ∧ (((W.alloc o0).alloc o1).alloc o2).heap.size = W.heap.size + 3 ∧ Below W.heap.size W (((W.alloc o0).alloc o1).alloc o2):=by
 refine ⟨?_,?_,?_,by simp,balloc (balloc (balloc (Below.refl _ W) _) _) _⟩
 ·exact old_alloc (old_alloc (new_alloc W _ _ rfl))
 ·exact old_alloc (new_alloc _ _ _ (by simp))
 ·exact new_alloc _ _ _ (by simp)
theorem impl_boxes (m lo:Nat) (t:KT) (ia ka:Option Addr) (w:World) (h:Kn lo m w ia ka t) (hz:ksz m t ≤ 1048576):Calls Tryz.prog 89 #[kvo t ia ka] w fun e w' => ∃ g c,e = .returned (.slice (some ⟨g,0,none⟩) t.bxs.length c) ∧ BxG w' w.heap.size g c t.bxs ∧ Below w.heap.size w w':=by
 obtain ⟨i0,hi0,hz0,hz1,hzz⟩:=info_parts Tryz.infoBx
 cases m with
 | zero => exact h.elim
 | succ m =>
 have hks:t.its.length + t.kids.length ≤ 1048576:=Nat.le_trans (show t.its.length + t.kids.length ≤ t.its.length + t.kids.length + (t.kids.map (ksz m)).sum by omega) hz
 have HKN:=hid h
 obtain ⟨bi,bk,rfl,rfl,_,_,hIO,_⟩:=h
 obtain ⟨b0,b1,b2,b3,b4,ni,nk,hkf⟩:=kf t
 have hkv:kvo t (some ⟨bi,0,none⟩) (some ⟨bk,0,none⟩) = .agg #[.int .i64 b0,.int .i64 b1,.int .i64 b2,.int .i64 b3,.bool b4,.slice (some ⟨bi,0,none⟩) ni ni,.slice (some ⟨bk,0,none⟩) nk nk]:=kvo_of hkf _ _
 rw [hkf.its,hkf.kids] at hks
 have hkl:t.kids.length ≤ 1099511627776:=by rw [hkf.kids];omega
 have HKV:=hid hkv
 have HIO:=hid hIO
 have HNI:=hid hkf.its
 have HNK:=hid hkf.kids
 have hadd:IntKind.i64.wrap ((ni:Int) + (nk:Int)) = ((ni + nk:Nat):Int):=by rw [IntKind.wrap_i64] <;> omega
 have hnib:ni ≤ 1048576:=by omega
 have hNib:=hid hks
 generalize hN:ni + nk = N at *
 have hN0:=hid hN
 have hmk:=make_boxes N (by omega)
 rw [hkv]
 clear hkv hIO hN hkf
 rw [← callsIn_wide (n:=10)]
 refine callsIn_of_wp_marks Tryz.func89 rfl trivial ?_ rfl
 simp only [Tryz.ntmps89,List.size_toArray,List.length_cons,List.length_nil,Nat.reduceAdd,Nat.reduceSub,Array.replicate_succ,Array.replicate_zero,List.push_toArray,List.append_toArray,List.nil_append,List.cons_append]
 gi_wp2
 obtain ⟨A0,A1,A2,hs,hB⟩:=alloc3 w (.cells #[.int .i64 b0,.int .i64 b1,.int .i64 b2,.int .i64 b3,.bool b4,.slice (some ⟨bi,0,none⟩) ni ni,.slice (some ⟨bk,0,none⟩) nk nk] 35) (.cells (madeCells #[.int .i64 0,.int .i64 0,.int .i64 0,.int .i64 0] (N * 4)) 31) (.cells #[.slice (some ⟨w.heap.size + 1,0,none⟩) 0 N] 117)
 have hG0:=World.ownsRow_made (base:=w.heap.size) (e:=31) (size:=4) (w.alloc (.cells #[.int .i64 b0,.int .i64 b1,.int .i64 b2,.int .i64 b3,.bool b4,.slice (some ⟨bi,0,none⟩) ni ni,.slice (some ⟨bk,0,none⟩) nk nk] 35)) (madeCells #[.int .i64 0,.int .i64 0,.int .i64 0,.int .i64 0] (N * 4)) N (by simp) (by unfold maxLen;omega) (size_madeCells _ _)
 rw [World.size_alloc] at hG0
 have hG1:BxG (((w.alloc (.cells #[.int .i64 b0,.int .i64 b1,.int .i64 b2,.int .i64 b3,.bool b4,.slice (some ⟨bi,0,none⟩) ni ni,.slice (some ⟨bk,0,none⟩) nk nk] 35)).alloc (.cells (madeCells #[.int .i64 0,.int .i64 0,.int .i64 0,.int .i64 0] (N * 4)) 31)).alloc (.cells #[.slice (some ⟨w.heap.size + 1,0,none⟩) 0 N] 117)) w.heap.size (w.heap.size + 1) N []:=hG0.alloc _
 generalize (((w.alloc (.cells #[.int .i64 b0,.int .i64 b1,.int .i64 b2,.int .i64 b3,.bool b4,.slice (some ⟨bi,0,none⟩) ni ni,.slice (some ⟨bk,0,none⟩) nk nk] 35)).alloc (.cells (madeCells #[.int .i64 0,.int .i64 0,.int .i64 0,.int .i64 0] (N * 4)) 31)).alloc (.cells #[.slice (some ⟨w.heap.size + 1,0,none⟩) 0 N] 117)) = v1 at *
 clear hG0 A1 hmk hadd
 have HS:=hid hs
 clear hs
 have hLI:t.ibs.length = ni:=by unfold KT.ibs;rw [List.length_map];exact HNI.out
 have hLK:t.kbs.length = nk:=by unfold KT.kbs;rw [List.length_map];exact HNK.out
 have HLI:=hid hLI
 have HLK:=hid hLK
 clear hLI hLK
 gi_loopw [18] (fun i X => ∃ k:Nat,k ≤ ni ∧ i = .int .i64 k ∧ Hid (BxB X (w.heap.size + 1 + 1) w.heap.size (t.ibs.take k)) ∧ Hid (X.heap[w.heap.size]? = some (.cells #[.int .i64 b0,.int .i64 b1,.int .i64 b2,.int .i64 b3,.bool b4,.slice (some ⟨bi,0,none⟩) ni ni,.slice (some ⟨bk,0,none⟩) nk nk] 35 (0,0))) ∧ Hid (Below w.heap.size w X)) (fun i _ => ni - (intOf i).toNat)
 case atStart => exact ⟨0,Nat.zero_le _,rfl,hid ⟨w.heap.size + 1,N,A2,hG1⟩,hid A0,hid hB⟩
 case round =>
  clear A0 A2 hG1 hB HS v1
  obtain ⟨k,hk,rfl,HBX,HT,HB⟩:=hrel
  by_cases hlt:k < ni
  ·have c1:(k:Int) < (ni:Int):=by omega
   have hkt:k < t.its.length:=by rw [HNI.out];exact hlt
   have hki:k < t.ibs.length:=by rw [HLI.out];exact hlt
   obtain ⟨y0,y1,y2,y3,y4⟩:=((HIO.out.2.1 k hkt).below HIO.out.1 HB.out).item
   have hnx:t.ibs.take (k + 1) = t.ibs.take k ++ [t.its[k].2]:=by
    rw [List.take_add_one,List.getElem?_eq_getElem hki,Option.toList_some]
    congr 2
    exact List.getElem_map (fun x:It => x.2)
   have hpl:(t.ibs.take k).length = k:=by rw [List.length_take,HLI.out];exact Nat.min_eq_left hk
   have HPL:=hid hpl
   have HNX:=hid hnx
   clear hnx hpl
   generalize t.ibs.take k = P at *
   generalize hxx:t.its[k].2 = xx at *
   clear hxx
   generalize hid0:t.its[k].1 = iid at *
   clear hid0
   obtain ⟨g,c,hb1,hg1⟩:=HBX.out
   have z1:=(cell1k hb1).1
   obtain ⟨hgl,cur,hgt⟩:=hg1.typ
   have hne:g ≠ w.heap.size + 1 + 1:=fun e => by rw [e,hb1] at hgt;cases hgt
   have hsX:=HB.out.size
   have hPn:P.length ≤ 1048576:=by rw [HPL.out];omega
   obtain ⟨x0,x1,x2,x3⟩:=xx
   simp only [] at y1 y2 y3 y4
   replace z1:=(cell1k (old_alloc (o':=.cells #[.int .i64 iid,.int .i64 x0,.int .i64 x1,.int .i64 x2,.int .i64 x3] 40) hb1)).1
   have HGW:Hid (((wr.alloc (.cells #[.int .i64 iid,.int .i64 x0,.int .i64 x1,.int .i64 x2,.int .i64 x3] 40)).alloc (.cells #[.int .i64 x0,.int .i64 x1,.int .i64 x2,.int .i64 x3] 31)).ownsRow w.heap.size 31 4 (.slice (some ⟨g,0,none⟩) P.length c) P.length (flB P)):=hid ((hg1.alloc _).alloc _)
   have hnew:((wr.alloc (.cells #[.int .i64 iid,.int .i64 x0,.int .i64 x1,.int .i64 x2,.int .i64 x3] 40)).alloc (.cells #[.int .i64 x0,.int .i64 x1,.int .i64 x2,.int .i64 x3] 31)).heap[wr.heap.size + 1]? = some (.cells #[.int .i64 x0,.int .i64 x1,.int .i64 x2,.int .i64 x3] 31 (0,0)):=new_alloc _ _ _ (by simp)
   have hbl0:((wr.alloc (.cells #[.int .i64 iid,.int .i64 x0,.int .i64 x1,.int .i64 x2,.int .i64 x3] 40)).alloc (.cells #[.int .i64 x0,.int .i64 x1,.int .i64 x2,.int .i64 x3] 31)).heap[w.heap.size + 1 + 1]? = some (.cells #[.slice (some ⟨g,0,none⟩) P.length c] 117 (0,0)):=old_alloc (old_alloc hb1)
   have ht0:((wr.alloc (.cells #[.int .i64 iid,.int .i64 x0,.int .i64 x1,.int .i64 x2,.int .i64 x3] 40)).alloc (.cells #[.int .i64 x0,.int .i64 x1,.int .i64 x2,.int .i64 x3] 31)).heap[w.heap.size]? = some (.cells #[.int .i64 b0,.int .i64 b1,.int .i64 b2,.int .i64 b3,.bool b4,.slice (some ⟨bi,0,none⟩) ni ni,.slice (some ⟨bk,0,none⟩) nk nk] 35 (0,0)):=old_alloc (old_alloc HT.out)
   have hB0:Below w.heap.size w ((wr.alloc (.cells #[.int .i64 iid,.int .i64 x0,.int .i64 x1,.int .i64 x2,.int .i64 x3] 40)).alloc (.cells #[.int .i64 x0,.int .i64 x1,.int .i64 x2,.int .i64 x3] 31)):=balloc (balloc HB.out _) _
   have hsX2:=hB0.size
   have hgW:g ≠ w.heap.size:=fun e => by rw [e,HT.out] at hgt;cases hgt
   have HNW:=hid hnew
   have HBL0:=hid hbl0
   have HT0:=hid ht0
   have HB0:=hid hB0
   clear hnew hbl0 ht0 hB0
   gi_wp2_with (gi_at_builtin;refine wpListIn_append_own _ rfl (.tmp 22) (.tmp 25) 117 rfl w.heap.size 31 i0 _ 4 32 Tryz.underlying117 hi0 hz0 hz1 hzz rfl (by decide) (.slice (some ⟨g,0,none⟩) P.length c) P.length (flB P) (by rfl) HGW.out ⟨wr.heap.size + 1,0,none⟩ 1 1 [.int .i64 x0,.int .i64 x1,.int .i64 x2,.int .i64 x3] (by rfl) (by rfl) (World.news_of_block (cs:=#[.int .i64 x0,.int .i64 x1,.int .i64 x2,.int .i64 x3]) (t:=31) (fr:=(0,0)) HNW.out) (by simp [Value.oneCell']) (by unfold maxLen;omega) (by omega) hsX2 ?_;intro v' w1 hown hgrow hiff;obtain ⟨g',c',rfl⟩:=owned_at hown hiff;have hbl1:w1.heap[w.heap.size + 1 + 1]? = some (.cells #[.slice (some ⟨g,0,none⟩) P.length c] 117 (0,0)):=(hgrow.block _ (lt_of_heap HBL0.out) (by simp [Value.ownBlock];omega)).trans HBL0.out;obtain ⟨u1,uf1⟩:=cell1k hbl1)
   have hg2:BxG w1 w.heap.size g' c' (P ++ [(x0,x1,x2,x3)]):=ofB hown (by rw [List.length_append];rfl) (by rw [flB_app];rfl)
   have hs2:(w1.setCell ⟨w.heap.size + 1 + 1,0,none⟩ (.slice (some ⟨g',0,none⟩) (P.length + 1) c')).heap[w.heap.size + 1 + 1]? = some (.cells #[.slice (some ⟨g',0,none⟩) (P.length + 1) c'] 117 (0,0)):=set_at hbl1
   have hg3:BxG (w1.setCell ⟨w.heap.size + 1 + 1,0,none⟩ (.slice (some ⟨g',0,none⟩) (P.length + 1) c')) w.heap.size g' c' (P ++ [(x0,x1,x2,x3)]):=World.ownsRow.kept hg2 (grownBy_setCell' w1 _ _) (.inr (by
    obtain ⟨_,cur',hgt'⟩:=hg2.typ
    simp only [Value.ownBlock,ne_eq,Option.some.injEq]
    intro e
    rw [e,hbl1] at hgt';cases hgt'))
   have ht2:(w1.setCell ⟨w.heap.size + 1 + 1,0,none⟩ (.slice (some ⟨g',0,none⟩) (P.length + 1) c')).heap[w.heap.size]? = some (.cells #[.int .i64 b0,.int .i64 b1,.int .i64 b2,.int .i64 b3,.bool b4,.slice (some ⟨bi,0,none⟩) ni ni,.slice (some ⟨bk,0,none⟩) nk nk] 35 (0,0)):=(Below.heap_setCell _ _ _ _ (by dsimp only;omega)).trans ((hgrow.block _ (lt_of_heap HT0.out) (by simp [Value.ownBlock];omega)).trans HT0.out)
   have hB2:Below w.heap.size w (w1.setCell ⟨w.heap.size + 1 + 1,0,none⟩ (.slice (some ⟨g',0,none⟩) (P.length + 1) c')):=(HB0.out.grown hgrow hsX2 (fun r e => by cases e;exact hgl)).setCell (by dsimp only;omega) _
   go_roundw
   case rel => exact ⟨k + 1,by omega,by go_num,hid ⟨g',c',by rw [HNX.out,List.length_append];exact hs2,by rw [HNX.out];exact hg3⟩,hid ht2,hid hB2⟩
   case measure => simp [intOf];omega
  ·have c1:(ni:Int) ≤ (k:Int):=by omega
   have hall:t.ibs.take k = t.ibs:=List.take_of_length_le (by rw [HLI.out];omega)
   rw [hall] at HBX
   have hTO:=HT.out
   obtain ⟨z0,z1,z2,z3,z4,z5,z6,_,_,_,_,_,_,_⟩:=cell7k hTO
   have hB:=HB.out
   have h2:=HBX.out
   obtain ⟨gg0,cc0,hbb0,_⟩:=HBX.out
   have hZ:w.heap.size + 1 + 1 < wr.heap.size:=lt_of_heap hbb0
   gi_wp2
   clear z0 z1 z2 z3 z4 z5 z6 hall
   refine wpIn_rangeN rfl (fun h => by cases h) (first:=#[kvo t (some ⟨bi,0,none⟩) (some ⟨bk,0,none⟩)]) (lb:=#[]) (by rw [HKV.out];rfl) trivial (enters_of Tryz.func79 (by kernel_rfl) rfl) (fun _ => rfl) (fun _ => rfl) (eachKid_seq Fence.wide 9 trivial rfl (by omega) MB lo m t _ _ w HKN.out hkl) hB hB.size
    (fun k X => BxB X (w.heap.size + 1 + 1) w.heap.size (t.ibs ++ t.kbs.take k) ∧ Below w.heap.size w X)
    (fun c k X => False)
    (fun _ _ _ => trivial) ?hI ?hIx ?h0
    (RdAx lo wr.heap.size w t.kids (fun k X => BxB X (w.heap.size + 1 + 1) w.heap.size (t.ibs ++ t.kbs.take k) ∧ Below w.heap.size w X) (fun Bx vv => #[.agg #[.int .i64 b0,.int .i64 b1,.int .i64 b2,.int .i64 b3,.bool b4,.slice (some ⟨bi,0,none⟩) ni ni,.slice (some ⟨bk,0,none⟩) nk nk],.pointer (some ⟨w.heap.size,0,none⟩),.slice none 0 0,.pointer (some ⟨w.heap.size + 1 + 1,0,none⟩),undef,u5,.pointer (some ⟨Bx,0,none⟩),.pointer (some ⟨w.heap.size,5,none⟩),.slice (some ⟨bi,0,none⟩) ni ni,.int .i64 ni,.pointer (some ⟨w.heap.size,6,none⟩),.slice (some ⟨bk,0,none⟩) nk nk,.int .i64 nk,.int .i64 N,.slice (some ⟨w.heap.size + 1,0,none⟩) 0 N,.pointer (some ⟨w.heap.size,5,none⟩),.slice (some ⟨bi,0,none⟩) ni ni,.int .i64 ni,.int .i64 k,.bool false,u20,u21,u22,u23,u24,u25,u26,u27,.agg #[.int .i64 b0,.int .i64 b1,.int .i64 b2,.int .i64 b3,.bool b4,.slice (some ⟨bi,0,none⟩) ni ni,.slice (some ⟨bk,0,none⟩) nk nk],.func (.func 79) #[.agg #[.int .i64 b0,.int .i64 b1,.int .i64 b2,.int .i64 b3,.bool b4,.slice (some ⟨bi,0,none⟩) ni ni,.slice (some ⟨bk,0,none⟩) nk nk]] #[],vv,undef,undef,undef,undef,undef,undef]))
    ?hAx ?assign ?body ?done ?stop
   case hI =>
    rintro k X Y ⟨h1,h3⟩ ht
    exact ⟨h1.tn ht hZ,h3.trans (ht.below hB.size h3.size)⟩
   case hIx => exact fun c k X Y h _ => h.elim
   case h0 => exact ⟨by rw [List.take_zero,List.append_nil];exact h2,hB⟩
   case hAx =>
    rintro k a' X l' r r' HH hl' hle'
    refine RdAx.putR (M:=MB) (fun _ => rfl) ?_ HH hl' hle'
    rintro k X Y ⟨h1,h3⟩ ht
    exact ⟨h1.tn ht hZ,h3.trans (ht.below hB.size h3.size)⟩
   case assign =>
    rintro l' k v X hk ⟨h1,h3⟩ ⟨hk',ia',ka',rfl,hkn⟩ hsX hbX
    obtain ⟨c0,c1,c2,c3,c4,mi,mk,hf⟩:=kf t.kids[k]
    rw [kvo_of hf]
    gi_wp2
    have hBA:Below X.heap.size X (X.alloc (.cells #[.int .i64 c0,.int .i64 c1,.int .i64 c2,.int .i64 c3,.bool c4,.slice ia' mi mi,.slice ka' mk mk] 35)):=balloc (Below.refl X.heap.size X) _
    have ht:=Tn.of_below (M:=MB) (B:=wr.heap.size) hBA
    exact ⟨Kp.of_below hBA h3.size,X.heap.size,m,ia',ka',hk',c0,c1,c2,c3,c4,mi,mk,hf,new_alloc _ _ _ rfl,hsX,hkn,⟨h1.tn ht hZ,h3.trans (ht.below hB.size h3.size)⟩,rfl⟩
   case body =>
    rintro l' k' a' X hk' ⟨Bx,m',ia',ka',hk2,c0,c1,c2,c3,c4,mi,mk,hf,hbx,hle,hkn,⟨⟨g,c,hb1,hg1⟩,h3⟩,rfl⟩
    clear hkn
    have hki:k' < t.kbs.length:=by rw [HLK.out,← HNK.out];exact hk2
    have hnx:t.ibs ++ t.kbs.take (k' + 1) = t.ibs ++ t.kbs.take k' ++ [(c0,c1,c2,c3)]:=by
     rw [List.take_add_one,List.getElem?_eq_getElem hki,Option.toList_some,List.append_assoc]
     congr 3
     have e:t.kbs[k'] = t.kids[k'].box:=List.getElem_map KT.box
     rw [e,← hf.x0,← hf.x1,← hf.x2,← hf.x3]
    have hpl:(t.ibs ++ t.kbs.take k').length ≤ 1048576:=by
     have:=HNK.out
     have:=hN0.out
     rw [List.length_append,HLI.out,List.length_take]
     omega
    have HNX:=hid hnx
    clear hnx hf
    generalize hP:t.ibs ++ t.kbs.take k' = P at *
    clear hP
    have hsX:=h3.size
    obtain ⟨z0,z1,z2,z3,z4,z5,z6,_,_,_,_,_,_,_⟩:=cell7k hbx
    obtain ⟨y0,yf⟩:=cell1k hb1
    obtain ⟨hgl,cur,hgt⟩:=hg1.typ
    have hne:g ≠ w.heap.size + 1 + 1:=fun e => by rw [e,hb1] at hgt;cases hgt
    have HGW:Hid ((X.alloc (.cells #[.int .i64 c0,.int .i64 c1,.int .i64 c2,.int .i64 c3] 31)).ownsRow w.heap.size 31 4 (.slice (some ⟨g,0,none⟩) P.length c) P.length (flB P)):=hid (hg1.alloc _)
    have HNW:=hid (new_alloc X X.heap.size (.cells #[.int .i64 c0,.int .i64 c1,.int .i64 c2,.int .i64 c3] 31) rfl)
    have HBL0:=hid (old_alloc (o':=.cells #[.int .i64 c0,.int .i64 c1,.int .i64 c2,.int .i64 c3] 31) hb1)
    have hB0:=balloc (Below.refl X.heap.size X) (.cells #[.int .i64 c0,.int .i64 c1,.int .i64 c2,.int .i64 c3] 31)
    have hsX2:w.heap.size ≤ (X.alloc (.cells #[.int .i64 c0,.int .i64 c1,.int .i64 c2,.int .i64 c3] 31)).heap.size:=Nat.le_trans hsX hB0.size
    have HB0:=hid hB0
    clear hB0
    simp only []
    gi_wp2_with (gi_at_builtin;refine wpListIn_append_own _ rfl (.tmp 31) (.tmp 34) 117 rfl w.heap.size 31 i0 _ 4 32 Tryz.underlying117 hi0 hz0 hz1 hzz rfl (by decide) (.slice (some ⟨g,0,none⟩) P.length c) P.length (flB P) (by rfl) HGW.out ⟨X.heap.size,0,none⟩ 1 1 [.int .i64 c0,.int .i64 c1,.int .i64 c2,.int .i64 c3] (by rfl) (by rfl) (World.news_of_block (cs:=#[.int .i64 c0,.int .i64 c1,.int .i64 c2,.int .i64 c3]) (t:=31) (fr:=(0,0)) HNW.out) (by simp [Value.oneCell']) (by unfold maxLen;omega) (by omega) hsX2 ?_;intro v' w1 hown hgrow hiff;obtain ⟨g',c',rfl⟩:=owned_at hown hiff;have hbl1:w1.heap[w.heap.size + 1 + 1]? = some (.cells #[.slice (some ⟨g,0,none⟩) P.length c] 117 (0,0)):=(hgrow.block _ (lt_of_heap HBL0.out) (by simp [Value.ownBlock];omega)).trans HBL0.out;obtain ⟨u1,uf1⟩:=cell1k hbl1)
    have hg2:BxG w1 w.heap.size g' c' (P ++ [(c0,c1,c2,c3)]):=ofB hown (by rw [List.length_append];rfl) (by rw [flB_app];rfl)
    have hk1:Kp MB wr.heap.size w.heap.size X w1:=((Kp.refl _ _ _ _).belowR HB0.out hsX).grown hgrow hsX2 (fun r e => by
     cases e
     exact ⟨hgl,.inr (fun o ho => by
      have:=old_alloc (o':=.cells #[.int .i64 c0,.int .i64 c1,.int .i64 c2,.int .i64 c3] 31) hgt
      rw [this] at ho;cases ho;rfl)⟩)
    refine ⟨hk1.set _ (by dsimp only;omega) (.inl (by dsimp only;omega)),⟨g',c',?_,?_⟩,(h3.trans hk1.below).setCell (by dsimp only;omega) _⟩
    ·rw [HNX.out,List.length_append]
     exact set_at hbl1
    ·rw [HNX.out]
     obtain ⟨_,cur',hgt'⟩:=hg2.typ
     exact World.ownsRow.kept hg2 (grownBy_setCell' w1 _ _) (.inr (by
      simp only [Value.ownBlock,ne_eq,Option.some.injEq]
      intro e
      rw [e,hbl1] at hgt';cases hgt'))
   case done =>
    rintro X ⟨⟨g,c,hb1,hg1⟩,h3⟩ hD hbX
    have hfin:t.ibs ++ t.kbs.take t.kids.length = t.bxs:=by
     rw [List.take_of_length_le (by rw [HLK.out,HNK.out];exact Nat.le_refl _)];rfl
    rw [hfin] at hb1 hg1
    obtain ⟨y0,yf⟩:=cell1k hb1
    gi_wp2
    refine ⟨by simp,.inl ⟨_,_,rfl,run_takeDeferred hD,?_⟩⟩
    have ht:Tn MB wr.heap.size X (X.putObj wr.heap.size (.deferred none)):=Tn.put _ hD rfl (Nat.le_refl _)
    exact ⟨_,results_tmp rfl _ _ _,g,c,rfl,hg1.tn ht,h3.trans (ht.below hB.size h3.size)⟩
   case stop => exact fun c k X _ h => h.elim
end Go.Proofs.YtjahlofahjgdbaaGreat
