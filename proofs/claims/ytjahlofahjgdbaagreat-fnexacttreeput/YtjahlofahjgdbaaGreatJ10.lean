/- Texts of stores, joined: Fs, Ft, Fl. -/
import Derived.Test.YtjahlofahjgdbaaGreatJ9
set_option maxRecDepth 100000
set_option maxHeartbeats 4000000
set_option linter.unusedSimpArgs false
set_option linter.unusedVariables false
namespace Go.Proofs.YtjahlofahjgdbaaGreat
open Go.RowKit Go.Shelf
attribute [local go_sem] Oper.semAt_some
def MT:Obj → Bool
 | .cells _ t _ => t != 40
 | _ => true
theorem round_wide {n n':Nat} {P:Program} {l:Nat} {f:FuncId} {tmps:Array Value} {assign body:Code} {w:World} {R:Ending → World → Prop} (h:RoundIn Fence.wide n P l f tmps assign body w R):RoundIn Fence.wide n' P l f tmps assign body w R:=
 ⟨h.1,fun c cs _ => h.2 c cs (room_wide _)⟩
def kof (p:KT → Bool) (d:Nat) (t:KT) (k:Nat):Nat:=(((t.kids.take k).filter p).flatMap (kns p d)).length
theorem kof_next (p:KT → Bool) (d:Nat) (t:KT) (k:Nat) (h:k < t.kids.length):kof p d t (k + 1) = kof p d t k + (if p t.kids[k] then (kns p d t.kids[k]).length else 0):=by
 unfold kof
 rw [List.take_add_one,List.getElem?_eq_getElem h,Option.toList_some,List.filter_append,List.flatMap_append,List.length_append]
 congr 1
 by_cases hp:p t.kids[k] = true
 ·rw [if_pos hp,List.filter_cons_of_pos hp];simp
 ·rw [if_neg hp,List.filter_cons_of_neg hp];simp
theorem kof_all (p:KT → Bool) (d:Nat) (t:KT):1 + kof p d t t.kids.length = (kns p (d + 1) t).length:=by
 unfold kof
 rw [List.take_length]
 show _ = (t :: _).length
 rw [List.length_cons];omega
theorem take_split {α:Type} (l:List α) (k:Nat) (h:k < l.length):l = l.take k ++ l[k] :: l.drop (k + 1):=by
 have:=(List.take_append_drop k l).symm
 rw [List.drop_eq_getElem_cons h] at this
 exact this
theorem kof_at (p:KT → Bool) (d:Nat) (t:KT) (k:Nat) (h:k < t.kids.length) (hp:p t.kids[k] = true) (i:Nat) (hi:i < (kns p d t.kids[k]).length):∃ hj:1 + kof p d t k + i < (kns p (d + 1) t).length,(kns p (d + 1) t)[1 + kof p d t k + i] = (kns p d t.kids[k])[i]:=by
 have e:kns p (d + 1) t = t :: ((((t.kids.take k).filter p).flatMap (kns p d)) ++ ((kns p d t.kids[k]) ++ ((t.kids.drop (k + 1)).filter p).flatMap (kns p d))):=by
  show t :: (t.kids.filter p).flatMap (kns p d) = _
  conv => lhs;rw [take_split t.kids k h]
  rw [List.filter_append,List.filter_cons_of_pos hp,List.flatMap_append,List.flatMap_cons]
 have hl:1 + kof p d t k + i < (kns p (d + 1) t).length:=by
  rw [e]
  simp only [List.length_cons,List.length_append]
  unfold kof
  omega
 refine ⟨hl,?_⟩
 have:(kns p (d + 1) t)[1 + kof p d t k + i]? = some (kns p d t.kids[k])[i]:=by
  rw [e,show 1 + kof p d t k + i = (kof p d t k + i) + 1 by omega,List.getElem?_cons_succ,List.getElem?_append_right (by unfold kof;omega),List.getElem?_append_left (by unfold kof;omega)]
  unfold kof
  rw [show ((((t.kids.take k).filter p).flatMap (kns p d)).length + i - (((t.kids.take k).filter p).flatMap (kns p d)).length) = i by omega]
  exact List.getElem?_eq_getElem hi
 exact (List.getElem?_eq_some_iff.1 this).2
theorem alloc5 (W:World) (o0 o1 o2 o3 o4:Obj):(((((W.alloc o0).alloc o1).alloc o2).alloc o3).alloc o4).heap[W.heap.size]? = some o0 ∧ (((((W.alloc o0).alloc o1).alloc o2).alloc o3).alloc o4).heap[W.heap.size + 1]? = some o1 ∧ (((((W.alloc o0).alloc o1).alloc o2).alloc o3).alloc o4).heap[W.heap.size + 1 + 1]? = some o2 ∧ (((((W.alloc o0).alloc o1).alloc o2).alloc o3).alloc o4).heap[W.heap.size + 1 + 1 + 1]? = some o3 ∧ (((((W.alloc o0).alloc o1).alloc o2).alloc o3).alloc o4).heap[W.heap.size + 1 + 1 + 1 + 1]? = some o4 ∧ (((((W.alloc o0).alloc o1).alloc o2).alloc o3).alloc o4).heap.size = W.heap.size + 5 ∧ Below W.heap.size W (((((W.alloc o0).alloc o1).alloc o2).alloc o3).alloc o4):=by
 refine ⟨?_,?_,?_,?_,?_,by simp,balloc (balloc (balloc (balloc (balloc (Below.refl _ W) _) _) _) _) _⟩
 ·exact old_alloc (old_alloc (old_alloc (old_alloc (new_alloc W _ _ rfl))))
 ·exact old_alloc (old_alloc (old_alloc (new_alloc _ _ _ (by simp))))
 ·exact old_alloc (old_alloc (new_alloc _ _ _ (by simp)))
 ·exact old_alloc (new_alloc _ _ _ (by simp))
 ·exact new_alloc _ _ _ (by simp)
structure EB (W:World) (q0 q1 q2 q3 q4:Nat) (b0 b1 b2 b3:Int) (b4:Bool) (ni nk:Nat) (ia ka:Option Addr) (d:Int) (fe fy:Value) (u:Bool):Prop where
 t:W.heap[q0]? = some (.cells #[.int .i64 b0,.int .i64 b1,.int .i64 b2,.int .i64 b3,.bool b4,.slice ia ni ni,.slice ka nk nk] 35 (0,0))
 d:W.heap[q1]? = some (.cells #[.int .i64 d] 3 (0,0))
 e:W.heap[q2]? = some (.cells #[fe] 54 (0,0))
 y:W.heap[q3]? = some (.cells #[fy] 54 (0,0))
 r:W.heap[q4]? = some (.cells #[.bool u] 4 (0,0))
structure QS (s q1 q2 q3 q4:Nat):Prop where
 h1:q1 = s + 1
 h2:q2 = s + 2
 h3:q3 = s + 3
 h4:q4 = s + 4
theorem EB.kp {B n:Nat} {W W':World} {s q1 q2 q3 q4:Nat} {b0 b1 b2 b3:Int} {b4:Bool} {ni nk:Nat} {ia ka:Option Addr} {d:Int} {fe fy:Value} {u:Bool} (h:EB W s q1 q2 q3 q4 b0 b1 b2 b3 b4 ni nk ia ka d fe fy u) (k:Kp MT B n W W') (hB:B ≤ s) (Q:QS s q1 q2 q3 q4):EB W' s q1 q2 q3 q4 b0 b1 b2 b3 b4 ni nk ia ka d fe fy u:=by
 obtain ⟨h1,h2,h3,h4⟩:=Q
 exact ⟨k.mine _ _ hB h.t rfl,k.mine _ _ (by omega) h.d rfl,k.mine _ _ (by omega) h.e rfl,k.mine _ _ (by omega) h.y rfl,k.mine _ _ (by omega) h.r rfl⟩
theorem EB.tn {B:Nat} {W W':World} {s q1 q2 q3 q4:Nat} {b0 b1 b2 b3:Int} {b4:Bool} {ni nk:Nat} {ia ka:Option Addr} {d:Int} {fe fy:Value} {u:Bool} (h:EB W s q1 q2 q3 q4 b0 b1 b2 b3 b4 ni nk ia ka d fe fy u) (k:Tn MT B W W') (hB:s + 5 ≤ B) (Q:QS s q1 q2 q3 q4):EB W' s q1 q2 q3 q4 b0 b1 b2 b3 b4 ni nk ia ka d fe fy u:=by
 obtain ⟨h1,h2,h3,h4⟩:=Q
 exact ⟨(k.old _ (lt_of_heap h.t) (.inl (by omega))).trans h.t,(k.old _ (lt_of_heap h.d) (.inl (by omega))).trans h.d,(k.old _ (lt_of_heap h.e) (.inl (by omega))).trans h.e,(k.old _ (lt_of_heap h.y) (.inl (by omega))).trans h.y,(k.old _ (lt_of_heap h.r) (.inl (by omega))).trans h.r⟩
theorem EB.setr {W:World} {s q1 q2 q3 q4:Nat} {b0 b1 b2 b3:Int} {b4:Bool} {ni nk:Nat} {ia ka:Option Addr} {d:Int} {fe fy:Value} {u:Bool} (h:EB W s q1 q2 q3 q4 b0 b1 b2 b3 b4 ni nk ia ka d fe fy u) (Q:QS s q1 q2 q3 q4) (u':Bool):EB (W.setCell ⟨q4,0,none⟩ (.bool u')) s q1 q2 q3 q4 b0 b1 b2 b3 b4 ni nk ia ka d fe fy u':=by
 obtain ⟨h1,h2,h3,h4⟩:=Q
 exact ⟨(Below.heap_setCell _ _ _ _ (by dsimp only;omega)).trans h.t,(Below.heap_setCell _ _ _ _ (by dsimp only;omega)).trans h.d,(Below.heap_setCell _ _ _ _ (by dsimp only;omega)).trans h.e,(Below.heap_setCell _ _ _ _ (by dsimp only;omega)).trans h.y,set_at h.r⟩
theorem cell1k {w:World} {p:Nat} {v:Value} {t:TypeId} (h:w.heap[p]? = some (.cells #[v] t (0,0))):w.cell? ⟨p,0,none⟩ = some v ∧ w.frozen? ⟨p,0,none⟩ = false:=by
 refine ⟨?_,?_⟩ <;> simp [World.cell?,World.frozen?,h]
def KS (lo:Nat) (w0:World) (s:KT) (v:Value):Prop:=∃ (m:Nat) (ia ka:Option Addr),v = kvo s ia ka ∧ Kn lo m w0 ia ka s
theorem each_c (ge:Nat) (lb:Array Value) (eg:∀ args w,(callFunc ge args).run Tryz.prog w = .ok (.enter ge args) w) (ent:KT → Bool) (lo:Nat) (w0:World) (l:Nat) (B:Nat) (hB0:w0.heap.size ≤ B):∀ (d:Nat),d ≤ 20 → ∀ (m:Nat) (t:KT) (ia ka:Option Addr) (W:World) (J Jx:Nat → World → Prop),Kn lo m w0 ia ka t → ksz m t ≤ 1048576 → Below w0.heap.size w0 W → B ≤ W.heap.size → Ab MT B J → Ab MT B Jx →
  (∀ k v W1,(hk:k < (kns ent d t).length) → J k W1 → KS lo w0 (kns ent d t)[k] v → Below w0.heap.size w0 W1 → YieldAt Fence.wide 9 Tryz.prog l #[v] W1 fun e W' => ((e = .returned (.bool true) ∧ J (k + 1) W') ∨ (e = .returned (.bool false) ∧ Jx k W')) ∧ Kp MT B w0.heap.size W1 W') →
  (∀ k s v W1,J k W1 → KS lo w0 s v → Below w0.heap.size w0 W1 → Calls Tryz.prog ge (#[v] ++ lb) W1 fun e W' => e = .returned (.bool (ent s)) ∧ Below W1.heap.size W1 W') →
  J 0 W →
  Calls Tryz.prog 93 #[kvo t ia ka,.int .i64 d,.func (.func ge) #[] lb,.func (.yield l) #[] #[]] W fun e W' => ((e = .returned (.bool true) ∧ J (kns ent d t).length W') ∨ (e = .returned (.bool false) ∧ ∃ k,k < (kns ent d t).length ∧ Jx k W')) ∧ Kp MT B w0.heap.size W W':=by
 intro d
 induction d with
 | zero =>
  intro _ m t ia ka W J Jx h hz hW hB hJ hJx hY hE h0
  obtain ⟨b0,b1,b2,b3,b4,ni,nk,hkf⟩:=kf t
  obtain ⟨dz,hdz⟩:∃ dz:Int,dz = ((0:Nat):Int):=⟨_,rfl⟩
  rw [← hdz]
  have hz0:(dz == 0) = true:=by rw [hdz];rfl
  clear hdz
  obtain ⟨A0,A1,A2,A3,A4,A6,A7⟩:=alloc5 W (.cells #[.int .i64 b0,.int .i64 b1,.int .i64 b2,.int .i64 b3,.bool b4,.slice ia ni ni,.slice ka nk nk] 35) (.cells #[.int .i64 dz] 3) (.cells #[.func (.func ge) #[] lb] 54) (.cells #[.func (.yield l) #[] #[]] 54) (.cells #[.bool false] 4)
  obtain ⟨fn,tmps,assign,body,hy,hR⟩:=hY 0 (kvo t ia ka) _ (Nat.zero_lt_one) (hJ _ _ _ h0 (Tn.of_below A7)) ⟨m,ia,ka,rfl,h⟩ (hW.trans (A7.mono hW.size))
  have HR:=hid (round_wide (n':=9) hR)
  have EB0:EB _ W.heap.size (W.heap.size + 1) (W.heap.size + 1 + 1) (W.heap.size + 1 + 1 + 1) (W.heap.size + 1 + 1 + 1 + 1) _ _ _ _ _ _ _ _ _ _ _ _ _:=⟨A0,A1,A2,A3,A4⟩
  have QS0:QS W.heap.size (W.heap.size + 1) (W.heap.size + 1 + 1) (W.heap.size + 1 + 1 + 1) (W.heap.size + 1 + 1 + 1 + 1):=⟨rfl,rfl,rfl,rfl⟩
  have HE0:=hid EB0
  have HQ:=hid QS0
  have HB7:=hid A7
  have HS7:=hid A6
  rw [kvo_of hkf] at hy ⊢
  clear hR A0 A1 A2 A3 A4 A6 A7 EB0 QS0
  rw [← callsIn_wide (n:=10)]
  refine callsIn_of_wp_marks Tryz.func93 rfl trivial ?_ rfl
  simp only [Tryz.ntmps93,List.size_toArray,List.length_cons,List.length_nil,Nat.reduceAdd,Nat.reduceSub,Array.replicate_succ,Array.replicate_zero,List.push_toArray,List.append_toArray,List.nil_append,List.cons_append]
  gi_wp2
  clear hy
  generalize W.heap.size + 1 + 1 + 1 + 1 = q4 at *
  generalize W.heap.size + 1 + 1 + 1 = q3 at *
  generalize W.heap.size + 1 + 1 = q2 at *
  generalize W.heap.size + 1 = q1 at *
  refine HR.out.mono ?_
  clear HR
  rintro e W1 ⟨(⟨rfl,hJ1⟩ | ⟨rfl,hJ1⟩),hk1⟩
  ·have u1:=HE0.out.kp hk1 hB HQ.out
   obtain ⟨r0,rf⟩:=cell1k u1.r
   obtain ⟨hqa,hqb⟩:W.heap.size ≤ q4 ∧ q4 < W.heap.size + 5:=by have:=HQ.out.h4;omega
   have hkW:Kp MT B w0.heap.size W W1:=((Kp.refl MT B w0.heap.size W).belowR HB7.out hW.size).trans hk1
   have j3:=hJ _ _ _ hJ1 (Tn.set (p:=⟨q4,0,none⟩) (.bool true) u1.r rfl (by dsimp only;omega))
   obtain ⟨r1,_⟩:=cell1k (u1.setr HQ.out true).r
   obtain ⟨d0,_⟩:=cell1k u1.d
   gi_wp2
   refine ⟨.bool true,by simp [results,Tryz.results93,go_sem,r1],.inl ⟨rfl,j3⟩,hkW.set _ (by dsimp only;omega) (.inr (.inl (by dsimp only;omega)))⟩
  ·have u1:=HE0.out.kp hk1 hB HQ.out
   obtain ⟨r0,rf⟩:=cell1k u1.r
   obtain ⟨hqa,hqb⟩:W.heap.size ≤ q4 ∧ q4 < W.heap.size + 5:=by have:=HQ.out.h4;omega
   have hkW:Kp MT B w0.heap.size W W1:=((Kp.refl MT B w0.heap.size W).belowR HB7.out hW.size).trans hk1
   have j3:=hJx _ _ _ hJ1 (Tn.set (p:=⟨q4,0,none⟩) (.bool false) u1.r rfl (by dsimp only;omega))
   obtain ⟨r1,_⟩:=cell1k (u1.setr HQ.out false).r
   gi_wp2
   refine ⟨.bool false,by simp [results,Tryz.results93,go_sem,r1],.inr ⟨rfl,0,Nat.zero_lt_one,j3⟩,hkW.set _ (by dsimp only;omega) (.inr (.inl (by dsimp only;omega)))⟩
 | succ d IH =>
  intro hd m t ia ka W J Jx h hz hW hB hJ hJx hY hE h0
  cases m with
  | zero => exact h.elim
  | succ m =>
  have hks:∀ k (hk:k < t.kids.length),ksz m t.kids[k] ≤ 1048576:=fun k hk => Nat.le_trans (ksz_kid (List.getElem_mem hk)) hz
  have hkl:t.kids.length ≤ 1048576:=Nat.le_trans (show t.kids.length ≤ t.its.length + t.kids.length + (t.kids.map (ksz m)).sum by omega) hz
  obtain ⟨b0,b1,b2,b3,b4,ni,nk,hkf⟩:=kf t
  obtain ⟨dz,hdz⟩:∃ dz:Int,dz = ((d + 1:Nat):Int):=⟨_,rfl⟩
  rw [← hdz]
  have hz0:¬ dz = 0:=by omega
  have hz1:IntKind.i64.wrap (dz - 1) = (d:Int):=by rw [IntKind.wrap_i64] <;> omega
  clear hdz
  obtain ⟨A0,A1,A2,A3,A4,A6,A7⟩:=alloc5 W (.cells #[.int .i64 b0,.int .i64 b1,.int .i64 b2,.int .i64 b3,.bool b4,.slice ia ni ni,.slice ka nk nk] 35) (.cells #[.int .i64 dz] 3) (.cells #[.func (.func ge) #[] lb] 54) (.cells #[.func (.yield l) #[] #[]] 54) (.cells #[.bool false] 4)
  obtain ⟨fn,tmps,assign,body,hy,hR⟩:=hY 0 (kvo t ia ka) _ (by rw [← kof_all];omega) (hJ _ _ _ h0 (Tn.of_below A7)) ⟨m + 1,ia,ka,rfl,h⟩ (hW.trans (A7.mono hW.size))
  have HR:=hid (round_wide (n':=9) hR)
  have EB0:EB _ W.heap.size (W.heap.size + 1) (W.heap.size + 1 + 1) (W.heap.size + 1 + 1 + 1) (W.heap.size + 1 + 1 + 1 + 1) _ _ _ _ _ _ _ _ _ _ _ _ _:=⟨A0,A1,A2,A3,A4⟩
  have QS0:QS W.heap.size (W.heap.size + 1) (W.heap.size + 1 + 1) (W.heap.size + 1 + 1 + 1) (W.heap.size + 1 + 1 + 1 + 1):=⟨rfl,rfl,rfl,rfl⟩
  have HE0:=hid EB0
  have HQ:=hid QS0
  have HB7:=hid A7
  have HS7:=hid A6
  rw [kvo_of hkf] at hy ⊢
  clear hR A0 A1 A2 A3 A4 A6 A7 EB0 QS0
  rw [← callsIn_wide (n:=10)]
  refine callsIn_of_wp_marks Tryz.func93 rfl trivial ?_ rfl
  simp only [Tryz.ntmps93,List.size_toArray,List.length_cons,List.length_nil,Nat.reduceAdd,Nat.reduceSub,Array.replicate_succ,Array.replicate_zero,List.push_toArray,List.append_toArray,List.nil_append,List.cons_append]
  gi_wp2
  clear hy
  generalize W.heap.size + 1 + 1 + 1 + 1 = q4 at *
  generalize W.heap.size + 1 + 1 + 1 = q3 at *
  generalize W.heap.size + 1 + 1 = q2 at *
  generalize W.heap.size + 1 = q1 at *
  refine HR.out.mono ?_
  clear HR
  rintro e W1 ⟨(⟨rfl,hJ1⟩ | ⟨rfl,hJ1⟩),hk1⟩
  ·replace HE0:=hid (HE0.out.kp hk1 hB HQ.out)
   have hkW:Kp MT B w0.heap.size W W1:=((Kp.refl MT B w0.heap.size W).belowR HB7.out hW.size).trans hk1
   have hs1:W.heap.size + 5 ≤ W1.heap.size:=by have:=hk1.below.size;rw [HS7.out] at this;exact this
   clear HB7 HS7 hk1
   obtain ⟨a0,a1,a2,a3,a4,a5,a6,_,_,_,_,_,_,_⟩:=cell7k HE0.out.t
   obtain ⟨d0,_⟩:=cell1k HE0.out.d
   gi_wp2
   clear a0 a1 a2 a3 a4 a5 a6 d0
   have hn1:w0.heap.size ≤ W1.heap.size:=by have:=hW.size;omega
   have hb1:Below w0.heap.size w0 W1:=hW.trans hkW.below
   refine wpIn_rangeN rfl (fun h => by cases h) (first:=#[kvo t ia ka]) (lb:=#[]) (by rw [kvo_of hkf];rfl) trivial (enters_of Tryz.func79 (by kernel_rfl) rfl) (fun _ => rfl) (fun _ => rfl) (eachKid_seq Fence.wide 9 trivial rfl (by omega) MT lo m t ia ka w0 h (by omega)) hb1 hn1
    (fun k X => EB X W.heap.size q1 q2 q3 q4 b0 b1 b2 b3 b4 ni nk ia ka dz (.func (.func ge) #[] lb) (.func (.yield l) #[] #[]) false ∧ J (1 + kof ent d t k) X ∧ Below w0.heap.size w0 X ∧ Kp MT B w0.heap.size W X)
    (fun c k X => c = .ret ∧ EB X W.heap.size q1 q2 q3 q4 b0 b1 b2 b3 b4 ni nk ia ka dz (.func (.func ge) #[] lb) (.func (.yield l) #[] #[]) false ∧ (∃ i,i < (kns ent (d + 1) t).length ∧ Jx i X) ∧ Kp MT B w0.heap.size W X)
    (fun _ _ _ => trivial) ?hI ?hIx ?h0
    (fun k a' X => ∃ (Bx:Nat) (ia' ka':Option Addr) (hk:k < t.kids.length) (c0 c1 c2 c3:Int) (c4:Bool) (mi mk:Nat),KF t.kids[k] c0 c1 c2 c3 c4 mi mk ∧ X.heap[Bx]? = some (.cells #[.int .i64 c0,.int .i64 c1,.int .i64 c2,.int .i64 c3,.bool c4,.slice ia' mi mi,.slice ka' mk mk] 35 (0,0)) ∧ W1.heap.size ≤ Bx ∧ Kn lo m w0 ia' ka' t.kids[k] ∧ (EB X W.heap.size q1 q2 q3 q4 b0 b1 b2 b3 b4 ni nk ia ka dz (.func (.func ge) #[] lb) (.func (.yield l) #[] #[]) false ∧ J (1 + kof ent d t k) X ∧ Below w0.heap.size w0 X ∧ Kp MT B w0.heap.size W X) ∧ a' = { tmps:=#[.agg #[.int .i64 b0,.int .i64 b1,.int .i64 b2,.int .i64 b3,.bool b4,.slice ia ni ni,.slice ka nk nk],.int .i64 dz,.func (.func ge) #[] lb,.func (.yield l) #[] #[],.pointer (some ⟨W.heap.size,0,none⟩),.pointer (some ⟨q1,0,none⟩),.pointer (some ⟨q2,0,none⟩),.pointer (some ⟨q3,0,none⟩),.pointer (some ⟨q4,0,none⟩),.pointer (some ⟨Bx,0,none⟩),.func (.yield l) #[] #[],.agg #[.int .i64 b0,.int .i64 b1,.int .i64 b2,.int .i64 b3,.bool b4,.slice ia ni ni,.slice ka nk nk],.bool true,.bool false,.int .i64 dz,.bool false,.agg #[.int .i64 b0,.int .i64 b1,.int .i64 b2,.int .i64 b3,.bool b4,.slice ia ni ni,.slice ka nk nk],.func (.func 79) #[.agg #[.int .i64 b0,.int .i64 b1,.int .i64 b2,.int .i64 b3,.bool b4,.slice ia ni ni,.slice ka nk nk]] #[],.agg #[.int .i64 c0,.int .i64 c1,.int .i64 c2,.int .i64 c3,.bool c4,.slice ia' mi mi,.slice ka' mk mk],undef,undef,undef,undef,undef,undef,undef,undef,undef,undef,undef,undef],defers:=[] })
    ?hAx ?assign ?body ?done ?stop
   case hI =>
    rintro k X Y ⟨h1,h2,h3,h4⟩ ht
    exact ⟨h1.tn ht hs1 HQ.out,hJ _ _ _ h2 (ht.mono (by omega)),h3.trans (ht.below hn1 (Nat.le_trans hW.size h4.below.size)),h4.tn ht (by omega) hW.size⟩
   case hIx =>
    rintro c k X Y ⟨h0,h1,⟨i,hi,h2⟩,h4⟩ ht
    exact ⟨h0,h1.tn ht hs1 HQ.out,⟨i,hi,hJx _ _ _ h2 (ht.mono (by omega))⟩,h4.tn ht (by omega) hW.size⟩
   case h0 => exact ⟨HE0.out,hJ1,hb1,hkW⟩
   case hAx =>
    rintro k a' X l' r r' ⟨Bx,ia',ka',hk,c0,c1,c2,c3,c4,mi,mk,hf,hbx,hle,hkn,⟨h1,h2,h3,h4⟩,ha⟩ hl' hle'
    have ht:Tn MT W1.heap.size X (X.putObj l' (.loop r')):=Tn.put _ hl' rfl hle'
    refine ⟨Bx,ia',ka',hk,c0,c1,c2,c3,c4,mi,mk,hf,(World.putObj_heap_other (fun e => ?_)).trans hbx,hle,hkn,⟨h1.tn ht hs1 HQ.out,hJ _ _ _ h2 (ht.mono (by omega)),h3.trans (ht.below hn1 (Nat.le_trans hW.size h4.below.size)),h4.tn ht (by omega) hW.size⟩,ha⟩
    rw [e,hl'] at hbx;cases hbx
   case assign =>
    rintro l' k v X hk ⟨h1,h2,h3,h4⟩ ⟨hk',ia',ka',rfl,hkn⟩ hsX hbX
    obtain ⟨c0,c1,c2,c3,c4,mi,mk,hf⟩:=kf t.kids[k]
    rw [kvo_of hf]
    gi_wp2
    have hBA:Below X.heap.size X (X.alloc (.cells #[.int .i64 c0,.int .i64 c1,.int .i64 c2,.int .i64 c3,.bool c4,.slice ia' mi mi,.slice ka' mk mk] 35)):=balloc (Below.refl X.heap.size X) _
    have ht:=Tn.of_below (M:=MT) (B:=W1.heap.size) hBA
    exact ⟨Kp.of_below hBA (by omega),X.heap.size,ia',ka',hk',c0,c1,c2,c3,c4,mi,mk,hf,new_alloc _ _ _ rfl,hsX,hkn,⟨h1.tn ht hs1 HQ.out,hJ _ _ _ h2 (ht.mono (by omega)),h3.trans (ht.below hn1 (by omega)),h4.tn ht (by omega) hW.size⟩,rfl⟩
   case body =>
    rintro l' k a' X hk ⟨Bx,ia',ka',hk',c0,c1,c2,c3,c4,mi,mk,hf,hbx,hle,hkn,⟨h1,h2,h3,h4⟩,rfl⟩
    obtain ⟨z0,z1,z2,z3,z4,z5,z6,_,_,_,_,_,_,_⟩:=cell7k hbx
    obtain ⟨e0,_⟩:=cell1k h1.e
    have HEc:=hid (hE (1 + kof ent d t k) t.kids[k] (kvo t.kids[k] ia' ka') X h2 ⟨m,ia',ka',rfl,hkn⟩ h3)
    rw [kvo_of hf] at HEc
    gi_wp2
    refine ⟨trivial,((callsIn_wide (n:=7)).2 HEc.out).mono ?_⟩
    clear HEc
    rintro e X1 ⟨rfl,hbX⟩
    have ht1:=Tn.of_below (M:=MT) (B:=W1.heap.size) hbX
    have g1:=h1.tn ht1 hs1 HQ.out
    have g2:=hJ _ _ _ h2 (ht1.mono (by omega))
    have g3:=h3.trans (ht1.below hn1 (Nat.le_trans hW.size h4.below.size))
    have g4:=h4.tn ht1 (by omega) hW.size
    have hkX:Kp MT W1.heap.size w0.heap.size X X1:=Kp.of_below hbX (by have:=h4.below.size;omega)
    have hbx1:=keepheap hbX hbx
    clear hbX ht1 z0 z1 z2 z3 z4 z5 z6 e0 h1 h2 h3 h4 hbx
    by_cases hen:ent t.kids[k] = true
    ·rw [hen]
     obtain ⟨z0,z1,z2,z3,z4,z5,z6,_,_,_,_,_,_,_⟩:=cell7k hbx1
     obtain ⟨e0,_⟩:=cell1k g1.e
     obtain ⟨d0,_⟩:=cell1k g1.d
     obtain ⟨y0,_⟩:=cell1k g1.y
     have HIH:=hid (IH (by omega) m t.kids[k] ia' ka' X1 (fun i => J (1 + kof ent d t k + i)) (fun i => Jx (1 + kof ent d t k + i)) hkn (hks k hk') g3 (by have:=g4.below.size;omega) (fun i => hJ _) (fun i => hJx _) (fun i v Y hi hj hv hb => ?yy) (fun i s v Y hj hv hb => hE _ s v Y hj hv hb) g2)
     case yy =>
      obtain ⟨hj',e'⟩:=kof_at ent d t k hk' hen i hi
      exact hY (1 + kof ent d t k + i) v Y hj' hj (by rw [e'];exact hv) hb
     rw [kvo_of hf] at HIH
     gi_wp2
     refine ⟨trivial,((callsIn_wide (n:=7)).2 HIH.out).mono ?_⟩
     clear HIH z0 z1 z2 z3 z4 z5 z6 e0 d0 y0
     rintro e X2 ⟨(⟨rfl,hj2⟩ | ⟨rfl,i,hi,hj2⟩),hk2⟩
     ·gi_wp2
      refine ⟨hkX.trans (hk2.mono (by omega)),g1.kp hk2 hB HQ.out,?_,g3.trans hk2.below,g4.trans hk2⟩
      rw [kof_next ent d t k hk',if_pos hen,← Nat.add_assoc]
      exact hj2
     ·have u1:=g1.kp hk2 hB HQ.out
      obtain ⟨r0,rf⟩:=cell1k u1.r
      obtain ⟨hqa,hqb⟩:W.heap.size ≤ q4 ∧ q4 < W.heap.size + 5:=by have:=HQ.out.h4;omega
      obtain ⟨hj',_⟩:=kof_at ent d t k hk' hen i hi
      have j3:=hJx _ _ _ hj2 (Tn.set (p:=⟨q4,0,none⟩) (.bool false) u1.r rfl (by dsimp only;omega))
      gi_wp2
      refine ⟨(hkX.trans (hk2.mono (by omega))).set _ (by dsimp only;omega) (.inl (by dsimp only;omega)),rfl,u1.setr HQ.out false,⟨_,hj',j3⟩,(g4.trans hk2).set _ (by dsimp only;omega) (.inr (.inl (by dsimp only;omega)))⟩
    ·have hen':ent t.kids[k] = false:=by simpa using hen
     rw [hen']
     gi_wp2
     refine ⟨trivial,?_⟩
     gi_wp2
     refine ⟨hkX,g1,?_,g3,g4⟩
     rw [kof_next ent d t k hk',if_neg hen]
     exact g2
   case done =>
    rintro X ⟨h1,h2,h3,h4⟩ hD hbX
    obtain ⟨r0,rf⟩:=cell1k h1.r
    obtain ⟨hqa,hqb⟩:W.heap.size ≤ q4 ∧ q4 < W.heap.size + 5:=by have:=HQ.out.h4;omega
    have u1:=(h1.setr HQ.out true).r
    have hD1:(X.setCell ⟨q4,0,none⟩ (.bool true)).heap[W1.heap.size]? = some (.deferred (some [])):=(Below.heap_setCell _ _ _ _ (by dsimp only;omega)).trans hD
    have j3:=hJ _ _ _ (hJ _ _ _ h2 (Tn.set (p:=⟨q4,0,none⟩) (.bool true) h1.r rfl (by dsimp only;omega))) (Tn.put (.deferred none) hD1 rfl (by omega))
    have u2:((X.setCell ⟨q4,0,none⟩ (.bool true)).putObj W1.heap.size (.deferred none)).heap[q4]? = some (.cells #[.bool true] 4 (0,0)):=(World.putObj_heap_other (by omega)).trans u1
    obtain ⟨r1,_⟩:=cell1k u2
    gi_wp2
    refine ⟨by simp,.inl ⟨_,_,rfl,run_takeDeferred hD1,?_⟩⟩
    refine ⟨.bool true,by simp [results,Tryz.results93,go_sem,r1],.inl ⟨rfl,?_⟩,?_⟩
    ·rw [← kof_all];exact j3
    ·exact (h4.set _ (by dsimp only;omega) (.inr (.inl (by dsimp only;omega)))).tn (Tn.put (B:=W1.heap.size) (.deferred none) hD1 rfl (Nat.le_refl _)) (by omega) hW.size
   case stop =>
    rintro c k X hk ⟨rfl,h1,⟨i,hi,h2⟩,h4⟩ hD hbX
    obtain ⟨hqa,hqb⟩:W.heap.size ≤ q4 ∧ q4 < W.heap.size + 5:=by have:=HQ.out.h4;omega
    have j3:=hJx _ _ _ h2 (Tn.put (.deferred none) hD rfl (by omega))
    have u2:(X.putObj W1.heap.size (.deferred none)).heap[q4]? = some (.cells #[.bool false] 4 (0,0)):=(World.putObj_heap_other (by omega)).trans h1.r
    obtain ⟨r1,_⟩:=cell1k u2
    gi_wp2
    refine ⟨by simp,.inl ⟨_,_,rfl,run_takeDeferred hD,?_⟩⟩
    exact ⟨.bool false,by simp [results,Tryz.results93,go_sem,r1],.inr ⟨rfl,i,hi,j3⟩,h4.tn (Tn.put (B:=W1.heap.size) (.deferred none) hD rfl (Nat.le_refl _)) (by omega) hW.size⟩
  ·have u1:=HE0.out.kp hk1 hB HQ.out
   obtain ⟨r0,rf⟩:=cell1k u1.r
   obtain ⟨hqa,hqb⟩:W.heap.size ≤ q4 ∧ q4 < W.heap.size + 5:=by have:=HQ.out.h4;omega
   have hkW:Kp MT B w0.heap.size W W1:=((Kp.refl MT B w0.heap.size W).belowR HB7.out hW.size).trans hk1
   have j3:=hJx _ _ _ hJ1 (Tn.set (p:=⟨q4,0,none⟩) (.bool false) u1.r rfl (by dsimp only;omega))
   obtain ⟨r1,_⟩:=cell1k (u1.setr HQ.out false).r
   gi_wp2
   refine ⟨.bool false,by simp [results,Tryz.results93,go_sem,r1],.inr ⟨rfl,0,by rw [← kof_all];omega,j3⟩,hkW.set _ (by dsimp only;omega) (.inr (.inl (by dsimp only;omega)))⟩
def KW (lo:Nat) (w0:World) (L:List KT) (k:Nat) (v:Value) (_:World):Prop:=∃ hk:k < L.length,KS lo w0 L[k] v
theorem knots_all (t:KT) (ia:Option Addr) (ic:Nat) (ka:Option Addr) (kc:Nat) (w:World):Calls Tryz.prog 94 #[kv t ia ic ka kc] w fun e w' => e = .returned (.bool true) ∧ Below w.heap.size w w':=by
 unfold kv
 go_enter Tryz.func94,Tryz.ntmps94
 go_wp2
 go_ret
 exact ⟨rfl,balloc (Below.refl _ _) _⟩
theorem knots_c (t:KT) (ia:Option Addr) (ic:Nat) (ka:Option Addr) (kc:Nat) (w:World):Calls Tryz.prog 68 #[kv t ia ic ka kc] w fun e w' => e = .returned (.func (.func 92) #[] #[.pointer (some ⟨w.heap.size,0,none⟩)]) ∧ w' = w.alloc (.cells (ck t ia ic ka kc).toArray 35):=by
 have hmf:∀ (fn:Fn) (first cap:Array Value) (w:World),(Instr.makeFunc fn first cap).run Tryz.prog w = .ok (.func fn first cap) w:=fun _ _ _ _ => rfl
 unfold kv ck
 go_enter Tryz.func68,Tryz.ntmps68
 go_wp2
 go_ret
 exact ⟨rfl,rfl⟩
theorem knots_seq (n lo m:Nat) (hn:1 ≤ n) (t:KT) (ia ka:Option Addr) (w0 w:World) (Bt:Nat) (h:Kn lo m w0 ia ka t) (hz:ksz m t ≤ 1048576) (hb:Below w0.heap.size w0 w) (hB:w.heap[Bt]? = some (.cells (ck t ia t.its.length ka t.kids.length).toArray 35 (0,0))):SeqN Fence.wide n Tryz.prog MT 92 #[] #[.pointer (some ⟨Bt,0,none⟩)] w0.heap.size (kns (fun _ => true) 20 t).length (KW lo w0 (kns (fun _ => true) 20 t)) (fun _ => True) w:=by
 intro l J Jx W _ hW hJ hJx hY h0
 show CallsIn Fence.wide n Tryz.prog 92 #[.func (.yield l) #[] #[],.pointer (some ⟨Bt,0,none⟩)] W _
 rw [callsIn_wide]
 have hb0:Below w0.heap.size w0 W:=hb.trans (hW.mono hb.size)
 have hs0:w0.heap.size ≤ W.heap.size:=hb0.size
 have hBW:=keepheap hW hB
 have HE:=hid (each_c 94 #[] (enters_of Tryz.func94 (by kernel_rfl) rfl) (fun _ => true) lo w0 l W.heap.size hs0 20 (by omega) m t ia ka W (fun k X => J k X ∧ Below w0.heap.size W X) Jx h hz hb0 (Nat.le_refl _)
  (fun k X Y hx ht => ⟨hJ k X Y hx.1 ht,hx.2.trans (ht.below hs0 (Nat.le_trans hs0 hx.2.size))⟩) hJx
  (fun k v W1 hk hj hv hb1 => by
   obtain ⟨fn,tmps,assign,body,hy,hR⟩:=hY k v W1 hk hj.1 ⟨hk,hv⟩ hj.2
   refine ⟨fn,tmps,assign,body,hy,round_wide (hR.mono ?_)⟩
   rintro e W' ⟨(⟨rfl,hj'⟩ | ⟨rfl,hj'⟩),hk'⟩
   ·exact ⟨.inl ⟨rfl,hj',hj.2.trans hk'.below⟩,hk'⟩
   ·exact ⟨.inr ⟨rfl,hj'⟩,hk'⟩)
  (fun k s v W1 hj hv hb1 => by
   obtain ⟨m',ia',ka',rfl,_⟩:=hv
   exact (knots_all s ia' _ ka' _ W1))
  ⟨h0,Below.refl _ _⟩)
 obtain ⟨b0,b1,b2,b3,b4,ni,nk,hkf⟩:=kf t
 have hck:ck t ia t.its.length ka t.kids.length = [.int .i64 b0,.int .i64 b1,.int .i64 b2,.int .i64 b3,.bool b4,.slice ia ni ni,.slice ka nk nk]:=by
  obtain ⟨rfl,rfl,rfl,rfl,rfl,rfl,rfl⟩:=hkf
  rfl
 rw [hck] at hBW
 rw [kvo_of hkf] at HE
 obtain ⟨z0,z1,z2,z3,z4,z5,z6,_,_,_,_,_,_,_⟩:=cell7k hBW
 generalize (kns (fun _ => true) 20 t).length = NN at *
 go_enter Tryz.func92,Tryz.ntmps92
 go_wp2_with fail
 refine HE.out.mono ?_
 rintro e X ⟨(⟨rfl,hj,hbb⟩ | ⟨rfl,k,hk,hj⟩),hkp⟩
 ·go_wp2_with fail
  go_end0
  exact ⟨⟨_,rfl⟩,.inl hj,hkp.below⟩
 ·go_wp2_with fail
  go_end0
  exact ⟨⟨_,rfl⟩,.inr ⟨k,hk,hj⟩,hkp.below⟩
end Go.Proofs.YtjahlofahjgdbaaGreat
namespace Go.Proofs.YtjahlofahjgdbaaGreat
open Go.RowKit
theorem ItG.base {w:World} {B B' g c:Nat} {l:List It} (h:ItG w B g c l) (hB:B' ≤ B):ItG w B' g c l:=by
 obtain ⟨h1,h2⟩:=h
 refine ⟨h1,?_⟩
 rcases h2 with ⟨q,_⟩ | ⟨g',c',cur,e,q1,q2⟩
 ·cases q
 ·exact .inr ⟨g',c',cur,e,by omega,q2⟩
theorem spec_TreeItems (m lo:Nat) (t:KT) (ia ka:Option Addr) (w:World) (h:Kn lo m w ia ka t) (hz:ksz m t ≤ 1048576):Calls Tryz.prog 25 #[kvo t ia ka] w fun e w' => ∃ g c,e = .returned (.slice (some ⟨g,0,none⟩) (itm 20 t).length c) ∧ ItG w' w.heap.size g c (itm 20 t) ∧ Below w.heap.size w w':=by
 obtain ⟨b0,b1,b2,b3,b4,ni,nk,hf⟩:=kf t
 have C:=hid (fun (W:World) (hb:Below w.heap.size w W) => spec_items 20 (by omega) m lo t ia ka W (h.below hb) hz)
 rw [kvo_of hf] at C ⊢
 have B0:=hid (balloc (Below.refl w.heap.size w) (.cells #[.int .i64 b0,.int .i64 b1,.int .i64 b2,.int .i64 b3,.bool b4,.slice ia ni ni,.slice ka nk nk] 35))
 clear h hf
 generalize itm 20 t = L at *
 go_enter Tryz.func25,Tryz.ntmps25
 go_wp2_with fail
 refine (C.out _ B0.out).mono ?_
 rintro e w1 ⟨g,c,rfl,hG,hb⟩
 have HG:=hid (hG.base B0.out.size)
 have B1:=hid (btrans B0.out hb)
 clear hG hb
 go_wp2_with fail
 go_ret
 exact ⟨g,c,rfl,HG.out,B1.out⟩
end Go.Proofs.YtjahlofahjgdbaaGreat
