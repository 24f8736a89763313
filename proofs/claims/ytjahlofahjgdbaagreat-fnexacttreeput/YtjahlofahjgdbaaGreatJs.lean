import Derived.Test.YtjahlofahjgdbaaGreatJ15
import Derived.Test.YtjahlofahjgdbaaGreatGeo11
import Derived.BigQuiet
set_option maxRecDepth 100000
set_option maxHeartbeats 8000000
set_option linter.unusedSimpArgs false
set_option linter.unusedVariables false
namespace Go.Proofs.YtjahlofahjgdbaaGreat
open Go.RowKit
theorem cell2q {w:World} {p:Nat} {a b:Value} {t:TypeId} (h:w.heap[p]? = some (.cells #[a,b] t (0,0))):w.cell? ⟨p,0,none⟩ = some a ∧ w.cell? ⟨p,1,none⟩ = some b ∧ w.frozen? ⟨p,0,none⟩ = false ∧ w.frozen? ⟨p,1,none⟩ = false:=by
 refine ⟨?_,?_,?_,?_⟩ <;> simp [World.cell?,World.frozen?,h]
theorem set2q {w:World} {p:Nat} {o0 o1:Value} {t:TypeId} (h:w.heap[p]? = some (.cells #[o0,o1] t (0,0))) (a b:Value):((w.setCell ⟨p,0,none⟩ a).setCell ⟨p,1,none⟩ b).heap[p]? = some (.cells #[a,b] t (0,0)):=by
 have e4:=set_at (k:=1) (u:=b) (set_at (k:=0) (u:=a) h)
 simpa using e4
theorem pairs_c (ga gb:Nat) (a0 a1 b0 b1:Int) (w:World) (p0:w.cell? ⟨ga,0,none⟩ = some (.int .i64 a0)) (p1:w.cell? ⟨ga,1,none⟩ = some (.int .i64 a1)) (q0:w.cell? ⟨gb,0,none⟩ = some (.int .i64 b0)) (q1:w.cell? ⟨gb,1,none⟩ = some (.int .i64 b1)):Calls Tryz.prog 119 #[.slice (some ⟨ga,0,none⟩) 2 2,.slice (some ⟨gb,0,none⟩) 2 2] w fun e w' => e = .returned (.int .i64 (if cmi a0 b0 = 0 then cmi a1 b1 else cmi a0 b0)) ∧ w' = w:=by
 have C0:=hid (compare_c a0 b0 w)
 have C1:=hid (compare_c a1 b1 w)
 by_cases h0:cmi a0 b0 = 0
 ·rw [if_pos h0]
  rw [h0] at C0
  clear h0
  by_cases h1:cmi a1 b1 = 0
  ·rw [h1] at C1 ⊢
   clear h1
   go_enter Tryz.func119,Tryz.ntmps119
   go_wp2_with fail
   go_loopw [11] (fun ti wr => ∃ k:Nat,ti = .int .i64 k ∧ k ≤ 2 ∧ wr = w) (fun ti _ => 2 - (intOf ti).toNat)
   case atStart => exact ⟨0,rfl,by omega,rfl⟩
   case round =>
    obtain ⟨k,rfl,hk,rfl⟩:=hrel
    obtain rfl | rfl | rfl:k = 0 ∨ k = 1 ∨ k = 2:=by omega
    ·go_wp2_with fail
     refine C0.out.mono ?_
     rintro e w1 ⟨rfl,hw⟩
     replace hw:=hw.symm
     subst hw
     go_wp2_with fail
     go_roundw
     case rel => exact ⟨1,rfl,by omega,by first | rfl | trivial⟩
     case measure => simp [intOf]
    ·go_wp2_with fail
     refine C1.out.mono ?_
     rintro e w1 ⟨rfl,hw⟩
     replace hw:=hw.symm
     subst hw
     go_wp2_with fail
     go_roundw
     case rel => exact ⟨2,rfl,by omega,by first | rfl | trivial⟩
     case measure => simp [intOf]
    ·go_wp2_with fail
     go_ret
     exact ⟨rfl,rfl⟩
  ·have h1':(cmi a1 b1 == 0) = false:=by rw [beq_eq_false_iff_ne];exact h1
   generalize cmi a1 b1 = c at *
   go_enter Tryz.func119,Tryz.ntmps119
   go_wp2_with fail
   go_loopw [11] (fun ti wr => ∃ k:Nat,ti = .int .i64 k ∧ k ≤ 1 ∧ wr = w) (fun ti _ => 2 - (intOf ti).toNat)
   case atStart => exact ⟨0,rfl,by omega,rfl⟩
   case round =>
    obtain ⟨k,rfl,hk,rfl⟩:=hrel
    obtain rfl | rfl:k = 0 ∨ k = 1:=by omega
    ·go_wp2_with fail
     refine C0.out.mono ?_
     rintro e w1 ⟨rfl,hw⟩
     replace hw:=hw.symm
     subst hw
     go_wp2_with fail
     go_roundw
     case rel => exact ⟨1,rfl,by omega,by first | rfl | trivial⟩
     case measure => simp [intOf]
    ·go_wp2_with fail
     refine C1.out.mono ?_
     rintro e w1 ⟨rfl,hw⟩
     replace hw:=hw.symm
     subst hw
     go_wp2_with fail
     go_ret
     exact ⟨rfl,rfl⟩
 ·rw [if_neg h0]
  have h0':(cmi a0 b0 == 0) = false:=by rw [beq_eq_false_iff_ne];exact h0
  generalize cmi a0 b0 = c at *
  go_enter Tryz.func119,Tryz.ntmps119
  go_wp2_with fail
  go_loopw [11] (fun ti wr => ti = .int .i64 0 ∧ wr = w) (fun ti _ => 2 - (intOf ti).toNat)
  case atStart => exact ⟨rfl,rfl⟩
  case round =>
   obtain ⟨rfl,rfl⟩:=hrel
   go_wp2_with fail
   refine C0.out.mono ?_
   rintro e w1 ⟨rfl,hw⟩
   replace hw:=hw.symm
   subst hw
   go_wp2_with fail
   go_ret
   exact ⟨rfl,rfl⟩
theorem kfr_step {b:Bx} {ks:List KT} {k:Nat} (h:k < ks.length):kfr b ks (k + 1) = if decide ((kfr b ks k).2.1 < 0) || decide (ara (jnb ks[k].box b) - ara ks[k].box < (kfr b ks k).2.1) || (decide (ara (jnb ks[k].box b) - ara ks[k].box = (kfr b ks k).2.1) && decide (ara ks[k].box < (kfr b ks k).2.2)) then (k,ara (jnb ks[k].box b) - ara ks[k].box,ara ks[k].box) else kfr b ks k:=by
 conv => lhs;unfold kfr
 rw [List.getElem?_eq_getElem h]
theorem ara_ok {b:Bx} (h:bkb b = true):ara b = (b.2.2.1 - b.1) * (b.2.2.2 - b.2.1):=by
 unfold ara areav
 unfold bkb at h
 rw [if_pos h]
theorem ara_le {b:Bx} (h:bkb b = true):0 ≤ ara b ∧ ara b ≤ 3600000000:=by
 rw [ara_ok h]
 obtain ⟨h1,h2,h3,h4,h5,h6⟩:=bkb_le h
 refine ⟨Int.mul_nonneg (by omega) (by omega),?_⟩
 calc (b.2.2.1 - b.1) * (b.2.2.2 - b.2.1) ≤ 60000 * (b.2.2.2 - b.2.1):=Int.mul_le_mul_of_nonneg_right (by omega) (by omega)
  _ ≤ 60000 * 60000:=Int.mul_le_mul_of_nonneg_left (by omega) (by omega)
  _ = 3600000000:=rfl
theorem ara_jn {a b:Bx} (ha:bkb a = true) (hb:bkb b = true):ara a ≤ ara (jnb a b):=by
 rw [ara_ok ha,ara_ok (jnb_ok ha hb)]
 obtain ⟨h1,h2,h3,h4,h5,h6⟩:=bkb_le ha
 unfold jnb
 simp only []
 calc (a.2.2.1 - a.1) * (a.2.2.2 - a.2.1) ≤ (max a.2.2.1 b.2.2.1 - min a.1 b.1) * (a.2.2.2 - a.2.1):=Int.mul_le_mul_of_nonneg_right (by omega) (by omega)
  _ ≤ (max a.2.2.1 b.2.2.1 - min a.1 b.1) * (max a.2.2.2 b.2.2.2 - min a.2.1 b.2.1):=Int.mul_le_mul_of_nonneg_left (by omega) (by omega)
theorem kfr_pos {b:Bx} {ks:List KT} (hb:bkb b = true) (hk:ks.all (fun k => bkb k.box) = true):∀ k,k ≤ ks.length → 0 < k → 0 ≤ (kfr b ks k).2.1
 | 0,_,h => by omega
 | k + 1,hl,_ => by
  rw [kfr_step (show k < ks.length by omega)]
  rw [List.all_eq_true] at hk
  have h1:=ara_jn (hk _ (List.getElem_mem (show k < ks.length by omega))) hb
  split
  ·show 0 ≤ _ - _;omega
  ·rename_i hc
   rcases Nat.eq_zero_or_pos k with h0 | h0
   ·subst h0;exact absurd rfl hc
   ·exact kfr_pos hb (by rw [List.all_eq_true];exact hk) k (by omega) h0
def lgK (b:Bx) (ks:List KT) (k:Nat):Int:=if k = 0 then 0 else (kfr b ks k).2.1
def laK (b:Bx) (ks:List KT) (k:Nat):Int:=if k = 0 then 0 else (kfr b ks k).2.2
def btK (b:Bx) (ks:List KT) (k:Nat) (g a:Int):Bool:=decide ((if cmi g (lgK b ks k) = 0 then cmi a (laK b ks k) else cmi g (lgK b ks k)) < 0)
theorem btK_step {b:Bx} {ks:List KT} {k:Nat} (hb:bkb b = true) (hk:ks.all (fun k => bkb k.box) = true) (h:k < ks.length):kfr b ks (k + 1) = if decide (k = 0) || btK b ks k (ara (jnb ks[k].box b) - ara ks[k].box) (ara ks[k].box) then (k,ara (jnb ks[k].box b) - ara ks[k].box,ara ks[k].box) else kfr b ks k:=by
 rw [kfr_step h]
 by_cases h0:k = 0
 ·subst h0
  have e:decide ((kfr b ks 0).2.1 < 0) = true:=by show decide ((-1:Int) < 0) = true;rfl
  rw [e];simp
 ·have h1:=kfr_pos hb hk k (by omega) (by omega)
  have e:decide ((kfr b ks k).2.1 < 0) = false:=by rw [decide_eq_false_iff_not];omega
  have e2:decide (k = 0) = false:=by rw [decide_eq_false_iff_not];exact h0
  rw [e,e2,Bool.false_or,Bool.false_or]
  congr 1
  unfold btK lgK laK
  rw [if_neg h0,if_neg h0]
  generalize ara (jnb ks[k].box b) - ara ks[k].box = g
  generalize ara ks[k].box = a
  generalize (kfr b ks k).2.1 = lg
  generalize (kfr b ks k).2.2 = la
  have z1:=cmi_zero g lg
  have z2:=cmi_neg g lg
  have z3:=cmi_neg a la
  rw [eq_iff_iff]
  simp only [Bool.or_eq_true,Bool.and_eq_true,decide_eq_true_eq]
  split
  ·rename_i hc
   have:=z1.1 hc
   rw [z3];omega
  ·rename_i hc
   have:g ≠ lg:=fun e => hc (z1.2 e)
   rw [z2];omega
theorem below_drewNk (w:World) (n:Nat):Below w.heap.size w (w.drewN n):=⟨rfl,rfl,rfl,Nat.le_refl _,fun _ _ => rfl⟩
theorem impl_kidFor (m:Nat) (t:KT) (ia ka:Option Addr) (ic kc:Nat) (x0 x1 x2 x3:Int) (w:World) (h:KnR m w ia ic ka kc t) (hz:t.its.length + t.kids.length ≤ 1048576) (hb:bkb (x0,x1,x2,x3) = true) (hk:t.kids.all (fun k => bkb k.box) = true):Calls Tryz.prog 106 #[kv t ia ic ka kc,.agg #[.int .i64 x0,.int .i64 x1,.int .i64 x2,.int .i64 x3]] w fun e w' => e = .returned (.int .i64 (kidF (x0,x1,x2,x3) t.kids)) ∧ Below w.heap.size w w':=by
 cases m with
 | zero => exact h.elim
 | succ m =>
 obtain ⟨_,_,_,hkc,hkc2,hKK⟩:=h
 have hnk:t.kids.length ≤ 1048576:=by omega
 obtain ⟨b0,b1,b2,b3,b4,ni,nk,hkf⟩:=kf t
 rw [kv_of' hkf]
 have HNK:=hid hkf.kids
 rw [hkf.kids] at hkc hnk
 have HKK:=hid hKK
 have HST:=hid (fun (k:Nat) (h:k < t.kids.length) => btK_step hb hk h)
 have HOK:=hid (fun (k:Nat) (h:k < t.kids.length) => List.all_eq_true.1 hk _ (List.getElem_mem h))
 have HB:=hid hb
 have HKF:=hid (show kidF (x0,x1,x2,x3) t.kids = (kfr (x0,x1,x2,x3) t.kids nk).1 by rw [← HNK.out];rfl)
 have hb4:bok x0 x1 x2 x3 = true:=hb
 have HB4:=hid hb4
 have hL0:lgK (x0,x1,x2,x3) t.kids 0 = 0:=rfl
 have hA0:laK (x0,x1,x2,x3) t.kids 0 = 0:=rfl
 have hJ0:(kfr (x0,x1,x2,x3) t.kids 0).1 = 0:=rfl
 clear hkf hKK hz hb hk hb4
 rw [HKF.out]
 obtain ⟨A0,A1,A2,hs,hB⟩:=alloc3 w (.cells #[.int .i64 b0,.int .i64 b1,.int .i64 b2,.int .i64 b3,.bool b4,.slice ia ni ic,.slice ka nk kc] 35) (.cells #[.int .i64 x0,.int .i64 x1,.int .i64 x2,.int .i64 x3] 31) (.cells #[.int .i64 0,.int .i64 0] 139)
 obtain ⟨z0,z1,z2,z3,z4,z5,z6,_,_,_,_,_,_,_⟩:=cell7k A0
 go_enter Tryz.func106,Tryz.ntmps106
 go_wp2_with fail
 generalize ((w.alloc (.cells #[.int .i64 b0,.int .i64 b1,.int .i64 b2,.int .i64 b3,.bool b4,.slice ia ni ic,.slice ka nk kc] 35)).alloc (.cells #[.int .i64 x0,.int .i64 x1,.int .i64 x2,.int .i64 x3] 31)).alloc (.cells #[.int .i64 0,.int .i64 0] 139) = v0 at *
 clear z0 z1 z2 z3 z4 z5 z6 hs
 go_loopw [5,17] (fun t5 ti wr => ∃ k:Nat,ti = .int .i64 k ∧ k ≤ nk ∧ t5 = .int .i64 ((kfr (x0,x1,x2,x3) t.kids k).1:Nat) ∧ Hid (wr.heap[w.heap.size + 1]? = some (.cells #[.int .i64 x0,.int .i64 x1,.int .i64 x2,.int .i64 x3] 31 (0,0))) ∧ Hid (wr.heap[w.heap.size + 1 + 1]? = some (.cells #[.int .i64 (lgK (x0,x1,x2,x3) t.kids k),.int .i64 (laK (x0,x1,x2,x3) t.kids k)] 139 (0,0))) ∧ Hid (Below w.heap.size w wr)) (fun _ ti _ => nk - (intOf ti).toNat)
 case atStart => exact ⟨0,rfl,Nat.zero_le _,rfl,hid A1,hid A2,hid hB⟩
 case round =>
  clear A0 A1 A2 hB hL0 hA0 hJ0
  obtain ⟨k,rfl,hkn,rfl,HX,HL,HBW⟩:=hrel
  by_cases hlt:k < nk
  ·have c1:(k:Int) < (nk:Int):=by omega
   have hkt:k < t.kids.length:=by rw [HNK.out];exact hlt
   obtain ⟨bk,ok,rfl,hbk,hkk⟩:∃ b off,ka = some ⟨b,off,none⟩ ∧ b < w.heap.size ∧ ∀ j (h:j < t.kids.length),∃ ia' ic' ka' kc',Cs w b (off + j * 7) (ck t.kids[j] ia' ic' ka' kc') ∧ KnR m w ia' ic' ka' kc' t.kids[j]:=by
    rcases HKK.out with h | h
    ·rw [h.2.1] at hkt;exact absurd hkt (by simp)
    ·exact h
   obtain ⟨ia',ic',ka',kc',q1,_⟩:=hkk k hkt
   obtain ⟨c0,c1',c2,c3,c4,mi,mk,hf⟩:=kf t.kids[k]
   obtain ⟨y0,y1,y2,y3,y4,y5,y6⟩:=Cs.kfL hf (q1.below hbk HBW.out)
   have hbx:t.kids[k].box = (c0,c1',c2,c3):=by rw [← hf.x0,← hf.x1,← hf.x2,← hf.x3]
   have hok:=HOK.out k hkt
   have hst:=HST.out k hkt
   rw [hbx] at hok hst
   have hj:=jnb_ok hok HB.out
   have hja:=ara_jn hok HB.out
   obtain ⟨r1,r2⟩:=ara_le hok
   obtain ⟨r3,r4⟩:=ara_le hj
   have hokb:bok c0 c1' c2 c3 = true:=hok
   have CJ:=hid (fun w => impl_BoxJoin c0 c1' c2 c3 x0 x1 x2 x3 w)
   rw [hokb,HB4.out] at CJ
   simp only [Bool.and_self,if_true] at CJ
   have CA:=hid (fun w => impl_area c0 c1' c2 c3 w)
   have CB:=hid (fun w => impl_area (min c0 x0) (min c1' x1) (max c2 x2) (max c3 x3) w)
   have e1:areav c0 c1' c2 c3 = ara (c0,c1',c2,c3):=rfl
   have e2:areav (min c0 x0) (min c1' x1) (max c2 x2) (max c3 x3) = ara (jnb (c0,c1',c2,c3) (x0,x1,x2,x3)):=rfl
   rw [e1] at CA
   rw [e2] at CB
   clear e1 e2 hkk q1 hf hbx hj hok hokb
   generalize ara (jnb (c0,c1',c2,c3) (x0,x1,x2,x3)) = aj at *
   generalize ara (c0,c1',c2,c3) = ac at *
   generalize min c0 x0 = j0 at *
   generalize min c1' x1 = j1 at *
   generalize max c2 x2 = j2 at *
   generalize max c3 x3 = j3 at *
   obtain ⟨gg,hgg⟩:∃ gg,gg = aj - ac:=⟨_,rfl⟩
   have hwg:IntKind.i64.wrap (aj - ac) = gg:=by rw [hgg,IntKind.wrap_i64] <;> omega
   rw [← hgg] at hst
   have HSTK:=hid hst
   clear hgg hst hja r1 r2 r3 r4
   have gK:=new_alloc wr wr.heap.size (.cells #[.int .i64 c0,.int .i64 c1',.int .i64 c2,.int .i64 c3,.bool c4,.slice ia' mi ic',.slice ka' mk kc'] 35) rfl
   have hBA:=balloc (Below.refl wr.heap.size wr) (.cells #[.int .i64 c0,.int .i64 c1',.int .i64 c2,.int .i64 c3,.bool c4,.slice ia' mi ic',.slice ka' mk kc'] 35)
   have gX:=keepheap hBA HX.out
   have gL:=keepheap hBA HL.out
   have hBW:=btrans HBW.out hBA
   clear HX HL HBW hBA
   go_upto_region 5 with fail
   generalize wr.alloc (.cells #[.int .i64 c0,.int .i64 c1',.int .i64 c2,.int .i64 c3,.bool c4,.slice ia' mi ic',.slice ka' mk kc'] 35) = W1 at *
   generalize wr.heap.size = K at *
   clear y0 y1 y2 y3 y4 y5 y6
   obtain ⟨k0,k1,k2,k3,_,_,_,_,_,_,_,_,_,_⟩:=cell7k gK
   go_wp2_with fail
   refine (CA.out _).mono ?_
   rintro e W2 ⟨rfl,hb1⟩
   replace gK:=keepheap hb1 gK
   replace gX:=keepheap hb1 gX
   replace gL:=keepheap hb1 gL
   replace hBW:=btrans hBW hb1
   clear hb1 k0 k1 k2 k3
   obtain ⟨k0,k1,k2,k3,_,_,_,_,_,_,_,_,_,_⟩:=cell7k gK
   obtain ⟨w0,w1',w2',w3',_,_,_,_⟩:=cell4b gX
   go_wp2_with fail
   refine (CJ.out _).mono ?_
   rintro e W3 ⟨rfl,hb1⟩
   replace gL:=keepheap hb1 gL
   replace gX:=keepheap hb1 gX
   replace hBW:=btrans hBW hb1
   clear hb1 k0 k1 k2 k3 w0 w1' w2' w3' gK
   have gJ:=new_alloc W3 W3.heap.size (.cells #[.int .i64 j0,.int .i64 j1,.int .i64 j2,.int .i64 j3] 31) rfl
   have hBA:=balloc (Below.refl W3.heap.size W3) (.cells #[.int .i64 j0,.int .i64 j1,.int .i64 j2,.int .i64 j3] 31)
   replace gL:=keepheap hBA gL
   replace gX:=keepheap hBA gX
   replace hBW:=btrans hBW hBA
   clear hBA
   go_upto_region 7 with fail
   generalize W3.alloc (.cells #[.int .i64 j0,.int .i64 j1,.int .i64 j2,.int .i64 j3] 31) = W4 at *
   generalize W3.heap.size = J at *
   obtain ⟨k0,k1,k2,k3,_,_,_,_⟩:=cell4b gJ
   go_wp2_with fail
   refine (CB.out _).mono ?_
   rintro e W5 ⟨rfl,hb1⟩
   replace gL:=keepheap hb1 gL
   replace gX:=keepheap hb1 gX
   replace hBW:=btrans hBW hb1
   clear hb1 k0 k1 k2 k3 gJ
   have hlC:=lt_of_heap gL
   have gC:=new_alloc W5 W5.heap.size (.cells #[.int .i64 gg,.int .i64 ac] 139) rfl
   have hBA:=balloc (Below.refl W5.heap.size W5) (.cells #[.int .i64 gg,.int .i64 ac] 139)
   replace gL:=keepheap hBA gL
   replace gX:=keepheap hBA gX
   replace hBW:=btrans hBW hBA
   clear hBA
   go_upto_region 8 with fail
   have hne:w.heap.size + 1 + 1 ≠ W5.heap.size:=by omega
   generalize W5.alloc (.cells #[.int .i64 gg,.int .i64 ac] 139) = W6 at *
   generalize W5.heap.size = C at *
   by_cases hk0:k = 0
   ·have e0:((k:Int) == 0) = true:=by subst hk0;rfl
    have hst:kfr (x0,x1,x2,x3) t.kids (k + 1) = (k,gg,ac):=by rw [HSTK.out];simp [hk0]
    have HS2:=hid hst
    have hz:lgK (x0,x1,x2,x3) t.kids k = 0:=by subst hk0;rfl
    clear hst hk0 HSTK hz
    generalize lgK (x0,x1,x2,x3) t.kids k = lg at *
    generalize laK (x0,x1,x2,x3) t.kids k = la at *
    go_quiet (fail)
    obtain ⟨l0,l1,f0,f1⟩:=cell2q gL
    obtain ⟨p0,p1,_,_⟩:=cell2q gC
    go_wp2_with fail
    go_region
    all_goals
     go_wp2_with fail
     go_roundw
     case rel => exact ⟨k + 1,by go_num,by omega,by rw [HS2.out],hid ((setL_blk [.int .i64 gg,.int .i64 ac] _ (w.heap.size + 1 + 1) 0 _ (by omega)).trans gX),hid (by unfold lgK laK;rw [if_neg (by omega),if_neg (by omega),HS2.out];exact set2q (show _ = _ from gL) _ _),hid (setL_below [.int .i64 gg,.int .i64 ac] w _ (w.heap.size + 1 + 1) 0 w.heap.size (btrans hBW (below_drewNk _ _)) (by omega))⟩
     case measure => simp [intOf];omega
   ·have e0:((k:Int) == 0) = false:=by rw [beq_eq_false_iff_ne];omega
    obtain ⟨bt,hbt⟩:∃ bt,bt = btK (x0,x1,x2,x3) t.kids k gg ac:=⟨_,rfl⟩
    rw [← hbt] at HSTK
    have hcc:decide ((if cmi gg (lgK (x0,x1,x2,x3) t.kids k) = 0 then cmi ac (laK (x0,x1,x2,x3) t.kids k) else cmi gg (lgK (x0,x1,x2,x3) t.kids k)) < 0) = bt:=hbt.symm
    clear hbt
    obtain ⟨l0,l1,f0,f1⟩:=cell2q gL
    obtain ⟨p0,p1,_,_⟩:=cell2q gC
    have CP:=hid (fun (W:World) (q0:W.cell? ⟨C,0,none⟩ = some (.int .i64 gg)) (q1:W.cell? ⟨C,1,none⟩ = some (.int .i64 ac)) (q2:W.cell? ⟨w.heap.size + 1 + 1,0,none⟩ = some (.int .i64 (lgK (x0,x1,x2,x3) t.kids k))) (q3:W.cell? ⟨w.heap.size + 1 + 1,1,none⟩ = some (.int .i64 (laK (x0,x1,x2,x3) t.kids k))) => pairs_c C (w.heap.size + 1 + 1) gg ac _ _ W q0 q1 q2 q3)
    generalize hcv:(if cmi gg (lgK (x0,x1,x2,x3) t.kids k) = 0 then cmi ac (laK (x0,x1,x2,x3) t.kids k) else cmi gg (lgK (x0,x1,x2,x3) t.kids k)) = cv at *
    have HLK:=hid (show lgK (x0,x1,x2,x3) t.kids k = (kfr (x0,x1,x2,x3) t.kids k).2.1 ∧ laK (x0,x1,x2,x3) t.kids k = (kfr (x0,x1,x2,x3) t.kids k).2.2 from ⟨if_neg hk0,if_neg hk0⟩)
    have HK0:=hid hk0
    clear hcv hk0
    generalize lgK (x0,x1,x2,x3) t.kids k = lg at *
    generalize laK (x0,x1,x2,x3) t.kids k = la at *
    cases bt
    ·have hst:kfr (x0,x1,x2,x3) t.kids (k + 1) = kfr (x0,x1,x2,x3) t.kids k:=by rw [HSTK.out];simp [HK0.out]
     have HS2:=hid hst
     clear hst HSTK
     go_quiet ((go_at_call 119;exact Calls.quiet_of_same (CP.out _ (by assumption) (by assumption) (by assumption) (by assumption))))
     go_wp2_with fail
     go_roundw
     case rel => exact ⟨k + 1,by go_num,by omega,by rw [HS2.out],hid gX,hid (by unfold lgK laK;rw [if_neg (by omega),if_neg (by omega),HS2.out,← HLK.out.1,← HLK.out.2];exact gL),hid (btrans hBW (below_drewNk _ _))⟩
     case measure => simp [intOf];omega
    ·have hst:kfr (x0,x1,x2,x3) t.kids (k + 1) = (k,gg,ac):=by rw [HSTK.out];simp
     have HS2:=hid hst
     clear hst HSTK
     go_quiet ((go_at_call 119;exact Calls.quiet_of_same (CP.out _ (by assumption) (by assumption) (by assumption) (by assumption))))
     obtain ⟨l0',l1',f0',f1'⟩:=cell2q gL
     obtain ⟨p0',p1',_,_⟩:=cell2q gC
     go_wp2_with fail
     go_region
     all_goals
      go_wp2_with fail
      go_roundw
      case rel => exact ⟨k + 1,by go_num,by omega,by rw [HS2.out],hid ((setL_blk [.int .i64 gg,.int .i64 ac] _ (w.heap.size + 1 + 1) 0 _ (by omega)).trans gX),hid (by unfold lgK laK;rw [if_neg (by omega),if_neg (by omega),HS2.out];exact set2q (show _ = _ from gL) _ _),hid (setL_below [.int .i64 gg,.int .i64 ac] w _ (w.heap.size + 1 + 1) 0 w.heap.size (btrans hBW (below_drewNk _ _)).drew (by omega))⟩
      case measure => simp [intOf];omega
  ·have c1:(nk:Int) ≤ (k:Int):=by omega
   obtain rfl:k = nk:=by omega
   go_wp2_with fail
   go_ret
   exact ⟨rfl,HBW.out⟩
end Go.Proofs.YtjahlofahjgdbaaGreat
