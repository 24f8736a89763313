/- Texts of stores, joined: Fn, Fo, Ks. -/
import Derived.BigQuiet
import Derived.Test.YtjahlofahjgdbaaGreatFk
import Derived.Test.YtjahlofahjgdbaaGreatJ21
set_option maxRecDepth 100000
set_option maxHeartbeats 16000000
set_option linter.unusedSimpArgs false
set_option linter.unusedVariables false
namespace Go.Proofs.YtjahlofahjgdbaaGreat
open Go.RowKit
theorem nodup_next {L:List It} {i:Nat} (hi:i < L.length) (h:((L.take i).map (·.1)).Nodup) (hn:∀ j (hj:j < L.length),j < i → L[j].1 ≠ L[i].1):((L.take (i + 1)).map (·.1)).Nodup:=by
 rw [List.take_add_one,List.getElem?_eq_getElem hi,Option.toList_some,List.map_append]
 rw [List.nodup_append]
 refine ⟨h,by simp,?_⟩
 intro a ha b hb
 simp only [List.map_cons,List.map_nil,List.mem_singleton] at hb
 subst hb
 obtain ⟨x,hx,rfl⟩:=List.mem_map.1 ha
 obtain ⟨j,hj,rfl⟩:=List.getElem_of_mem hx
 rw [List.length_take] at hj
 rw [List.getElem_take]
 exact hn j (by omega) (by omega)
theorem not_nodup {L:List It} {i j:Nat} (hi:i < L.length) (hj:j < L.length) (hji:j < i) (e:L[j].1 = L[i].1):¬ (L.map (·.1)).Nodup:=by
 intro h
 rw [List.Nodup,List.pairwise_iff_getElem] at h
 have:=h j i (by simpa using hj) (by simpa using hi) hji
 simp at this
 exact this e
theorem spec_TreeOk_of (m lo:Nat) (t:KT) (ia ka:Option Addr) (w:World) (h:Kn lo m w ia ka t) (hz:ksz m t ≤ 1048576) (kh:Int) (CK:Hid (∀ W,Below w.heap.size w W → Calls Tryz.prog 75 #[kvo t ia ka,.bool true,.int .i64 20] W fun e w' => e = .returned (.int .i64 kh) ∧ Below W.heap.size W w')):Calls Tryz.prog 33 #[kvo t ia ka] w fun e w' => e = .returned (.bool (decide (0 ≤ kh) && decide ((itm 20 t).map (·.1)).Nodup && decide ((itm 20 t).length ≤ 400))) ∧ Below w.heap.size w w':=by
 obtain ⟨b0,b1,b2,b3,b4,ni,nk,hf⟩:=kf t
 have C:=hid (fun (W:World) (hb:Below w.heap.size w W) => spec_TreeItems m lo t ia ka W (h.below hb) hz)
 have hL:=Nat.le_trans (kn_itm m 20 h) hz
 rw [kvo_of hf] at C CK ⊢
 have gT:=hid (new_alloc w w.heap.size (.cells #[.int .i64 b0,.int .i64 b1,.int .i64 b2,.int .i64 b3,.bool b4,.slice ia ni ni,.slice ka nk nk] 35) rfl)
 have B0:=hid (balloc (Below.refl w.heap.size w) (.cells #[.int .i64 b0,.int .i64 b1,.int .i64 b2,.int .i64 b3,.bool b4,.slice ia ni ni,.slice ka nk nk] 35))
 clear h hf hz
 generalize itm 20 t = L at *
 go_enter Tryz.func33,Tryz.ntmps33
 go_wp2_with fail
 generalize w.alloc (.cells #[.int .i64 b0,.int .i64 b1,.int .i64 b2,.int .i64 b3,.bool b4,.slice ia ni ni,.slice ka nk nk] 35) = v0 at *
 refine (CK.out _ B0.out).mono ?_
 rintro e v1 ⟨rfl,hb⟩
 replace gT:=hid (keepheap hb gT.out)
 replace B0:=hid (btrans B0.out hb)
 clear hb CK
 obtain ⟨a0,a1,a2,a3,a4,a5,a6,_,_,_,_,_,_,_⟩:=cell7k gT.out
 by_cases hk:kh < 0
 ·have hd:decide (0 ≤ kh) = false:=decide_eq_false (by omega)
  have HD:=hid hd
  clear hd
  go_wp2_with fail
  go_ret
  rw [HD.out]
  exact ⟨rfl,B0.out⟩
 have HD:=hid (show decide (0 ≤ kh) = true from decide_eq_true (by omega))
 have hkn:¬ kh < 0:=hk
 clear hk
 go_wp2_with fail
 clear hkn
 refine (C.out _ B0.out).mono ?_
 rintro e v2 ⟨g,c,rfl,hG,hb⟩
 have HR:=hid hG.r
 replace B0:=hid (btrans B0.out hb)
 clear hG hb C gT a0 a1 a2 a3 a4 a5 a6
 go_wp2_with fail
 go_loopw [4] (fun ti wr => ∃ i:Nat,ti = .int .i64 i ∧ i ≤ L.length ∧ Hid (((L.take i).map (·.1)).Nodup) ∧ Hid (Below w.heap.size w wr) ∧ Hid (Below v2.heap.size v2 wr)) (fun ti _ => L.length - (intOf ti).toNat)
 case atStart => exact ⟨0,rfl,Nat.zero_le _,hid (by simp),B0,hid (Below.refl _ _)⟩
 case round =>
  clear B0
  obtain ⟨i,rfl,hi,HN,B0,B1⟩:=hrel
  by_cases hlt:i < L.length
  ·have hiI:(i:Int) < (L.length:Int):=by omega
   go_wp2_with fail
   go_loopw [5] (fun tk wr' => ∃ k:Nat,tk = .int .i64 k ∧ k ≤ i ∧ Hid (∀ j (hj:j < L.length),j < k → L[j].1 ≠ L[i].1) ∧ Hid (Below w.heap.size w wr') ∧ Hid (Below v2.heap.size v2 wr')) (fun tk _ => i - (intOf tk).toNat)
   case atStart => exact ⟨0,rfl,Nat.zero_le _,hid (fun j hj h => by omega),B0,B1⟩
   case round =>
    clear B0 B1
    obtain ⟨k,rfl,hk2,HK,B0,B1⟩:=hrel
    by_cases hlk:k < i
    ·have hkI:(k:Int) < (i:Int):=by omega
     have hkl:k < L.length:=by omega
     have hkL:(k:Int) < (L.length:Int):=by omega
     have hk0:(0:Int) ≤ (k:Int):=by omega
     have hi0:(0:Int) ≤ (i:Int):=by omega
     obtain ⟨c0,_,_,_,_⟩:=((HR.out.below B1.out).2 i hlt).item
     obtain ⟨d0,_,_,_,_⟩:=((HR.out.below B1.out).2 k hkl).item
     have HY:=hid (fun (e:L[k].1 = L[i].1) => not_nodup hlt hkl hlk e)
     have HX:=hid (fun (e:L[k].1 ≠ L[i].1) j (hj:j < L.length) (hjk:j < k + 1) => show L[j].1 ≠ L[i].1 by
      by_cases ej:j = k
      ·subst ej;exact e
      ·exact HK.out j hj (by omega))
     generalize L[k].1 = y at c0 d0 HY HX
     generalize hxi:L[i].1 = x at c0 d0 HY
     have Hxi:=hid hxi
     clear hxi
     by_cases exy:x = y
     ·have hN:=HY.out exy.symm
      have HNo:=hid (decide_eq_false hN)
      subst exy
      clear hN HX HY HK
      go_wp2_with fail
      go_quiet (fail)
      go_wp2_with fail
      go_ret
      rw [HD.out,HNo.out]
      exact ⟨rfl,⟨B0.out.os,B0.out.tape,B0.out.output,B0.out.size,B0.out.block⟩⟩
     ·have exb:(x == y) = false:=by rw [beq_eq_false_iff_ne];exact exy
      have HK2:=hid (HX.out (fun e => exy (by rw [← Hxi.out];exact e.symm)))
      clear HX HY HK
      go_wp2_with fail
      go_quiet (fail)
      go_wp2_with fail
      go_roundw
      case rel => exact ⟨k + 1,by go_num,by omega,hid (fun j hj hjk => by have:=HK2.out j hj hjk;rw [Hxi.out] at this;exact this),hid ⟨B0.out.os,B0.out.tape,B0.out.output,B0.out.size,B0.out.block⟩,hid ⟨B1.out.os,B1.out.tape,B1.out.output,B1.out.size,B1.out.block⟩⟩
      case measure => simp [intOf];omega
    ·have hkI:¬ (k:Int) < (i:Int):=by omega
     have HN2:=hid (nodup_next hlt HN.out (fun j hj hji => HK.out j hj (by omega)))
     clear HK
     go_wp2_with fail
     go_roundw
     case rel => exact ⟨i + 1,by go_num,by omega,HN2,B0,B1⟩
     case measure => simp [intOf];omega
  ·have hiI:¬ (i:Int) < (L.length:Int):=by omega
   have e:i = L.length:=by omega
   subst e
   have HND:Hid (decide ((L.map (·.1)).Nodup) = true):=hid (decide_eq_true (by have:=HN.out;rwa [List.take_length] at this))
   by_cases h4:L.length ≤ 400
   ·have h4I:(L.length:Int) ≤ 400:=by omega
    have HD4:=hid (decide_eq_true h4)
    clear h4
    go_wp2_with fail
    go_ret
    (try rw [HD.out])
    rw [HND.out,HD4.out]
    exact ⟨rfl,B0.out⟩
   ·have h4I:¬ (L.length:Int) ≤ 400:=by omega
    have HD4:=hid (decide_eq_false h4)
    clear h4
    go_wp2_with fail
    go_ret
    (try rw [HD.out])
    rw [HND.out,HD4.out]
    exact ⟨rfl,B0.out⟩
theorem kbad_kbd (top:Bool) (t:KT):kbad top t = kbd top t.fan t.its.length t.kids.length t.lf (decide (t.box.1 = (arS t).1 ∧ t.box.2.1 = (arS t).2.1 ∧ t.box.2.2.1 = (arS t).2.2.1 ∧ t.box.2.2.2 = (arS t).2.2.2)):=by
 unfold kbad kbd
 congr 1
 rw [← decide_not]
 apply decide_eq_decide.2
 apply not_congr
 constructor
 ·intro h;rw [h];exact ⟨rfl,rfl,rfl,rfl⟩
 ·rintro ⟨h1,h2,h3,h4⟩
  exact Prod.ext h1 (Prod.ext h2 (Prod.ext h3 h4))
theorem knh_le (n:Nat) (top:Bool) (t:KT):-1 ≤ knh n top t ∧ knh n top t ≤ n:=by
 rcases knh_inv n top t with h | ⟨d,h,_,hd⟩ <;> omega
theorem spec_knot (n:Nat):n ≤ 20 → ∀ (m lo:Nat) (t:KT) (ia ka:Option Addr) (top:Bool) (w:World),Kn lo m w ia ka t → ksz m t ≤ 1048576 → Calls Tryz.prog 75 #[kvo t ia ka,.bool top,.int .i64 n] w fun e w' => e = .returned (.int .i64 (knh n top t)) ∧ Below w.heap.size w w':=by
 induction n with
 | zero =>
  intro h20 m lo t ia ka top w h hz
  cases m with
  | zero => exact h.elim
  | succ m =>
  obtain ⟨bi,bk,rfl,rfl,h3,h4,h5,h6,h7,h8⟩:=h
  have hz2:t.its.length ≤ 1048576 ∧ t.kids.length ≤ 1048576:=by unfold ksz at hz;omega
  exact knot_step t.box.1 t.box.2.1 t.box.2.2.1 t.box.2.2.2 (arS t).1 (arS t).2.1 (arS t).2.2.1 (arS t).2.2.2 t.lf top bi bk t.its.length t.kids.length t.fan 0 (-1) w t.ibs (t.kids.map fun _ => 0) hz2.1 hz2.2 (by omega) (List.length_map _) (List.length_map _) (hid h5.r.bxs) (hid (fun k hk => by rw [List.getElem_map];omega))
   (hid (fun k hk => by
    have hk':k < t.kids.length:=by simpa using hk
    obtain ⟨ja,jk,q1,q2⟩:=h8 k hk'
    obtain ⟨c0,c1,c2,c3,c4,mi,mk,hf⟩:=kf t.kids[k]
    exact ⟨c0,c1,c2,c3,c4,mi,mk,ja,jk,fun W hb => Cs.kf hf (q1.below h6 hb),fun e => absurd rfl e⟩))
   (hid ⟨fun _ => rfl,fun h => by simp at h⟩) (hid (fun W => spec_fan t _ _ _ _ W)) (hid (fun W hb => spec_around _ _ _ _ _ _ _ _ _ _ _ t.ibs t.kbs W (List.length_map _) (List.length_map _) hz2.1 hz2.2 (h5.r.bxs.below hb) ((KdO.bxs h6 h8).below hb) (arS t) (by unfold arS KT.kbs;simp)))
 | succ n ih =>
  intro h20 m lo t ia ka top w h hz
  cases m with
  | zero => exact h.elim
  | succ m =>
  obtain ⟨bi,bk,rfl,rfl,h3,h4,h5,h6,h7,h8⟩:=h
  have hz2:t.its.length ≤ 1048576 ∧ t.kids.length ≤ 1048576:=by unfold ksz at hz;omega
  have hkk:=kbad_kbd top t
  exact knot_step t.box.1 t.box.2.1 t.box.2.2.1 t.box.2.2.2 (arS t).1 (arS t).2.1 (arS t).2.2.1 (arS t).2.2.2 t.lf top bi bk t.its.length t.kids.length t.fan ((n + 1:Nat):Int) (knh (n + 1) top t) w t.ibs (t.kids.map (knh n false)) hz2.1 hz2.2 (by omega) (List.length_map _) (List.length_map _) (hid h5.r.bxs) (hid (fun k hk => by rw [List.getElem_map];have:=knh_le n false (t.kids[k]'(by simpa using hk));omega))
   (hid (fun k hk => by
    have hk':k < t.kids.length:=by simpa using hk
    obtain ⟨ja,jk,q1,q2⟩:=h8 k hk'
    obtain ⟨c0,c1,c2,c3,c4,mi,mk,hf⟩:=kf t.kids[k]
    refine ⟨c0,c1,c2,c3,c4,mi,mk,ja,jk,fun W hb => Cs.kf hf (q1.below h6 hb),fun _ W hb => ?_⟩
    have:=ih (by omega) m lo t.kids[k] ja jk false W (q2.below hb) (Nat.le_trans (ksz_kid (List.getElem_mem hk')) hz)
    rw [kvo_of hf] at this
    rw [List.getElem_map,show ((n + 1:Nat):Int) - 1 = (n:Int) by omega]
    exact this))
   (hid ⟨fun h => by
     have h0:¬ ((n + 1:Nat):Int) = 0:=by omega
     rw [decide_eq_false h0,Bool.false_or,← hkk] at h
     unfold knh;rw [if_pos h],fun h => by
     have h0:¬ ((n + 1:Nat):Int) = 0:=by omega
     rw [decide_eq_false h0,Bool.false_or,← hkk] at h
     refine ⟨fun ha => ?_,fun ha => ?_⟩
     ·unfold knh;rw [h,if_neg Bool.false_ne_true,ha,if_neg Bool.false_ne_true]
     ·unfold knh;rw [h,if_neg Bool.false_ne_true,if_pos ha]⟩) (hid (fun W => spec_fan t _ _ _ _ W)) (hid (fun W hb => spec_around _ _ _ _ _ _ _ _ _ _ _ t.ibs t.kbs W (List.length_map _) (List.length_map _) hz2.1 hz2.2 (h5.r.bxs.below hb) ((KdO.bxs h6 h8).below hb) (arS t) (by unfold arS KT.kbs;simp)))
theorem spec_TreeOk (m lo:Nat) (t:KT) (ia ka:Option Addr) (w:World) (h:Kn lo m w ia ka t) (hz:ksz m t ≤ 1048576):Calls Tryz.prog 33 #[kvo t ia ka] w fun e w' => e = .returned (.bool (tokS t)) ∧ Below w.heap.size w w':=
 spec_TreeOk_of m lo t ia ka w h hz (knh 20 true t) (hid (fun W hb => spec_knot 20 (by omega) m lo t ia ka true W (h.below hb) hz))
def PkA (w:World) (n:Nat) (t:KT) (b:Bool) (e:Ending) (w':World):Prop:=∃ h S,e = .returned (.tuple #[kvh t h,.bool b]) ∧ KO w.heap.size n w' h S t ∧ Below w.heap.size w w'
theorem spec_TreePut (m lo:Nat) (t:KT) (ia ka:Option Addr) (x0 x1 x2 x3 x4:Int) (w:World) (h:Kn lo m w ia ka t) (hz:ksz m t ≤ 1048576):Calls Tryz.prog 8 #[kvo t ia ka,.agg #[.int .i64 x0,.int .i64 x1,.int .i64 x2,.int .i64 x3,.int .i64 x4]] w (PkA w 22 (putA t (x0,x1,x2,x3,x4)) (puts t (x0,x1,x2,x3,x4))):=by
 have hL:=Nat.le_trans (kn_itm m 20 h) hz
 have CI:=hid (fun (W:World) (hb:Below w.heap.size w W) => spec_TreeItems m lo t ia ka W (h.below hb) hz)
 have CT:=hid (fun (W:World) (hb:Below w.heap.size w W) => spec_TreeOk m lo t ia ka W (h.below hb) hz)
 have CC:=hid (fun (W:World) (hb:Below w.heap.size w W) => (show Calls Tryz.prog 40 #[kvo t ia ka,.int .i64 20] W (KAns W 21 (cpy 20 t)) from spec_kcopy 20 (Nat.le_refl _) m t ia ka t.its.length t.kids.length W ((h.below hb).knl hz) hz))
 have CP:=hid (fun (W:World) (hb:Below w.heap.size w W) (hok:tokS t = true) (hx:bkb (x1,x2,x3,x4) = true) => show Calls Tryz.prog 41 #[kvo t ia ka,.agg #[.int .i64 x0,.int .i64 x1,.int .i64 x2,.int .i64 x3,.int .i64 x4]] W (KAns W 22 (putT t (x0,x1,x2,x3,x4))) by
  obtain ⟨d,hg,hd,_,_⟩:=tok_gd hok
  cases d with
  | zero => cases hg
  | succ d => exact spec_put d m x0 x1 x2 x3 x4 t (ia,t.its.length,ka,t.kids.length) W hx hg (by omega) ((h.below hb).knl hz) hz)
 have CB:=hid (fun (W:World) => spec_boxok x1 x2 x3 x4 W)
 obtain ⟨b0,b1,b2,b3,b4,ni,nk,hf⟩:=kf t
 rw [kvo_of hf] at CI CT CC CP ⊢
 have HA:=hid (fun (hn:(tokS t && bkb (x1,x2,x3,x4) && !((itm 20 t).map (·.1)).contains x0 && decide ((itm 20 t).length < 400)) = false) => show putA t (x0,x1,x2,x3,x4) = cpy 20 t ∧ puts t (x0,x1,x2,x3,x4) = false from ⟨by unfold putA puts;rw [hn];rfl,hn⟩)
 have HY:=hid (fun (hn:(tokS t && bkb (x1,x2,x3,x4) && !((itm 20 t).map (·.1)).contains x0 && decide ((itm 20 t).length < 400)) = true) => show putA t (x0,x1,x2,x3,x4) = putT t (x0,x1,x2,x3,x4) ∧ puts t (x0,x1,x2,x3,x4) = true from ⟨by unfold putA puts;rw [hn];rfl,hn⟩)
 have hbk:bkb (x1,x2,x3,x4) = bok x1 x2 x3 x4:=rfl
 rw [hbk] at CP HA HY
 generalize putA t (x0,x1,x2,x3,x4) = pa at *
 generalize puts t (x0,x1,x2,x3,x4) = pb at *
 generalize putT t (x0,x1,x2,x3,x4) = pt at *
 have gT:=hid (old_alloc (o':=.cells #[.int .i64 0,.int .i64 0,.int .i64 0,.int .i64 0,.bool false,.slice none 0 0,.slice none 0 0] 35) (old_alloc (o':=.cells #[.int .i64 x0,.int .i64 x1,.int .i64 x2,.int .i64 x3,.int .i64 x4] 40) (new_alloc w w.heap.size (.cells #[.int .i64 b0,.int .i64 b1,.int .i64 b2,.int .i64 b3,.bool b4,.slice ia ni ni,.slice ka nk nk] 35) rfl)))
 have gX:=hid (old_alloc (o':=.cells #[.int .i64 0,.int .i64 0,.int .i64 0,.int .i64 0,.bool false,.slice none 0 0,.slice none 0 0] 35) (new_alloc (w.alloc (.cells #[.int .i64 b0,.int .i64 b1,.int .i64 b2,.int .i64 b3,.bool b4,.slice ia ni ni,.slice ka nk nk] 35)) (w.heap.size + 1) (.cells #[.int .i64 x0,.int .i64 x1,.int .i64 x2,.int .i64 x3,.int .i64 x4] 40) (by simp)))
 have gZ:=hid (new_alloc ((w.alloc (.cells #[.int .i64 b0,.int .i64 b1,.int .i64 b2,.int .i64 b3,.bool b4,.slice ia ni ni,.slice ka nk nk] 35)).alloc (.cells #[.int .i64 x0,.int .i64 x1,.int .i64 x2,.int .i64 x3,.int .i64 x4] 40)) (w.heap.size + 2) (.cells #[.int .i64 0,.int .i64 0,.int .i64 0,.int .i64 0,.bool false,.slice none 0 0,.slice none 0 0] 35) (by simp))
 have B0:=hid (balloc (balloc (balloc (Below.refl w.heap.size w) (.cells #[.int .i64 b0,.int .i64 b1,.int .i64 b2,.int .i64 b3,.bool b4,.slice ia ni ni,.slice ka nk nk] 35)) (.cells #[.int .i64 x0,.int .i64 x1,.int .i64 x2,.int .i64 x3,.int .i64 x4] 40)) (.cells #[.int .i64 0,.int .i64 0,.int .i64 0,.int .i64 0,.bool false,.slice none 0 0,.slice none 0 0] 35))
 clear h hf hz hbk
 go_enter Tryz.func8,Tryz.ntmps8
 go_upto_region 1 with fail
 generalize ((w.alloc (.cells #[.int .i64 b0,.int .i64 b1,.int .i64 b2,.int .i64 b3,.bool b4,.slice ia ni ni,.slice ka nk nk] 35)).alloc (.cells #[.int .i64 x0,.int .i64 x1,.int .i64 x2,.int .i64 x3,.int .i64 x4] 40)).alloc (.cells #[.int .i64 0,.int .i64 0,.int .i64 0,.int .i64 0,.bool false,.slice none 0 0,.slice none 0 0] 35) = V at *
 obtain ⟨a0,a1,a2,a3,a4,a5,a6,_,_,_,_,_,_,_⟩:=cell7k gT.out
 obtain ⟨c0,c1,c2,c3,c4,_,_,_,_,_⟩:=cell5j gX.out
 obtain ⟨r0,r1,r2,r3,r4,r5,r6,s0,s1,s2,s3,s4,s5,s6⟩:=cell7k gZ.out
 go_wp2_with fail
 refine (CI.out _ B0.out).mono ?_
 rintro e W1 ⟨g,c,rfl,hG,hb⟩
 have hcap:=(row_caps hG).1
 have hc63:=(row_caps hG).2
 have HR:=hid hG.r
 replace gT:=hid (keepheap hb gT.out)
 replace gX:=hid (keepheap hb gX.out)
 replace gZ:=hid (keepheap hb gZ.out)
 replace B0:=hid (btrans B0.out hb)
 clear a0 a1 a2 a3 a4 a5 a6 c0 c1 c2 c3 c4 r0 r1 r2 r3 r4 r5 r6 s0 s1 s2 s3 s4 s5 s6
 clear hG hb CI
 obtain ⟨L,hLq⟩:∃ L,L = itm 20 t:=⟨_,rfl⟩
 rw [← hLq] at HA HY HR hL hcap ⊢
 have CH:=hid (fun (W:World) (hb:Below W1.heap.size W1 W) => spec_has g c x0 L W hL (HR.out.below hb))
 have B1:=hid (Below.refl W1.heap.size W1)
 clear HR hLq
 obtain ⟨a0,a1,a2,a3,a4,a5,a6,_,_,_,_,_,_,_⟩:=cell7k gT.out
 obtain ⟨c0,c1,c2,c3,c4,_,_,_,_,_⟩:=cell5j gX.out
 obtain ⟨r0,r1,r2,r3,r4,r5,r6,s0,s1,s2,s3,s4,s5,s6⟩:=cell7k gZ.out
 go_wp2_with fail
 refine (CT.out _ B0.out).mono ?_
 rintro e W2 ⟨rfl,hb⟩
 replace gT:=hid (keepheap hb gT.out)
 replace gX:=hid (keepheap hb gX.out)
 replace gZ:=hid (keepheap hb gZ.out)
 replace B0:=hid (btrans B0.out hb)
 clear a0 a1 a2 a3 a4 a5 a6 c0 c1 c2 c3 c4 r0 r1 r2 r3 r4 r5 r6 s0 s1 s2 s3 s4 s5 s6
 replace B1:=hid (btrans B1.out hb)
 clear hb CT
 obtain ⟨a0,a1,a2,a3,a4,a5,a6,_,_,_,_,_,_,_⟩:=cell7k gT.out
 obtain ⟨c0,c1,c2,c3,c4,_,_,_,_,_⟩:=cell5j gX.out
 obtain ⟨r0,r1,r2,r3,r4,r5,r6,s0,s1,s2,s3,s4,s5,s6⟩:=cell7k gZ.out
 have HC0:∀ (b:Bool),Hid (tokS t = b) → Hid (tokS t = b):=fun _ h => h
 cases hok:tokS t
 ·have hok':=hok
  rw [hok] at HA
  clear HY CP HC0
  have HAn:=hid (HA.out (by simp))
  go_wp2_with fail
  refine (CC.out _ B0.out).mono ?_
  rintro e W4 ⟨hc,Sc,rfl,hko,hb⟩
  have hW3:=B0.out.size
  have hZ2:=lt_of_heap gZ.out
  replace gT:=hid (keepheap hb gT.out)
  replace gX:=hid (keepheap hb gX.out)
  replace gZ:=hid (keepheap hb gZ.out)
  replace B0:=hid (btrans B0.out hb)
  clear a0 a1 a2 a3 a4 a5 a6 c0 c1 c2 c3 c4 r0 r1 r2 r3 r4 r5 r6 s0 s1 s2 s3 s4 s5 s6
  clear hb
  obtain ⟨y0,y1,y2,y3,y4,ya,yn,yc,yb,ym,yd,hyv,_⟩:=kh ((cpy 20 t),hc,Sc)
  have hyv':ckh (cpy 20 t) hc = [.int .i64 y0,.int .i64 y1,.int .i64 y2,.int .i64 y3,.bool y4,.slice ya yn yc,.slice yb ym yd]:=hyv
  have hkz:kvh (cpy 20 t) hc = .agg #[.int .i64 y0,.int .i64 y1,.int .i64 y2,.int .i64 y3,.bool y4,.slice ya yn yc,.slice yb ym yd]:=by
   show Value.agg (ckh (cpy 20 t) hc).toArray = _
   rw [hyv']
  rw [hkz]
  have HKZ:=hid hkz
  obtain ⟨a0,a1,a2,a3,a4,a5,a6,_,_,_,_,_,_,_⟩:=cell7k gT.out
  obtain ⟨c0,c1,c2,c3,c4,_,_,_,_,_⟩:=cell5j gX.out
  obtain ⟨r0,r1,r2,r3,r4,r5,r6,s0,s1,s2,s3,s4,s5,s6⟩:=cell7k gZ.out
  have hF:=setL_new [.int .i64 y0,.int .i64 y1,.int .i64 y2,.int .i64 y3,.bool y4,.slice ya yn yc,.slice yb ym yd] gZ.out rfl
  have hO:=fun x (hx:x ≠ w.heap.size + 2) => setL_blk [.int .i64 y0,.int .i64 y1,.int .i64 y2,.int .i64 y3,.bool y4,.slice ya yn yc,.slice yb ym yd] W4 (w.heap.size + 2) 0 x (fun e => hx e.symm)
  have hBB:=setL_below [.int .i64 y0,.int .i64 y1,.int .i64 y2,.int .i64 y3,.bool y4,.slice ya yn yc,.slice yb ym yd] w W4 (w.heap.size + 2) 0 _ B0.out (by omega)
  simp only [setL,Nat.zero_add,Nat.reduceAdd] at hF hO hBB
  obtain ⟨z0,z1,z2,z3,z4,z5,z6,_,_,_,_,_,_,_⟩:=cell7k hF
  clear hF hyv hyv' hkz
  have hZs:=lt_of_heap gZ.out
  go_wp2_with fail
  refine bodyPost_ret (v:=.tuple #[.agg #[.int .i64 y0,.int .i64 y1,.int .i64 y2,.int .i64 y3,.bool y4,.slice ya yn yc,.slice yb ym yd],.bool false]) (by simp [results,Tryz.results8,go_sem,z0,z1,z2,z3,z4,z5,z6]) rfl ?_
  exact ⟨hc,Sc,by rw [HAn.out.1,HAn.out.2,HKZ.out],by rw [HAn.out.1];exact (KO.lo hW3 hko.more).keep (fun b hb' => hO b (by have:=(hko.lt b hb').1;omega)),hBB⟩
 ·rw [hok] at HA HY
  have HOK:=hid hok
  clear hok HC0
  go_wp2_with fail
  refine (CB.out _).mono ?_
  rintro e W3 ⟨rfl,hb⟩
  replace gT:=hid (keepheap hb gT.out)
  replace gX:=hid (keepheap hb gX.out)
  replace gZ:=hid (keepheap hb gZ.out)
  replace B0:=hid (btrans B0.out hb)
  clear a0 a1 a2 a3 a4 a5 a6 c0 c1 c2 c3 c4 r0 r1 r2 r3 r4 r5 r6 s0 s1 s2 s3 s4 s5 s6
  replace B1:=hid (btrans B1.out hb)
  clear hb CB
  obtain ⟨a0,a1,a2,a3,a4,a5,a6,_,_,_,_,_,_,_⟩:=cell7k gT.out
  obtain ⟨c0,c1,c2,c3,c4,_,_,_,_,_⟩:=cell5j gX.out
  obtain ⟨r0,r1,r2,r3,r4,r5,r6,s0,s1,s2,s3,s4,s5,s6⟩:=cell7k gZ.out
  cases hbo:bok x1 x2 x3 x4
  ·rw [hbo] at HA
   clear HY CP
   have HAn:=hid (HA.out (by simp))
   go_wp2_with fail
   refine (CC.out _ B0.out).mono ?_
   rintro e W4 ⟨hc,Sc,rfl,hko,hb⟩
   have hW3:=B0.out.size
   have hZ2:=lt_of_heap gZ.out
   replace gT:=hid (keepheap hb gT.out)
   replace gX:=hid (keepheap hb gX.out)
   replace gZ:=hid (keepheap hb gZ.out)
   replace B0:=hid (btrans B0.out hb)
   clear a0 a1 a2 a3 a4 a5 a6 c0 c1 c2 c3 c4 r0 r1 r2 r3 r4 r5 r6 s0 s1 s2 s3 s4 s5 s6
   clear hb
   obtain ⟨y0,y1,y2,y3,y4,ya,yn,yc,yb,ym,yd,hyv,_⟩:=kh ((cpy 20 t),hc,Sc)
   have hyv':ckh (cpy 20 t) hc = [.int .i64 y0,.int .i64 y1,.int .i64 y2,.int .i64 y3,.bool y4,.slice ya yn yc,.slice yb ym yd]:=hyv
   have hkz:kvh (cpy 20 t) hc = .agg #[.int .i64 y0,.int .i64 y1,.int .i64 y2,.int .i64 y3,.bool y4,.slice ya yn yc,.slice yb ym yd]:=by
    show Value.agg (ckh (cpy 20 t) hc).toArray = _
    rw [hyv']
   rw [hkz]
   have HKZ:=hid hkz
   obtain ⟨a0,a1,a2,a3,a4,a5,a6,_,_,_,_,_,_,_⟩:=cell7k gT.out
   obtain ⟨c0,c1,c2,c3,c4,_,_,_,_,_⟩:=cell5j gX.out
   obtain ⟨r0,r1,r2,r3,r4,r5,r6,s0,s1,s2,s3,s4,s5,s6⟩:=cell7k gZ.out
   have hF:=setL_new [.int .i64 y0,.int .i64 y1,.int .i64 y2,.int .i64 y3,.bool y4,.slice ya yn yc,.slice yb ym yd] gZ.out rfl
   have hO:=fun x (hx:x ≠ w.heap.size + 2) => setL_blk [.int .i64 y0,.int .i64 y1,.int .i64 y2,.int .i64 y3,.bool y4,.slice ya yn yc,.slice yb ym yd] W4 (w.heap.size + 2) 0 x (fun e => hx e.symm)
   have hBB:=setL_below [.int .i64 y0,.int .i64 y1,.int .i64 y2,.int .i64 y3,.bool y4,.slice ya yn yc,.slice yb ym yd] w W4 (w.heap.size + 2) 0 _ B0.out (by omega)
   simp only [setL,Nat.zero_add,Nat.reduceAdd] at hF hO hBB
   obtain ⟨z0,z1,z2,z3,z4,z5,z6,_,_,_,_,_,_,_⟩:=cell7k hF
   clear hF hyv hyv' hkz
   have hZs:=lt_of_heap gZ.out
   go_wp2_with fail
   refine bodyPost_ret (v:=.tuple #[.agg #[.int .i64 y0,.int .i64 y1,.int .i64 y2,.int .i64 y3,.bool y4,.slice ya yn yc,.slice yb ym yd],.bool false]) (by simp [results,Tryz.results8,go_sem,z0,z1,z2,z3,z4,z5,z6]) rfl ?_
   exact ⟨hc,Sc,by rw [HAn.out.1,HAn.out.2,HKZ.out],by rw [HAn.out.1];exact (KO.lo hW3 hko.more).keep (fun b hb' => hO b (by have:=(hko.lt b hb').1;omega)),hBB⟩
  ·rw [hbo] at HA HY
   have HBO:=hid hbo
   clear hbo
   go_wp2_with fail
   refine (CH.out _ B1.out).mono ?_
   rintro e W3 ⟨rfl,hb⟩
   replace gT:=hid (keepheap hb gT.out)
   replace gX:=hid (keepheap hb gX.out)
   replace gZ:=hid (keepheap hb gZ.out)
   replace B0:=hid (btrans B0.out hb)
   clear a0 a1 a2 a3 a4 a5 a6 c0 c1 c2 c3 c4 r0 r1 r2 r3 r4 r5 r6 s0 s1 s2 s3 s4 s5 s6
   clear hb CH B1
   obtain ⟨a0,a1,a2,a3,a4,a5,a6,_,_,_,_,_,_,_⟩:=cell7k gT.out
   obtain ⟨c0,c1,c2,c3,c4,_,_,_,_,_⟩:=cell5j gX.out
   obtain ⟨r0,r1,r2,r3,r4,r5,r6,s0,s1,s2,s3,s4,s5,s6⟩:=cell7k gZ.out
   cases hco:(L.map (·.1)).contains x0
   ·rw [hco] at HA HY
    clear hco
    by_cases h4:L.length < 400
    ·rw [decide_eq_true h4] at HY
     clear HA CC
     have hn4:¬ ((400:Int) ≤ (L.length:Int)):=by omega
     have HAn:=hid (HY.out (by simp))
     go_wp2_with fail
     refine (CP.out _ B0.out HOK.out HBO.out).mono ?_
     rintro e W4 ⟨hc,Sc,rfl,hko,hb⟩
     have hW3:=B0.out.size
     have hZ2:=lt_of_heap gZ.out
     replace gT:=hid (keepheap hb gT.out)
     replace gX:=hid (keepheap hb gX.out)
     replace gZ:=hid (keepheap hb gZ.out)
     replace B0:=hid (btrans B0.out hb)
     clear a0 a1 a2 a3 a4 a5 a6 c0 c1 c2 c3 c4 r0 r1 r2 r3 r4 r5 r6 s0 s1 s2 s3 s4 s5 s6
     clear hb
     obtain ⟨y0,y1,y2,y3,y4,ya,yn,yc,yb,ym,yd,hyv,_⟩:=kh (pt,hc,Sc)
     have hyv':ckh pt hc = [.int .i64 y0,.int .i64 y1,.int .i64 y2,.int .i64 y3,.bool y4,.slice ya yn yc,.slice yb ym yd]:=hyv
     have hkz:kvh pt hc = .agg #[.int .i64 y0,.int .i64 y1,.int .i64 y2,.int .i64 y3,.bool y4,.slice ya yn yc,.slice yb ym yd]:=by
      show Value.agg (ckh pt hc).toArray = _
      rw [hyv']
     rw [hkz]
     have HKZ:=hid hkz
     obtain ⟨a0,a1,a2,a3,a4,a5,a6,_,_,_,_,_,_,_⟩:=cell7k gT.out
     obtain ⟨c0,c1,c2,c3,c4,_,_,_,_,_⟩:=cell5j gX.out
     obtain ⟨r0,r1,r2,r3,r4,r5,r6,s0,s1,s2,s3,s4,s5,s6⟩:=cell7k gZ.out
     have hF:=setL_new [.int .i64 y0,.int .i64 y1,.int .i64 y2,.int .i64 y3,.bool y4,.slice ya yn yc,.slice yb ym yd] gZ.out rfl
     have hO:=fun x (hx:x ≠ w.heap.size + 2) => setL_blk [.int .i64 y0,.int .i64 y1,.int .i64 y2,.int .i64 y3,.bool y4,.slice ya yn yc,.slice yb ym yd] W4 (w.heap.size + 2) 0 x (fun e => hx e.symm)
     have hBB:=setL_below [.int .i64 y0,.int .i64 y1,.int .i64 y2,.int .i64 y3,.bool y4,.slice ya yn yc,.slice yb ym yd] w W4 (w.heap.size + 2) 0 _ B0.out (by omega)
     simp only [setL,Nat.zero_add,Nat.reduceAdd] at hF hO hBB
     obtain ⟨z0,z1,z2,z3,z4,z5,z6,_,_,_,_,_,_,_⟩:=cell7k hF
     clear hF hyv hyv' hkz
     have hZs:=lt_of_heap gZ.out
     go_wp2_with fail
     refine bodyPost_ret (v:=.tuple #[.agg #[.int .i64 y0,.int .i64 y1,.int .i64 y2,.int .i64 y3,.bool y4,.slice ya yn yc,.slice yb ym yd],.bool true]) (by simp [results,Tryz.results8,go_sem,z0,z1,z2,z3,z4,z5,z6]) rfl ?_
     exact ⟨hc,Sc,by rw [HAn.out.1,HAn.out.2,HKZ.out],by rw [HAn.out.1];exact (KO.lo hW3 hko).keep (fun b hb' => hO b (by have:=(hko.lt b hb').1;omega)),hBB⟩
    ·rw [decide_eq_false h4] at HA
     have hn4:((400:Int) ≤ (L.length:Int)):=by omega
     clear HY CP
     have HAn:=hid (HA.out (by simp))
     go_wp2_with fail
     refine (CC.out _ B0.out).mono ?_
     rintro e W4 ⟨hc,Sc,rfl,hko,hb⟩
     have hW3:=B0.out.size
     have hZ2:=lt_of_heap gZ.out
     replace gT:=hid (keepheap hb gT.out)
     replace gX:=hid (keepheap hb gX.out)
     replace gZ:=hid (keepheap hb gZ.out)
     replace B0:=hid (btrans B0.out hb)
     clear a0 a1 a2 a3 a4 a5 a6 c0 c1 c2 c3 c4 r0 r1 r2 r3 r4 r5 r6 s0 s1 s2 s3 s4 s5 s6
     clear hb
     obtain ⟨y0,y1,y2,y3,y4,ya,yn,yc,yb,ym,yd,hyv,_⟩:=kh ((cpy 20 t),hc,Sc)
     have hyv':ckh (cpy 20 t) hc = [.int .i64 y0,.int .i64 y1,.int .i64 y2,.int .i64 y3,.bool y4,.slice ya yn yc,.slice yb ym yd]:=hyv
     have hkz:kvh (cpy 20 t) hc = .agg #[.int .i64 y0,.int .i64 y1,.int .i64 y2,.int .i64 y3,.bool y4,.slice ya yn yc,.slice yb ym yd]:=by
      show Value.agg (ckh (cpy 20 t) hc).toArray = _
      rw [hyv']
     rw [hkz]
     have HKZ:=hid hkz
     obtain ⟨a0,a1,a2,a3,a4,a5,a6,_,_,_,_,_,_,_⟩:=cell7k gT.out
     obtain ⟨c0,c1,c2,c3,c4,_,_,_,_,_⟩:=cell5j gX.out
     obtain ⟨r0,r1,r2,r3,r4,r5,r6,s0,s1,s2,s3,s4,s5,s6⟩:=cell7k gZ.out
     have hF:=setL_new [.int .i64 y0,.int .i64 y1,.int .i64 y2,.int .i64 y3,.bool y4,.slice ya yn yc,.slice yb ym yd] gZ.out rfl
     have hO:=fun x (hx:x ≠ w.heap.size + 2) => setL_blk [.int .i64 y0,.int .i64 y1,.int .i64 y2,.int .i64 y3,.bool y4,.slice ya yn yc,.slice yb ym yd] W4 (w.heap.size + 2) 0 x (fun e => hx e.symm)
     have hBB:=setL_below [.int .i64 y0,.int .i64 y1,.int .i64 y2,.int .i64 y3,.bool y4,.slice ya yn yc,.slice yb ym yd] w W4 (w.heap.size + 2) 0 _ B0.out (by omega)
     simp only [setL,Nat.zero_add,Nat.reduceAdd] at hF hO hBB
     obtain ⟨z0,z1,z2,z3,z4,z5,z6,_,_,_,_,_,_,_⟩:=cell7k hF
     clear hF hyv hyv' hkz
     have hZs:=lt_of_heap gZ.out
     go_wp2_with fail
     refine bodyPost_ret (v:=.tuple #[.agg #[.int .i64 y0,.int .i64 y1,.int .i64 y2,.int .i64 y3,.bool y4,.slice ya yn yc,.slice yb ym yd],.bool false]) (by simp [results,Tryz.results8,go_sem,z0,z1,z2,z3,z4,z5,z6]) rfl ?_
     exact ⟨hc,Sc,by rw [HAn.out.1,HAn.out.2,HKZ.out],by rw [HAn.out.1];exact (KO.lo hW3 hko.more).keep (fun b hb' => hO b (by have:=(hko.lt b hb').1;omega)),hBB⟩
   ·rw [hco] at HA
    clear HY CP
    have HAn:=hid (HA.out (by simp))
    go_wp2_with fail
    refine (CC.out _ B0.out).mono ?_
    rintro e W4 ⟨hc,Sc,rfl,hko,hb⟩
    have hW3:=B0.out.size
    have hZ2:=lt_of_heap gZ.out
    replace gT:=hid (keepheap hb gT.out)
    replace gX:=hid (keepheap hb gX.out)
    replace gZ:=hid (keepheap hb gZ.out)
    replace B0:=hid (btrans B0.out hb)
    clear a0 a1 a2 a3 a4 a5 a6 c0 c1 c2 c3 c4 r0 r1 r2 r3 r4 r5 r6 s0 s1 s2 s3 s4 s5 s6
    clear hb
    obtain ⟨y0,y1,y2,y3,y4,ya,yn,yc,yb,ym,yd,hyv,_⟩:=kh ((cpy 20 t),hc,Sc)
    have hyv':ckh (cpy 20 t) hc = [.int .i64 y0,.int .i64 y1,.int .i64 y2,.int .i64 y3,.bool y4,.slice ya yn yc,.slice yb ym yd]:=hyv
    have hkz:kvh (cpy 20 t) hc = .agg #[.int .i64 y0,.int .i64 y1,.int .i64 y2,.int .i64 y3,.bool y4,.slice ya yn yc,.slice yb ym yd]:=by
     show Value.agg (ckh (cpy 20 t) hc).toArray = _
     rw [hyv']
    rw [hkz]
    have HKZ:=hid hkz
    obtain ⟨a0,a1,a2,a3,a4,a5,a6,_,_,_,_,_,_,_⟩:=cell7k gT.out
    obtain ⟨c0,c1,c2,c3,c4,_,_,_,_,_⟩:=cell5j gX.out
    obtain ⟨r0,r1,r2,r3,r4,r5,r6,s0,s1,s2,s3,s4,s5,s6⟩:=cell7k gZ.out
    have hF:=setL_new [.int .i64 y0,.int .i64 y1,.int .i64 y2,.int .i64 y3,.bool y4,.slice ya yn yc,.slice yb ym yd] gZ.out rfl
    have hO:=fun x (hx:x ≠ w.heap.size + 2) => setL_blk [.int .i64 y0,.int .i64 y1,.int .i64 y2,.int .i64 y3,.bool y4,.slice ya yn yc,.slice yb ym yd] W4 (w.heap.size + 2) 0 x (fun e => hx e.symm)
    have hBB:=setL_below [.int .i64 y0,.int .i64 y1,.int .i64 y2,.int .i64 y3,.bool y4,.slice ya yn yc,.slice yb ym yd] w W4 (w.heap.size + 2) 0 _ B0.out (by omega)
    simp only [setL,Nat.zero_add,Nat.reduceAdd] at hF hO hBB
    obtain ⟨z0,z1,z2,z3,z4,z5,z6,_,_,_,_,_,_,_⟩:=cell7k hF
    clear hF hyv hyv' hkz
    have hZs:=lt_of_heap gZ.out
    go_wp2_with fail
    refine bodyPost_ret (v:=.tuple #[.agg #[.int .i64 y0,.int .i64 y1,.int .i64 y2,.int .i64 y3,.bool y4,.slice ya yn yc,.slice yb ym yd],.bool false]) (by simp [results,Tryz.results8,go_sem,z0,z1,z2,z3,z4,z5,z6]) rfl ?_
    exact ⟨hc,Sc,by rw [HAn.out.1,HAn.out.2,HKZ.out],by rw [HAn.out.1];exact (KO.lo hW3 hko.more).keep (fun b hb' => hO b (by have:=(hko.lt b hb').1;omega)),hBB⟩
end Go.Proofs.YtjahlofahjgdbaaGreat
