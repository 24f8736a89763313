/- Texts of stores, joined: Ll, Ib, Fm. -/
import Derived.Test.YtjahlofahjgdbaaGreatJ26
import Derived.Test.YtjahlofahjgdbaaGreatJ24
import Derived.ChangeArms
import Derived.Deep.SlicePairs
set_option maxRecDepth 100000
set_option maxHeartbeats 8000000
set_option linter.unusedSimpArgs false
set_option linter.unusedVariables false
namespace Go.Proofs.YtjahlofahjgdbaaGreat
open Go.RowKit
theorem heldL_items (a:Option Addr) (c:Nat) (l:List It) (z:Int) (w:World) (hn:l.length ≤ 1048576) (hz:0 ≤ z ∧ z ≤ 1099511627776) (h:ItL w a l) (hm:mit z l = l):Calls Tryz.prog 54 #[.slice a l.length c,.int .i64 z] w fun e w' => e = .returned (.int .i64 (z + 5 * (l.length:Int))) ∧ Below w.heap.size w w':=by
 have HP:=hid h
 have HM:=hid (fun (j:Nat) (hj:j < l.length) => show ci l[j] = mk5 (z + 5 * (j:Int)) by
  have h2:j < (mit z l).length:=by rw [mit_len];exact hj
  have e:=mit_get l z j h2
  have e2:(mit z l)[j] = l[j]:=by congr 1
  rw [← e2,e]
  rfl)
 clear h hm
 go_enter Tryz.func54,Tryz.ntmps54
 go_wp2_with fail
 go_loopw [1,5] (fun t1 t5 wr => ∃ k:Nat,t5 = .int .i64 k ∧ t1 = .int .i64 (z + 5 * (k:Int)) ∧ k ≤ l.length ∧ Hid (Below w.heap.size w wr)) (fun _ t5 _ => l.length - (intOf t5).toNat)
 case atStart => exact ⟨0,rfl,by simp,Nat.zero_le _,hid (Below.refl _ _)⟩
 case round =>
  obtain ⟨k,rfl,rfl,hk,HB⟩:=hrel
  by_cases hlt:k < l.length
  ·have c1:(k:Int) < (l.length:Int):=by omega
   obtain ⟨p,o1,rfl,hp,h1⟩:∃ b off,a = some ⟨b,off,none⟩ ∧ b < w.heap.size ∧ ∀ j (h:j < l.length),Cs w b (off + j * 5) (ci l[j]):=by
    rcases HP.out with h | h
    ·rw [h] at hlt;simp at hlt
    ·exact h
   have hc:=(h1 k hlt).below hp HB.out
   rw [HM.out k hlt] at hc
   clear h1
   have q0:=hc 0 _ rfl
   have q1:=hc 1 _ rfl
   have q2:=hc 2 _ rfl
   have q3:=hc 3 _ rfl
   have q4:=hc 4 _ rfl
   obtain ⟨y,hy⟩:∃ y,y = z + 5 * (k:Int):=⟨_,rfl⟩
   rw [← hy] at q0 q1 q2 q3 q4 ⊢
   have hyb:0 ≤ y ∧ y ≤ 2199023255552:=by omega
   have HY:=hid hy
   have e1:IntKind.i64.wrap (y + 1) = y + 1:=by rw [IntKind.wrap_i64] <;> omega
   have e2:IntKind.i64.wrap (y + 1 + 1) = y + 2:=by rw [IntKind.wrap_i64] <;> omega
   have e3:IntKind.i64.wrap (y + 2 + 1) = y + 3:=by rw [IntKind.wrap_i64] <;> omega
   have e4:IntKind.i64.wrap (y + 3 + 1) = y + 4:=by rw [IntKind.wrap_i64] <;> omega
   have e5:IntKind.i64.wrap (y + 4 + 1) = y + 5:=by rw [IntKind.wrap_i64] <;> omega
   clear hy hc
   simp only [Nat.add_zero] at q0
   go_wp2_with fail
   go_roundw
   case rel => exact ⟨k + 1,by go_num,by rw [HY.out];congr 1;omega,by omega,HB⟩
   case measure => simp [intOf];omega
  ·have c1:¬ (k:Int) < (l.length:Int):=by omega
   have hkn:k = l.length:=by omega
   subst hkn
   go_wp2_with fail
   go_ret
   exact ⟨rfl,HB.out⟩
theorem fix_parts {n:Nat} {y:Int} {t:KT} (e:t = mkh y (mkt (n + 1) (y + 5) t)):t.box = (y,y + 1,y + 1 + 1,y + 1 + 1 + 1) ∧ t.lf = ((y + 1 + 1 + 1 + 1) % 3 == 0) ∧ mit (y + 5) t.its = t.its ∧ mks (mkt n) (ksz n) (y + 5 + 5 * (t.its.length:Int)) t.kids = t.kids:=by
 refine ⟨congrArg KT.box e,congrArg KT.lf e,?_,?_⟩
 ·exact (congrArg KT.its e).symm
 ·exact (congrArg KT.kids e).symm
theorem heldL_step (n:Nat)
  (IH:∀ n',n = n' + 1 → ∀ (l:List KT) (a:Option Addr) (c:Nat) (z:Int) (w:World),KdL n' w a l → mks (mkt n') (ksz n') z l = l → kz n' l ≤ 1048576 → 0 ≤ z ∧ z + 5 * (kz n' l:Int) ≤ 1099511627776 → Calls Tryz.prog 55 #[.slice a l.length c,.int .i64 z] w fun e w' => e = .returned (.int .i64 (z + 5 * (kz n' l:Int))) ∧ Below w.heap.size w w')
  (l:List KT) (a:Option Addr) (c:Nat) (z:Int) (w:World) (h:KdL n w a l) (hm:mks (mkt n) (ksz n) z l = l) (hz:kz n l ≤ 1048576) (hzz:0 ≤ z ∧ z + 5 * (kz n l:Int) ≤ 1099511627776):Calls Tryz.prog 55 #[.slice a l.length c,.int .i64 z] w fun e w' => e = .returned (.int .i64 (z + 5 * (kz n l:Int))) ∧ Below w.heap.size w w':=by
 have HP:=hid h
 have HM:=hid (fun (j:Nat) (hj:j < l.length) => fix_at hm hj)
 have hll:l.length ≤ 1048576:=by unfold kz at hz;omega
 have HIH:=hid IH
 clear h hm IH
 go_enter Tryz.func55,Tryz.ntmps55
 go_wp2_with fail
 go_loopw [1,5] (fun t1 t5 wr => ∃ k:Nat,t5 = .int .i64 k ∧ t1 = .int .i64 (z + 5 * (kz n (l.take k):Int)) ∧ k ≤ l.length ∧ Hid (Below w.heap.size w wr)) (fun _ t5 _ => l.length - (intOf t5).toNat)
 case atStart => exact ⟨0,rfl,by simp [kz],Nat.zero_le _,hid (Below.refl _ _)⟩
 case round =>
  obtain ⟨k,rfl,rfl,hk,HB⟩:=hrel
  by_cases hlt:k < l.length
  ·have c1:(k:Int) < (l.length:Int):=by omega
   obtain ⟨p,o1,rfl,hp,h1⟩:∃ b off,a = some ⟨b,off,none⟩ ∧ b < w.heap.size ∧ ∀ j (h:j < l.length),∃ ia' ic' ka' kc',Cs w b (off + j * 7) (ck l[j] ia' ic' ka' kc') ∧ KnL n w ia' ic' ka' kc' l[j]:=by
    rcases HP.out with h | h
    ·rw [h] at hlt;simp at hlt
    ·exact h
   obtain ⟨ia,ic,ka,kc,hcs,hkn⟩:=h1 k hlt
   clear h1
   cases n with
   | zero => exact hkn.elim
   | succ n =>
   have hnx:=kz_next (n + 1) l k hlt
   have hle:=kz_le (n + 1) l (k + 1)
   rw [hnx,ksz_kz] at hle
   rw [ksz_kz] at hnx
   have HNX:=hid hnx
   have hfx:=HM.out k hlt
   have hcs':=hcs.below hp HB.out
   have hkn':=hkn.below HB.out
   obtain ⟨y,hy⟩:∃ y,y = z + 5 * (kz (n + 1) (l.take k):Int):=⟨_,rfl⟩
   rw [← hy] at hfx ⊢
   have HY:=hid hy
   generalize l[k] = t at *
   obtain ⟨hbx,hlf,hit,hkd⟩:=fix_parts hfx
   obtain ⟨p1,p2,p3,p4,p5,p6⟩:=hkn'
   have hck:ck t ia ic ka kc = [.int .i64 y,.int .i64 (y + 1),.int .i64 (y + 1 + 1),.int .i64 (y + 1 + 1 + 1),.bool ((y + 1 + 1 + 1 + 1) % 3 == 0),.slice ia t.its.length ic,.slice ka t.kids.length kc]:=by
    unfold ck
    rw [hbx,hlf]
   rw [hck] at hcs'
   obtain ⟨g0,g1,g2,g3,g4,g5,g6⟩:=hcs'.knot7
   have hyb:0 ≤ y ∧ y + 5 * (1 + (t.its.length:Int) + (kz n t.kids:Int)) ≤ 1099511627776:=by omega
   have hti:t.its.length ≤ 1048576:=by omega
   have hkz2:kz n t.kids ≤ 1048576:=by omega
   have CI:=hid (fun (W:World) (hb:Below wr.heap.size wr W) => heldL_items ia ic t.its (y + 5) W hti ⟨by omega,by omega⟩ (p1.below hb) hit)
   have CK:=hid (fun (W:World) (hb:Below wr.heap.size wr W) => HIH.out n rfl t.kids ka kc (y + 5 + 5 * (t.its.length:Int)) W (KdL.below p6 hb) hkd hkz2 ⟨by omega,by omega⟩)
   have g5b:=hid (fun (W:World) (hb:Below wr.heap.size wr W) => keepcell hb g5)
   have g6b:=hid (fun (W:World) (hb:Below wr.heap.size wr W) => keepcell hb g6)
   clear hcs hkn hcs' hck hbx hlf hit hkd p1 p2 p3 p4 p5 p6 hfx
   generalize t.its.length = ni at *
   generalize t.kids.length = nk at *
   generalize hkq:kz n t.kids = kq at *
   have h1n:¬ (y + 5 + 5 * (ni:Int)) < 0:=by omega
   have h2n:¬ (y + 5 + 5 * (ni:Int) + 5 * (kq:Int)) < 0:=by omega
   clear hle hnx hy hkq
   have e5:IntKind.i64.wrap (y + 1 + 1 + 1 + 1 + 1) = y + 5:=by rw [IntKind.wrap_i64] <;> omega
   go_wp2_with fail
   refine (CI.out _ (Below.refl _ _)).mono ?_
   rintro e W6 ⟨rfl,hb6⟩
   have g6c:=g6b.out W6 hb6
   have HB6:=hid (btrans HB.out hb6)
   have HBW:=hid hb6
   clear hb6 CI g0 g1 g2 g3 g4 g5 g6 g5b g6b
   go_wp2_with fail
   refine (CK.out _ HBW.out).mono ?_
   rintro e W7 ⟨rfl,hb7⟩
   have HB7:=hid (btrans HB6.out hb7)
   clear hb7 CK g6c
   go_wp2_with fail
   go_roundw
   case rel => exact ⟨k + 1,by go_num,by rw [HNX.out,HY.out];congr 1;omega,by omega,HB7⟩
   case measure => simp [intOf];omega
  ·have c1:¬ (k:Int) < (l.length:Int):=by omega
   have hkn:k = l.length:=by omega
   subst hkn
   have hall:l.take l.length = l:=List.take_length
   rw [hall]
   go_wp2_with fail
   go_ret
   exact ⟨rfl,HB.out⟩
theorem heldL (n:Nat):∀ (l:List KT) (a:Option Addr) (c:Nat) (z:Int) (w:World),KdL n w a l → mks (mkt n) (ksz n) z l = l → kz n l ≤ 1048576 → 0 ≤ z ∧ z + 5 * (kz n l:Int) ≤ 1099511627776 → Calls Tryz.prog 55 #[.slice a l.length c,.int .i64 z] w fun e w' => e = .returned (.int .i64 (z + 5 * (kz n l:Int))) ∧ Below w.heap.size w w':=by
 induction n with
 | zero => exact fun l a c z w => heldL_step 0 (fun n' e => by omega) l a c z w
 | succ n IH =>
  refine fun l a c z w => heldL_step (n + 1) (fun n' e => ?_) l a c z w
  have e':n' = n:=by omega
  subst e'
  exact IH
theorem heldL_knot (n:Nat) (t:KT) (ia ka:Option Addr) (ic kc:Nat) (w:World) (hz:ksz n t ≤ 1048576) (h:KnL n w ia ic ka kc t) (hm:mkt n 1 t = t):Calls Tryz.prog 14 #[kv t ia ic ka kc,.int .i64 1] w fun e w' => e = .returned (.int .i64 (1 + 5 * (ksz n t:Int))) ∧ Below w.heap.size w w':=by
 cases n with
 | zero => exact h.elim
 | succ n =>
 obtain ⟨p1,p2,p3,p4,p5,p6⟩:=h
 have hit:mit 1 t.its = t.its:=congrArg KT.its hm
 have hkd:mks (mkt n) (ksz n) (1 + 5 * (t.its.length:Int)) t.kids = t.kids:=congrArg KT.kids hm
 rw [ksz_kz] at hz ⊢
 have hti:t.its.length ≤ 1048576:=by omega
 have hkz2:kz n t.kids ≤ 1048576:=by omega
 have CI:=hid (fun (W:World) (hb:Below w.heap.size w W) => heldL_items ia ic t.its 1 W hti ⟨by omega,by omega⟩ (p1.below hb) hit)
 have CK:=hid (fun (W:World) (hb:Below w.heap.size w W) => heldL n t.kids ka kc (1 + 5 * (t.its.length:Int)) W (KdL.below p6 hb) hkd hkz2 ⟨by omega,by omega⟩)
 obtain ⟨b0,b1,b2,b3,b4,ni,nk,hf⟩:=kf t
 rw [kv_of' hf]
 rw [hf.its] at CI CK hz ⊢
 rw [hf.kids] at CK
 generalize kz n t.kids = kq at *
 have h1n:¬ ((1:Int) + 5 * (ni:Int)) < 0:=by omega
 have h2n:¬ ((1:Int) + 5 * (ni:Int) + 5 * (kq:Int)) < 0:=by omega
 clear p1 p2 p3 p4 p5 p6 hit hkd hm hti hf
 have gT:=new_alloc w w.heap.size (.cells #[.int .i64 b0,.int .i64 b1,.int .i64 b2,.int .i64 b3,.bool b4,.slice ia ni ic,.slice ka nk kc] 35) rfl
 have B0:=hid (balloc (Below.refl w.heap.size w) (.cells #[.int .i64 b0,.int .i64 b1,.int .i64 b2,.int .i64 b3,.bool b4,.slice ia ni ic,.slice ka nk kc] 35))
 obtain ⟨a0,a1,a2,a3,a4,a5,a6,_,_,_,_,_,_,_⟩:=cell7k gT
 go_enter Tryz.func14,Tryz.ntmps14
 go_wp2_with fail
 generalize w.alloc (.cells #[.int .i64 b0,.int .i64 b1,.int .i64 b2,.int .i64 b3,.bool b4,.slice ia ni ic,.slice ka nk kc] 35) = V at *
 refine (CI.out _ B0.out).mono ?_
 rintro e W6 ⟨rfl,hb6⟩
 replace gT:=keepheap hb6 gT
 replace B0:=hid (btrans B0.out hb6)
 clear hb6 CI a0 a1 a2 a3 a4 a5 a6
 obtain ⟨a0,a1,a2,a3,a4,a5,a6,_,_,_,_,_,_,_⟩:=cell7k gT
 go_wp2_with fail
 refine (CK.out _ B0.out).mono ?_
 rintro e W7 ⟨rfl,hb7⟩
 replace B0:=hid (btrans B0.out hb7)
 clear hb7 CK a0 a1 a2 a3 a4 a5 a6
 go_wp2_with fail
 go_ret
 exact ⟨by rw [show (1:Int) + 5 * ((ni + kq:Nat):Int) = 1 + 5 * (ni:Int) + 5 * (kq:Int) by omega];rfl,B0.out⟩
def PkS (v:World) (pa:KT) (pb:Bool) (t6 t7:Value) (wx:World):Prop:=∃ (zb:Nat) (hw:Hd) (Sw:List Nat),t6 = .pointer (some ⟨zb,0,none⟩) ∧ t7 = .bool pb ∧ wx.heap[zb]? = some (.cells (ckh pa hw).toArray 35 (0,0)) ∧ KO v.heap.size 22 wx hw Sw pa ∧ zb ∉ Sw ∧ v.heap.size ≤ zb ∧ Below v.heap.size v wx
theorem kvh_cells (t:KT) (h:Hd):kvh t h = .agg (ckh t h).toArray:=rfl
theorem kvh_mkt (n:Nat) (z:Int) (t:KT) (h:Hd):kvh (mkt (n + 1) z t) h = kvh t h:=by
 show Value.agg #[_,_,_,_,_,Value.slice h.1 (mit z t.its).length h.2.1,Value.slice h.2.2.1 (mks (mkt n) (ksz n) _ t.kids).length h.2.2.2] = _
 rw [mit_len,mks_len]
 rfl
theorem ksz_cpy {w:World}:∀ (m k c:Nat) (t:KT) (ia ka:Option Addr) (ic kc:Nat),KnL m w ia ic ka kc t → ksz k (cpy c t) ≤ ksz m t
 | 0,_,_,_,_,_,_,_,h => h.elim
 | m + 1,0,_,_,_,_,_,_,_ => Nat.zero_le _
 | m + 1,k + 1,0,t,_,_,_,_,_ => by
  show t.its.length + ([]:List KT).length + (([]:List KT).map (ksz k)).sum ≤ t.its.length + t.kids.length + (t.kids.map (ksz m)).sum
  simp;omega
 | m + 1,k + 1,c + 1,t,_,_,_,_,h => by
  show t.its.length + (t.kids.map (cpy c)).length + ((t.kids.map (cpy c)).map (ksz k)).sum ≤ t.its.length + t.kids.length + (t.kids.map (ksz m)).sum
  have hk:∀ x ∈ t.kids,ksz k (cpy c x) ≤ ksz m x:=fun x hx => by
   obtain ⟨_,_,_,_,_,h6⟩:=h
   rcases h6 with h6 | ⟨b,off,_,_,h6⟩
   ·rw [h6] at hx;cases hx
   ·obtain ⟨j,hj,rfl⟩:=List.getElem_of_mem hx
    obtain ⟨_,_,_,_,_,hkn⟩:=h6 j hj
    exact ksz_cpy m k c _ _ _ _ _ hkn
  have hs:∀ l:List KT,(∀ x ∈ l,ksz k (cpy c x) ≤ ksz m x) → ((l.map (cpy c)).map (ksz k)).sum ≤ (l.map (ksz m)).sum:=by
   intro l
   induction l with
   | nil => intro _;simp
   | cons a r ih =>
    intro hl
    have h1:=hl a (List.mem_cons_self ..)
    have h2:=ih (fun x hx => hl x (List.mem_cons_of_mem _ hx))
    simp only [List.map_cons,List.sum_cons] at h2 ⊢
    omega
  have:=hs t.kids hk
  rw [List.length_map]
  omega
end Go.Proofs.YtjahlofahjgdbaaGreat
namespace Go.Proofs.YtjahlofahjgdbaaGreat
open Go.RowKit Go.Shelf
theorem Mf.blk {lo hi b:Nat} {w w':World} {o:Obj} (M:Mf lo hi w w') (h:w.heap[b]? = some o) (hb:b < lo ∨ hi ≤ b):w'.heap[b]? = some o:=(M.out b (lt_of_heap h) hb).trans h
theorem Mf.bel {lo hi n:Nat} {w0 w w':World} (h:Below n w0 w) (M:Mf lo hi w w') (hn:n ≤ lo) (hs:n ≤ w.heap.size):Below n w0 w':=
 h.trans ⟨M.os,M.tape,M.output,M.size,fun k hk => M.out k (by omega) (.inl (by omega))⟩
end Go.Proofs.YtjahlofahjgdbaaGreat
namespace Go.Proofs.YtjahlofahjgdbaaGreat
open Go.RowKit
theorem cellsBx:Tryz.prog.cellsOf 23 = 4:=by kernel_rfl
theorem cellsIt:Tryz.prog.cellsOf 29 = 5:=by kernel_rfl
theorem cellsKn:Tryz.prog.cellsOf 27 = 7:=by kernel_rfl
theorem open_box {H:Type} {enc:TypeId × Value → H} {W:World} {base fuel:Nat} {cs:List Value} {x:DataW H × List MemPlace} (h:DataW.trod enc Tryz.prog W base (fun _ => true) true fuel 23 cs = some x):∃ b:Bx,cs = [.int .i64 b.1,.int .i64 b.2.1,.int .i64 b.2.2.1,.int .i64 b.2.2.2]:=by
 obtain ⟨xs,n,_,_,hlen,hxl,hf⟩:=DataW.trod_struct Tryz.underlying23 h
 rw [cellsBx] at hlen
 match xs,hxl,cs,hlen with
 | [y0,y1,y2,y3],_,[v0,v1,v2,v3],_ =>
  have g0:DataW.trod enc Tryz.prog W base (fun _ => true) true n 3 (([v0,v1,v2,v3].drop 0).take (Tryz.prog.cellsOf 3)) = some y0:=hf 0 _ rfl
  have g1:DataW.trod enc Tryz.prog W base (fun _ => true) true n 3 (([v0,v1,v2,v3].drop 1).take (Tryz.prog.cellsOf 3)) = some y1:=hf 1 _ rfl
  have g2:DataW.trod enc Tryz.prog W base (fun _ => true) true n 3 (([v0,v1,v2,v3].drop 2).take (Tryz.prog.cellsOf 3)) = some y2:=hf 2 _ rfl
  have g3:DataW.trod enc Tryz.prog W base (fun _ => true) true n 3 (([v0,v1,v2,v3].drop 3).take (Tryz.prog.cellsOf 3)) = some y3:=hf 3 _ rfl
  rw [show Tryz.prog.cellsOf 3 = 1 by kernel_rfl] at g0 g1 g2 g3
  simp at g0 g1 g2 g3
  obtain ⟨z0,e0,_,_⟩:=DataW.trod_int Tryz.underlying3 g0
  obtain ⟨z1,e1,_,_⟩:=DataW.trod_int Tryz.underlying3 g1
  obtain ⟨z2,e2,_,_⟩:=DataW.trod_int Tryz.underlying3 g2
  obtain ⟨z3,e3,_,_⟩:=DataW.trod_int Tryz.underlying3 g3
  simp at e0 e1 e2 e3
  exact ⟨(z0,z1,z2,z3),by simp [e0,e1,e2,e3]⟩
theorem open_item {H:Type} {enc:TypeId × Value → H} {W:World} {base fuel:Nat} {cs:List Value} {x:DataW H × List MemPlace} (h:DataW.trod enc Tryz.prog W base (fun _ => true) true fuel 29 cs = some x):∃ y:It,cs = ci y:=by
 obtain ⟨xs,n,_,_,hlen,hxl,hf⟩:=DataW.trod_struct Tryz.underlying29 h
 rw [cellsIt] at hlen
 match xs,hxl,cs,hlen with
 | [y0,y1],_,[v0,v1,v2,v3,v4],_ =>
  have g0:DataW.trod enc Tryz.prog W base (fun _ => true) true n 3 (([v0,v1,v2,v3,v4].drop 0).take (Tryz.prog.cellsOf 3)) = some y0:=hf 0 _ rfl
  have g1:DataW.trod enc Tryz.prog W base (fun _ => true) true n 23 (([v0,v1,v2,v3,v4].drop 1).take (Tryz.prog.cellsOf 23)) = some y1:=hf 1 _ rfl
  rw [show Tryz.prog.cellsOf 3 = 1 by kernel_rfl] at g0
  rw [cellsBx] at g1
  simp at g0 g1
  obtain ⟨z0,e0,_,_⟩:=DataW.trod_int Tryz.underlying3 g0
  obtain ⟨b,e1⟩:=open_box g1
  simp at e0 e1
  obtain ⟨e1,e2,e3,e4⟩:=e1
  exact ⟨(z0,b),by simp [ci,e0,e1,e2,e3,e4]⟩
theorem spot_none {W:World} {base m:Nat} {a:Addr} {cs:List Value} (h:W.cells? base (a.add 0) m = some cs) (hm:0 < m):a.spot = none:=by
 have h00:=(World.cells?_some h).2.2 0 (by omega)
 simp only [Nat.zero_mul,Addr.add,if_true] at h00
 have hx:cs[0]? ≠ none:=by
  have:=(World.cells?_some h).2.1
  intro e
  rw [List.getElem?_eq_none_iff] at e
  omega
 cases hcell:cs[0]? with
 | none => exact absurd hcell hx
 | some v =>
  rw [hcell] at h00
  unfold World.cell? at h00
  split at h00
  ·split at h00
   ·cases h00
   ·rename_i q;simpa using q
  ·cases h00
theorem cs_of {W:World} {base m b o j:Nat} {cs:List Value} (h:W.cells? base ((⟨b,o,none⟩:Addr).add (j * m)) m = some cs) (hm:0 < m):b < W.heap.size ∧ Cs W b (o + j * m) cs:=by
 have hl:=(World.cells?_some h).2.1
 have hc:=(World.cells?_some h).2.2
 have hall:∀ i v,cs[i]? = some v → W.cell? ⟨b,o + j * m + i,none⟩ = some v:=by
  intro i v e
  have hi:i < m:=by
   have:=(List.getElem?_eq_some_iff.1 e).1
   omega
  have:=hc i hi
  rw [Go.Deep.add_add,Addr.add_mid,e,← Nat.add_assoc] at this
  exact this
 refine ⟨?_,hall⟩
 have h0:cs[0]? = some (cs[0]'(by omega)):=List.getElem?_eq_getElem (by omega)
 exact World.block_lt_of_cell? W _ (hall 0 _ h0)
theorem open_items {H:Type} {enc:TypeId × Value → H} {W:World} {base fuel:Nat} {v:Value} {x:DataW H × List MemPlace} (h:DataW.trod enc Tryz.prog W base (fun _ => true) true fuel 24 [v] = some x):∃ (a:Option Addr) (cap:Nat) (l:List It),v = .slice a l.length cap ∧ l.length ≤ cap ∧ cap ≤ 9223372036854775807 ∧ ItL W a l:=by
 rcases Go.Deep.open_slice Tryz.underlying24 h with ⟨hcs,_⟩ | ⟨a,len,cap,m,n,D,Pl,hcs,_,hl,hm,hmm,_,hall⟩
 ·simp at hcs
  exact ⟨none,0,[],hcs,by simp,by omega,.inl rfl⟩
 ·simp at hcs
  have hm':cap ≤ 9223372036854775807:=by simpa [maxLen] using hm
  have hlm:len ≤ m:=by rw [hmm];simp;exact hl
  by_cases h0:len = 0
  ·subst h0
   exact ⟨some a,cap,[],hcs,by simp,hm',.inl rfl⟩
  rw [cellsIt] at hall
  have each:∀ j:Nat,∃ y:It,j < len → W.cells? base (a.add (j * 5)) 5 = some (ci y):=by
   intro j
   by_cases hj:j < len
   ·obtain ⟨cs',h1,h2⟩:=hall j (by omega)
    obtain ⟨y,e⟩:=open_item h2
    subst e
    exact ⟨y,fun _ => h1⟩
   ·exact ⟨(0,0,0,0,0),fun h' => absurd h' hj⟩
  obtain ⟨f,hf⟩:=Classical.axiomOfChoice each
  have hsp:=spot_none (a:=a) (m:=5) (cs:=ci (f 0)) (by have:=hf 0 (by omega);rwa [Nat.zero_mul] at this) (by omega)
  obtain ⟨b,o,s⟩:=a
  simp only at hsp
  subst hsp
  refine ⟨some ⟨b,o,none⟩,cap,(List.range len).map f,by simpa using hcs,by simpa using hl,hm',.inr ⟨b,o,rfl,(cs_of (hf 0 (by omega)) (by omega)).1,fun j hj => ?_⟩⟩
  simp only [List.length_map,List.length_range] at hj
  have e:((List.range len).map f)[j]'(by simpa using hj) = f j:=by simp
  rw [e]
  exact (cs_of (hf j hj) (by omega)).2
theorem size_elem {H:Type} {D:DataW H} {es rs:List (DataW H)} (h:D ∈ es):SizeOf.sizeOf D < SizeOf.sizeOf (DataW.slice es rs):=by
 have h1:=List.sizeOf_lt_of_mem h
 have h2:SizeOf.sizeOf (DataW.slice es rs) = 1 + SizeOf.sizeOf es + SizeOf.sizeOf rs:=DataW.slice.sizeOf_spec es rs
 omega
theorem size_field {H:Type} {D:DataW H} {es:List (DataW H)} (h:D ∈ es):SizeOf.sizeOf D < SizeOf.sizeOf (DataW.agg es):=by
 have h1:=List.sizeOf_lt_of_mem h
 have h2:SizeOf.sizeOf (DataW.agg es) = 1 + SizeOf.sizeOf es:=DataW.agg.sizeOf_spec es
 omega
theorem open_knot {H:Type} {enc:TypeId × Value → H} {W:World} {base:Nat}:∀ (k fuel:Nat) (cs:List Value) (x:DataW H × List MemPlace),SizeOf.sizeOf x.1 ≤ k → DataW.trod enc Tryz.prog W base (fun _ => true) true fuel 27 cs = some x → ∃ (t:KT) (ia:Option Addr) (ic:Nat) (ka:Option Addr) (kc:Nat),cs = ck t ia ic ka kc ∧ KnL (k + 1) W ia ic ka kc t:=by
 intro k
 induction k with
 | zero =>
  intro fuel cs x hs h
  obtain ⟨xs,n,_,hx,_⟩:=DataW.trod_struct Tryz.underlying27 h
  rw [hx] at hs
  have:SizeOf.sizeOf (DataW.agg (xs.map (·.1))) = 1 + SizeOf.sizeOf (xs.map (·.1)):=DataW.agg.sizeOf_spec _
  simp only at hs
  omega
 | succ k ih =>
  intro fuel cs x hs h
  obtain ⟨xs,n,_,hx,hlen,hxl,hf⟩:=DataW.trod_struct Tryz.underlying27 h
  rw [cellsKn] at hlen
  match xs,hxl,cs,hlen,hx with
  | [y0,y1,y2,y3],_,[v0,v1,v2,v3,v4,v5,v6],_,hx =>
   have g0:DataW.trod enc Tryz.prog W base (fun _ => true) true n 23 (([v0,v1,v2,v3,v4,v5,v6].drop 0).take (Tryz.prog.cellsOf 23)) = some y0:=hf 0 _ rfl
   have g1:DataW.trod enc Tryz.prog W base (fun _ => true) true n 4 (([v0,v1,v2,v3,v4,v5,v6].drop 4).take (Tryz.prog.cellsOf 4)) = some y1:=hf 1 _ rfl
   have g2:DataW.trod enc Tryz.prog W base (fun _ => true) true n 24 (([v0,v1,v2,v3,v4,v5,v6].drop 5).take (Tryz.prog.cellsOf 24)) = some y2:=hf 2 _ rfl
   have g3:DataW.trod enc Tryz.prog W base (fun _ => true) true n 25 (([v0,v1,v2,v3,v4,v5,v6].drop 6).take (Tryz.prog.cellsOf 25)) = some y3:=hf 3 _ rfl
   rw [cellsBx] at g0
   rw [show Tryz.prog.cellsOf 4 = 1 by kernel_rfl] at g1
   rw [show Tryz.prog.cellsOf 24 = 1 by kernel_rfl] at g2
   rw [show Tryz.prog.cellsOf 25 = 1 by kernel_rfl] at g3
   simp at g0 g1 g2 g3
   obtain ⟨b,e0⟩:=open_box g0
   obtain ⟨lf,e1,_⟩:=DataW.trod_bool Tryz.underlying4 g1
   obtain ⟨ia,ic,its,e2,i1,i2,i3⟩:=open_items g2
   simp at e0 e1
   obtain ⟨e00,e01,e02,e03⟩:=e0
   have hy3:SizeOf.sizeOf y3.1 ≤ k:=by
    have hm:y3.1 ∈ [y0,y1,y2,y3].map (·.1):=by simp
    have:=size_field hm
    rw [hx] at hs
    simp only at hs
    omega
   rcases Go.Deep.open_slice Tryz.underlying25 g3 with ⟨hcs,_⟩ | ⟨a,len,cap,m,n',D,Pl,hcs,_,hl,hm,hmm,hxx,hall⟩
   ·simp at hcs
    exact ⟨.mk b lf its [],ia,ic,none,0,by simp [ck,KT.box,KT.lf,KT.its,KT.kids,e00,e01,e02,e03,e1,e2,hcs],i3,i1,i2,by simp [KT.kids],by omega,.inl rfl⟩
   ·simp at hcs
    have hm':cap ≤ 9223372036854775807:=by simpa [maxLen] using hm
    have hlm:len ≤ m:=by rw [hmm];simp;exact hl
    by_cases h0:len = 0
    ·subst h0
     exact ⟨.mk b lf its [],ia,ic,some a,cap,by simp [ck,KT.box,KT.lf,KT.its,KT.kids,e00,e01,e02,e03,e1,e2,hcs],i3,i1,i2,by simp [KT.kids],hm',.inl rfl⟩
    rw [cellsKn] at hall
    have each:∀ j:Nat,∃ y:KT × Option Addr × Nat × Option Addr × Nat,j < len → W.cells? base (a.add (j * 7)) 7 = some (ck y.1 y.2.1 y.2.2.1 y.2.2.2.1 y.2.2.2.2) ∧ KnL (k + 1) W y.2.1 y.2.2.1 y.2.2.2.1 y.2.2.2.2 y.1:=by
     intro j
     by_cases hj:j < len
     ·obtain ⟨cs',h1,h2⟩:=hall j (by omega)
      have hD:SizeOf.sizeOf (D j) ≤ k:=by
       have hmem:D j ∈ (List.range len).map D:=List.mem_map.2 ⟨j,by simpa using hj,rfl⟩
       have h3:=size_elem (rs:=(List.range (m - len)).map fun j => D (len + j)) hmem
       rw [hxx] at hy3
       simp only at hy3
       omega
      obtain ⟨t,ia',ic',ka',kc',e,hk⟩:=ih n' cs' (D j,Pl j) hD h2
      subst e
      exact ⟨(t,ia',ic',ka',kc'),fun _ => ⟨h1,hk⟩⟩
     ·exact ⟨(.mk (0,0,0,0) false [] [],none,0,none,0),fun h' => absurd h' hj⟩
    obtain ⟨f,hf'⟩:=Classical.axiomOfChoice each
    have hsp:=spot_none (a:=a) (m:=7) (by have:=(hf' 0 (by omega)).1;rwa [Nat.zero_mul] at this) (by omega)
    obtain ⟨bb,o,s⟩:=a
    simp only at hsp
    subst hsp
    refine ⟨.mk b lf its ((List.range len).map fun j => (f j).1),ia,ic,some ⟨bb,o,none⟩,cap,by simp [ck,KT.box,KT.lf,KT.its,KT.kids,e00,e01,e02,e03,e1,e2,hcs],i3,i1,i2,by simpa [KT.kids] using hl,hm',.inr ⟨bb,o,rfl,(cs_of (hf' 0 (by omega)).1 (by omega)).1,fun j hj => ?_⟩⟩
    have hj':j < len:=by simpa [KT.kids] using hj
    have e:(KT.kids (.mk b lf its ((List.range len).map fun j => (f j).1)))[j]'hj = (f j).1:=by simp [KT.kids]
    rw [e]
    exact ⟨_,_,_,_,(cs_of (hf' j hj').1 (by omega)).2,(hf' j hj').2⟩
end Go.Proofs.YtjahlofahjgdbaaGreat
