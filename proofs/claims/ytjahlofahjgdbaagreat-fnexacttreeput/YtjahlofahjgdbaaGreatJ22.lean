/- Texts of stores, joined: Fx, Rw0, RwA0, AreaM, RwG, RwH. -/
import Derived.Test.YtjahlofahjgdbaaGreatJ19
import Derived.OwnWalk
import Derived.Deep.AppendLies
import Derived.Maps.AppendAt
set_option maxRecDepth 100000
set_option maxHeartbeats 8000000
set_option linter.unusedSimpArgs false
set_option linter.unusedVariables false
namespace Go.Proofs.YtjahlofahjgdbaaGreat
open Go.RowKit Go.Shelf
attribute [local go_sem] Oper.semAt_some
def ML:Obj → Bool
 | .loop _ => true
 | .deferred _ => true
 | _ => false
structure RB (W:World) (q0 q1 q2:Nat) (b0 b1 b2 b3:Int) (b4:Bool) (ni nk:Nat) (ia ka:Option Addr) (d:Int) (u:Bool):Prop where
 t:W.heap[q0]? = some (.cells #[.int .i64 b0,.int .i64 b1,.int .i64 b2,.int .i64 b3,.bool b4,.slice ia ni ni,.slice ka nk nk] 35 (0,0))
 d:W.heap[q1]? = some (.cells #[.int .i64 d] 3 (0,0))
 r:W.heap[q2]? = some (.cells #[.bool u] 4 (0,0))
theorem RB.below {n:Nat} {W W':World} {q0 q1 q2:Nat} {b0 b1 b2 b3:Int} {b4:Bool} {ni nk:Nat} {ia ka:Option Addr} {d:Int} {u:Bool} (h:RB W q0 q1 q2 b0 b1 b2 b3 b4 ni nk ia ka d u) (k:Below n W W') (h0:q0 < n) (h1:q1 < n) (h2:q2 < n):RB W' q0 q1 q2 b0 b1 b2 b3 b4 ni nk ia ka d u:=
 ⟨(k.block _ h0).trans h.t,(k.block _ h1).trans h.d,(k.block _ h2).trans h.r⟩
theorem RB.tn {M:Obj → Bool} {n:Nat} {W W':World} {q0 q1 q2:Nat} {b0 b1 b2 b3:Int} {b4:Bool} {ni nk:Nat} {ia ka:Option Addr} {d:Int} {u:Bool} (h:RB W q0 q1 q2 b0 b1 b2 b3 b4 ni nk ia ka d u) (k:Tn M n W W') (h0:q0 < n) (h1:q1 < n) (h2:q2 < n):RB W' q0 q1 q2 b0 b1 b2 b3 b4 ni nk ia ka d u:=
 ⟨(k.old _ (lt_of_heap h.t) (.inl h0)).trans h.t,(k.old _ (lt_of_heap h.d) (.inl h1)).trans h.d,(k.old _ (lt_of_heap h.r) (.inl h2)).trans h.r⟩
theorem RB.setr {W:World} {q0 q1 q2:Nat} {b0 b1 b2 b3:Int} {b4:Bool} {ni nk:Nat} {ia ka:Option Addr} {d:Int} {u:Bool} (h:RB W q0 q1 q2 b0 b1 b2 b3 b4 ni nk ia ka d u) (h0:q0 ≠ q2) (h1:q1 ≠ q2) (u':Bool):RB (W.setCell ⟨q2,0,none⟩ (.bool u')) q0 q1 q2 b0 b1 b2 b3 b4 ni nk ia ka d u':=
 ⟨(Below.heap_setCell _ _ _ _ (by dsimp only;omega)).trans h.t,(Below.heap_setCell _ _ _ _ (by dsimp only;omega)).trans h.d,set_at h.r⟩
def RkAx (lo m Z:Nat) (w0:World) (L:List KT) (I:Nat → World → Prop) (TM:Nat → Value → Array Value) (k:Nat) (a':Act) (X:World):Prop:=∃ (Bx:Nat) (ia' ka':Option Addr) (hk:k < L.length) (c0 c1 c2 c3:Int) (c4:Bool) (mi mk:Nat),KF L[k] c0 c1 c2 c3 c4 mi mk ∧ X.heap[Bx]? = some (.cells #[.int .i64 c0,.int .i64 c1,.int .i64 c2,.int .i64 c3,.bool c4,.slice ia' mi mi,.slice ka' mk mk] 35 (0,0)) ∧ Z ≤ Bx ∧ Kn lo m w0 ia' ka' L[k] ∧ I k X ∧ a' = { tmps:=TM Bx (.agg #[.int .i64 c0,.int .i64 c1,.int .i64 c2,.int .i64 c3,.bool c4,.slice ia' mi mi,.slice ka' mk mk]),defers:=[] }
theorem RkAx.putR {lo m Z:Nat} {w0:World} {L:List KT} {I:Nat → World → Prop} {TM:Nat → Value → Array Value} {k:Nat} {a':Act} {X:World} {l:Nat} {r r':Loop} {M:Obj → Bool} (hM:∀ r,M (.loop r) = true) (hI:Ab M Z I) (h:RkAx lo m Z w0 L I TM k a' X) (hl:X.heap[l]? = some (.loop r)) (hz:Z ≤ l):RkAx lo m Z w0 L I TM k a' (X.putObj l (.loop r')):=by
 obtain ⟨Bx,ia',ka',hk,c0,c1,c2,c3,c4,mi,mk,hf,hbx,hle,hkn,h1,ha⟩:=h
 refine ⟨Bx,ia',ka',hk,c0,c1,c2,c3,c4,mi,mk,hf,(World.putObj_heap_other (fun e => ?_)).trans hbx,hle,hkn,hI _ _ _ h1 (Tn.put _ hl (hM _) hz),ha⟩
 rw [e,hl] at hbx;cases hbx
theorem rgt_eq (d:Nat) (t:KT) (least:Nat):rgt (d + 1) t least = ((t.lf == (d == 0)) && cnt t least && t.bxs.all bkb && t.kids.all (fun k => rgt d k 2) && decide (t.box = arI t)):=rfl
theorem rgt_no1 {d:Nat} {t:KT} {least:Nat} (h:(t.lf != (d == 0)) = true):rgt (d + 1) t least = false:=by
 rw [rgt_eq]
 have:(t.lf == (d == 0)) = false:=by simpa [bne] using h
 rw [this];rfl
theorem rgt_no2 {d:Nat} {t:KT} {least:Nat} (h:cnt t least = false):rgt (d + 1) t least = false:=by
 rw [rgt_eq,h];simp
theorem rgt_no3 {d:Nat} {t:KT} {least k:Nat} (hk:k < t.bxs.length) (h:bkb t.bxs[k] = false):rgt (d + 1) t least = false:=by
 have:t.bxs.all bkb = false:=by
  rw [List.all_eq_false]
  exact ⟨_,List.getElem_mem hk,by rw [h];decide⟩
 rw [rgt_eq,this];simp
theorem rgt_no4 {d:Nat} {t:KT} {least k:Nat} (hk:k < t.kids.length) (h:rgt d t.kids[k] 2 = false):rgt (d + 1) t least = false:=by
 have:t.kids.all (fun k => rgt d k 2) = false:=by
  rw [List.all_eq_false]
  exact ⟨_,List.getElem_mem hk,by rw [h];decide⟩
 rw [rgt_eq,this];simp
theorem rgt_end {d:Nat} {t:KT} {least:Nat} (h1:(t.lf != (d == 0)) = false) (h2:cnt t least = true) (h3:t.bxs.all bkb = true) (h4:t.kids.all (fun k => rgt d k 2) = true):rgt (d + 1) t least = decide (t.box = arI t):=by
 rw [rgt_eq,h2,h3,h4]
 have:(t.lf == (d == 0)) = true:=by simpa [bne] using h1
 rw [this];simp
theorem all_next {α:Type} (l:List α) (p:α → Bool) (k:Nat) (h:k < l.length) (h1:(l.take k).all p = true) (h2:p l[k] = true):(l.take (k + 1)).all p = true:=by
 rw [List.take_add_one,List.getElem?_eq_getElem h,Option.toList_some,List.all_append,h1]
 simp [h2]
theorem box_dec (t:KT) (a:Bx):decide (t.box = a) = decide (t.box.1 = a.1 ∧ t.box.2.1 = a.2.1 ∧ t.box.2.2.1 = a.2.2.1 ∧ t.box.2.2.2 = a.2.2.2):=by
 congr 1
 rw [eq_iff_iff]
 obtain ⟨x0,x1,x2,x3⟩:=t.box
 obtain ⟨y0,y1,y2,y3⟩:=a
 simp
theorem right_step (d:Nat) (hd:d ≤ 8) (IH:∀ d',d = d' + 1 → ∀ (m lo:Nat) (t:KT) (ia ka:Option Addr) (least:Nat) (w:World),Kn lo m w ia ka t → ksz m t ≤ 1048576 → Calls Tryz.prog 66 #[kvo t ia ka,.int .i64 ((d' + 1:Nat):Int),.int .i64 least] w fun e w' => e = .returned (.bool (rgt (d' + 1) t least)) ∧ Below w.heap.size w w') (m lo:Nat) (t:KT) (ia ka:Option Addr) (least:Nat) (w:World) (h:Kn lo m w ia ka t) (hz:ksz m t ≤ 1048576):Calls Tryz.prog 66 #[kvo t ia ka,.int .i64 ((d + 1:Nat):Int),.int .i64 least] w fun e w' => e = .returned (.bool (rgt (d + 1) t least)) ∧ Below w.heap.size w w':=by
 cases m with
 | zero => exact h.elim
 | succ m =>
 have hks:∀ k (hk:k < t.kids.length),ksz m t.kids[k] ≤ 1048576:=fun k hk => Nat.le_trans (ksz_kid (List.getElem_mem hk)) hz
 have hkl:t.kids.length ≤ 1048576:=Nat.le_trans (show t.kids.length ≤ t.its.length + t.kids.length + (t.kids.map (ksz m)).sum by omega) hz
 have HKN:=hid h
 have hbl:t.bxs.length ≤ 1048576:=by
  unfold KT.bxs KT.ibs KT.kbs
  rw [List.length_append,List.length_map,List.length_map]
  exact Nat.le_trans (show t.its.length + t.kids.length ≤ t.its.length + t.kids.length + (t.kids.map (ksz m)).sum by omega) hz
 have CB:=hid (fun (W:World) (hb:Below w.heap.size w W) => impl_boxes (m + 1) lo t ia ka W (h.below hb) hz)
 have CA:=hid (fun (W:World) (hb:Below w.heap.size w W) => impl_around (m + 1) lo t ia ka W (h.below hb) hz)
 have CC:=hid (fun (W:World) => impl_count t ia t.its.length ka t.kids.length least W)
 change Hid (∀ W,Calls _ _ #[kvo t ia ka,.int .i64 least] W _) at CC
 obtain ⟨b0,b1,b2,b3,b4,ni,nk,hkf⟩:=kf t
 have hkv:kvo t ia ka = .agg #[.int .i64 b0,.int .i64 b1,.int .i64 b2,.int .i64 b3,.bool b4,.slice ia ni ni,.slice ka nk nk]:=kvo_of hkf _ _
 have HKV:=hid hkv
 have HKF:=hid hkf
 rw [hkv] at CB CA CC ⊢
 have hz1:((((d + 1:Nat):Int) == 1):Bool) = (d == 0):=by
  rw [Bool.eq_iff_iff,beq_iff_eq,beq_iff_eq];omega
 have hz2:IntKind.i64.wrap (((d + 1:Nat):Int) - 1) = (d:Int):=by rw [IntKind.wrap_i64] <;> omega
 generalize hdz:((d + 1:Nat):Int) = dz at *
 clear hdz
 have hno1:=hid (fun (hh:(b4 != (d == 0)) = true) => rgt_no1 (d:=d) (t:=t) (least:=least) (by rw [hkf.lf];exact hh))
 have hfin:=hid (fun (hh:(b4 != (d == 0)) = false) => rgt_end (d:=d) (t:=t) (least:=least) (by rw [hkf.lf];exact hh))
 have hno2:=hid (fun (hh:cnt t least = false) => rgt_no2 (d:=d) hh)
 have hno3:=hid (fun k hk hh => rgt_no3 (d:=d) (t:=t) (least:=least) (k:=k) hk hh)
 have hno4:=hid (fun k hk hh => rgt_no4 (d:=d) (t:=t) (least:=least) (k:=k) hk hh)
 have hdec:=hid (box_dec t (arI t))
 have hleaf:Hid (b4 = (d == 0) → cnt t least = true → d = 0 → t.kids.length = 0):=hid (fun h1 h2 h3 => by
  unfold cnt at h2
  rw [hkf.lf,h1,h3] at h2
  simp at h2
  rw [h2.2];rfl)
 clear hkv hkf h hz
 generalize hrr:rgt (d + 1) t least = rr at *
 clear hrr
 generalize hzz:(d == 0) = z at *
 have HZZ:=hid hzz
 clear hzz
 by_cases hbz:b4 = z
 ·subst hbz
  obtain ⟨A0,A1,A2,hs,hB⟩:=alloc3 w (.cells #[.int .i64 b0,.int .i64 b1,.int .i64 b2,.int .i64 b3,.bool b4,.slice ia ni ni,.slice ka nk nk] 35) (.cells #[.int .i64 dz] 3) (.cells #[.bool false] 4)
  have RB0:RB _ w.heap.size (w.heap.size + 1) (w.heap.size + 1 + 1) b0 b1 b2 b3 b4 ni nk ia ka dz false:=⟨A0,A1,A2⟩
  have HRB:=hid RB0
  have HS:=hid hs
  have HB:=hid hB
  clear A0 A1 A2 hs hB RB0 hno1
  have hbb:(b4 != b4) = false:=by simp
  rw [← callsIn_wide (n:=10)]
  refine callsIn_of_wp_marks Tryz.func66 rfl trivial ?_ rfl
  simp only [Tryz.ntmps66,List.size_toArray,List.length_cons,List.length_nil,Nat.reduceAdd,Nat.reduceSub,Array.replicate_succ,Array.replicate_zero,List.push_toArray,List.append_toArray,List.nil_append,List.cons_append]
  gi_wp2
  generalize ((w.alloc (.cells #[.int .i64 b0,.int .i64 b1,.int .i64 b2,.int .i64 b3,.bool b4,.slice ia ni ni,.slice ka nk nk] 35)).alloc (.cells #[.int .i64 dz] 3)).alloc (.cells #[.bool false] 4) = v0 at *
  refine ⟨trivial,((callsIn_wide (n:=9)).2 (CC.out _)).mono ?_⟩
  rintro e v1 ⟨rfl,hb1⟩
  have hs0:=HS.out
  have RB1:=HRB.out.below (n:=v0.heap.size) hb1 (by omega) (by omega) (by omega)
  have hB1:=btrans HB.out hb1
  have hs1:w.heap.size + 3 ≤ v1.heap.size:=by have:=hb1.size;omega
  clear hb1 HRB HB CC HS
  cases hct:cnt t least
  ·have HRR:=hid (hno2.out hct)
   clear hno2 hno3 hno4 hfin hdec hleaf CB CA IH HKN HKV HKF hks
   obtain ⟨r0,rf⟩:=cell1k RB1.r
   have RB2:=RB1.setr (by omega) (by omega) false
   obtain ⟨r1,_⟩:=cell1k RB2.r
   clear RB1 RB2
   gi_wp2
   refine ⟨.bool false,by simp [results,Tryz.results66,go_sem,r1],by rw [HRR.out],hB1.setCell (by dsimp only;omega) _⟩
  ·have hleaf2:=hid (fun h1 h3 => hleaf.out h1 hct h3)
   have hfin2:=hid (fun h1 => hfin.out h1 hct)
   clear hno2 hleaf hfin hct
   obtain ⟨a0,a1,a2,a3,a4,a5,a6,_,_,_,_,_,_,_⟩:=cell7k RB1.t
   gi_wp2
   refine ⟨trivial,((callsIn_wide (n:=9)).2 (CB.out _ hB1)).mono ?_⟩
   rintro e v2 ⟨g,c,rfl,hG,hb2⟩
   have RB2:=RB1.below (n:=v1.heap.size) hb2 (by omega) (by omega) (by omega)
   have hB2:=btrans hB1 hb2
   have hs2:w.heap.size + 3 ≤ v2.heap.size:=by have:=hb2.size;omega
   clear RB1 hB1 hb2 a0 a1 a2 a3 a4 a5 a6 CB
   gi_wp2
   gi_loopw [24] (fun i X => ∃ k:Nat,k ≤ t.bxs.length ∧ i = .int .i64 k ∧ Hid ((t.bxs.take k).all bkb = true) ∧ Hid (RB X w.heap.size (w.heap.size + 1) (w.heap.size + 1 + 1) b0 b1 b2 b3 b4 ni nk ia ka dz false) ∧ Hid (BxG X v1.heap.size g c t.bxs) ∧ Hid (Below w.heap.size w X)) (fun i _ => t.bxs.length - (intOf i).toNat)
   case atStart => exact ⟨0,Nat.zero_le _,rfl,hid (by simp),hid RB2,hid hG,hid hB2⟩
   case round =>
    clear RB2 hG hB2 hs2 v2
    obtain ⟨k,hk,rfl,HAL,HRB,HG,HB⟩:=hrel
    obtain ⟨r0,rf⟩:=cell1k HRB.out.r
    have hsX:=lt_of_heap HRB.out.r
    by_cases hlt:k < t.bxs.length
    ·have c1:(k:Int) < (t.bxs.length:Int):=by omega
     have hcs:=HG.out.at k hlt
     have y0:=hcs 0 _ rfl
     have y1:=hcs 1 _ rfl
     have y2:=hcs 2 _ rfl
     have y3:=hcs 3 _ rfl
     have hal:=HAL.out
     have H3:=hid (hno3.out k hlt)
     have HNX:=hid (all_next t.bxs bkb k hlt hal)
     clear hcs hal
     generalize t.bxs[k] = xx at *
     obtain ⟨x0,x1,x2,x3⟩:=xx
     simp only [Nat.add_zero] at y0 y1 y2 y3
     have CO:=hid (fun (W:World) => impl_boxok x0 x1 x2 x3 W)
     change Hid (∀ W,Calls _ _ _ W (fun e w' => e = .returned (.bool (bkb (x0,x1,x2,x3))) ∧ Below W.heap.size W w')) at CO
     generalize bkb (x0,x1,x2,x3) = ob at *
     have hbA:=balloc (Below.refl wr.heap.size wr) (.cells #[.int .i64 x0,.int .i64 x1,.int .i64 x2,.int .i64 x3] 31)
     have HRA:=hid (HRB.out.below hbA (by omega) (by omega) (by omega))
     have HGA:=hid (HG.out.below hbA)
     have HBA:=hid (btrans HB.out hbA)
     have hsA:=hbA.size
     clear hbA
     gi_wp2
     refine ⟨trivial,((callsIn_wide (n:=9)).2 (CO.out _)).mono ?_⟩
     rintro e v3 ⟨rfl,hb3⟩
     generalize wr.alloc (.cells #[.int .i64 x0,.int .i64 x1,.int .i64 x2,.int .i64 x3] 31) = vA at *
     have RB3:=HRA.out.below (n:=vA.heap.size) hb3 (by omega) (by omega) (by omega)
     have G3:=HGA.out.below hb3
     have B3:=btrans HBA.out hb3
     have hs3:=hb3.size
     clear hb3 CO HRA HGA HBA HRB HG HB r0 rf y0 y1 y2 y3
     cases ob
     ·have HRR:=hid (H3.out rfl)
      obtain ⟨r0,rf⟩:=cell1k RB3.r
      have RB4:=RB3.setr (by omega) (by omega) false
      obtain ⟨r1,_⟩:=cell1k RB4.r
      clear RB3 RB4 hno3 hno4 hfin2 hdec hleaf2 CA IH HKN HKV HKF hks
      gi_wp2
      refine ⟨.bool false,by simp [results,Tryz.results66,go_sem,r1],by rw [HRR.out],B3.setCell (by dsimp only;omega) _⟩
     ·gi_wp2
      go_roundw
      case rel => exact ⟨k + 1,by omega,by go_num,hid (HNX.out (by trivial)),hid RB3,hid G3,hid B3⟩
      case measure => simp [intOf];omega
    ·have c1:(t.bxs.length:Int) ≤ (k:Int):=by omega
     have hall:t.bxs.take k = t.bxs:=List.take_of_length_le (by omega)
     have hal:=HAL.out
     rw [hall] at hal
     have hfin3:=hid (fun h1 => hfin2.out hbb hal h1)
     obtain ⟨a0,a1,a2,a3,a4,a5,a6,_,_,_,_,_,_,_⟩:=cell7k HRB.out.t
     clear hall hal HAL hfin2 hno3
     have hBW:=HB.out
     have hsz:w.heap.size ≤ wr.heap.size:=hBW.size
     gi_wp2
     clear a0 a1 a2 a3 a4 a5 a6 r0 rf
     refine wpIn_rangeN rfl (fun h => by cases h) (first:=#[kvo t ia ka]) (lb:=#[]) (by rw [HKV.out];rfl) trivial (enters_of Tryz.func79 (by kernel_rfl) rfl) (fun _ => rfl) (fun _ => rfl) (eachKid_seq Fence.wide 9 trivial rfl (by omega) ML lo m t ia ka w HKN.out (by omega)) hBW hsz
      (fun k X => RB X w.heap.size (w.heap.size + 1) (w.heap.size + 1 + 1) b0 b1 b2 b3 b4 ni nk ia ka dz false ∧ (t.kids.take k).all (fun k => rgt d k 2) = true ∧ Below w.heap.size w X)
      (fun c k X => c = .ret ∧ RB X w.heap.size (w.heap.size + 1) (w.heap.size + 1 + 1) b0 b1 b2 b3 b4 ni nk ia ka dz false ∧ rr = false ∧ Below w.heap.size w X)
      (fun _ _ _ => trivial) ?hI ?hIx ?h0
      (RkAx lo m wr.heap.size w t.kids (fun k X => RB X w.heap.size (w.heap.size + 1) (w.heap.size + 1 + 1) b0 b1 b2 b3 b4 ni nk ia ka dz false ∧ (t.kids.take k).all (fun k => rgt d k 2) = true ∧ Below w.heap.size w X) (fun Bx vv => #[.agg #[.int .i64 b0,.int .i64 b1,.int .i64 b2,.int .i64 b3,.bool b4,.slice ia ni ni,.slice ka nk nk],.int .i64 dz,.int .i64 least,.pointer (some ⟨w.heap.size,0,none⟩),.pointer (some ⟨w.heap.size + 1,0,none⟩),undef,.pointer (some ⟨w.heap.size + 1 + 1,0,none⟩),undef,u8,.pointer (some ⟨Bx,0,none⟩),.pointer (some ⟨w.heap.size,4,none⟩),.bool b4,.int .i64 dz,.bool b4,.bool false,.bool false,.agg #[.int .i64 b0,.int .i64 b1,.int .i64 b2,.int .i64 b3,.bool b4,.slice ia ni ni,.slice ka nk nk],.int .i64 least,.bool true,.bool false,.bool false,.agg #[.int .i64 b0,.int .i64 b1,.int .i64 b2,.int .i64 b3,.bool b4,.slice ia ni ni,.slice ka nk nk],.slice (some ⟨g,0,none⟩) t.bxs.length c,.int .i64 t.bxs.length,.int .i64 k,.bool false,u26,u27,u28,u29,u30,u31,.agg #[.int .i64 b0,.int .i64 b1,.int .i64 b2,.int .i64 b3,.bool b4,.slice ia ni ni,.slice ka nk nk],.func (.func 79) #[.agg #[.int .i64 b0,.int .i64 b1,.int .i64 b2,.int .i64 b3,.bool b4,.slice ia ni ni,.slice ka nk nk]] #[],vv,undef,undef,undef,undef,undef,undef,undef,undef,undef,undef]))
      ?hAx ?assign ?body ?done ?stop
     case hI =>
      rintro k X Y ⟨h1,h2,h3⟩ ht
      exact ⟨h1.tn ht (by omega) (by omega) (by omega),h2,h3.trans (ht.below hsz h3.size)⟩
     case hIx =>
      rintro c k X Y ⟨h0,h1,h2,h3⟩ ht
      exact ⟨h0,h1.tn ht (by omega) (by omega) (by omega),h2,h3.trans (ht.below hsz h3.size)⟩
     case h0 => exact ⟨HRB.out,by simp,hBW⟩
     case hAx =>
      rintro k a' X l' r r' HH hl' hle'
      refine RkAx.putR (M:=ML) (fun _ => rfl) ?_ HH hl' hle'
      rintro k X Y ⟨h1,h2,h3⟩ ht
      exact ⟨h1.tn ht (by omega) (by omega) (by omega),h2,h3.trans (ht.below hsz h3.size)⟩
     case assign =>
      rintro l' k' v X hk ⟨h1,h2,h3⟩ ⟨hk',ia',ka',rfl,hkn⟩ hsX hbX
      obtain ⟨c0,c1,c2,c3,c4,mi,mk,hf⟩:=kf t.kids[k']
      rw [kvo_of hf]
      gi_wp2
      have hBA:Below X.heap.size X (X.alloc (.cells #[.int .i64 c0,.int .i64 c1,.int .i64 c2,.int .i64 c3,.bool c4,.slice ia' mi mi,.slice ka' mk mk] 35)):=balloc (Below.refl X.heap.size X) _
      exact ⟨Kp.of_below hBA h3.size,X.heap.size,ia',ka',hk',c0,c1,c2,c3,c4,mi,mk,hf,new_alloc _ _ _ rfl,hsX,hkn,⟨h1.below hBA (by omega) (by omega) (by omega),h2,btrans h3 hBA⟩,rfl⟩
     case body =>
      rintro l' k' a' X hk' ⟨Bx,ia',ka',hk2,c0,c1,c2,c3,c4,mi,mk,hf,hbx,hle,hkn,⟨h1,h2,h3⟩,rfl⟩
      have hd0:d ≠ 0:=fun e => by
       have:t.kids.length = 0:=hleaf2.out (by trivial) e
       omega
      obtain ⟨d',hd'⟩:∃ d',d = d' + 1:=⟨d - 1,by omega⟩
      have H4:=hid (hno4.out k' hk2)
      have HNX:=hid (all_next t.kids (fun k => rgt d k 2) k' hk2 h2)
      obtain ⟨z0,z1,z2,z3,z4,z5,z6,_,_,_,_,_,_,_⟩:=cell7k hbx
      obtain ⟨d0,_⟩:=cell1k h1.d
      have CR:=hid (IH d' hd' m lo t.kids[k'] ia' ka' 2 X (hkn.below h3) (hks k' hk2))
      rw [kvo_of hf,← hd'] at CR
      clear hd'
      generalize rgt d t.kids[k'] 2 = rk at *
      simp only []
      gi_wp2
      refine ⟨trivial,((callsIn_wide (n:=7)).2 CR.out).mono ?_⟩
      rintro e X1 ⟨rfl,hb1⟩
      have g1:=h1.below (n:=X.heap.size) hb1 (lt_of_heap h1.t) (lt_of_heap h1.d) (lt_of_heap h1.r)
      have g3:=btrans h3 hb1
      have hkX:Kp ML wr.heap.size w.heap.size X X1:=Kp.of_below hb1 h3.size
      clear CR z0 z1 z2 z3 z4 z5 z6 d0 h1 h3 hb1
      cases rk
      ·obtain ⟨r0,rf⟩:=cell1k g1.r
       have g5:=g1.setr (by omega) (by omega) false
       have H5:=H4.out (by trivial)
       gi_wp2
       exact ⟨hkX.set _ (by dsimp only;omega) (.inl (by dsimp only;omega)),rfl,g5,H5,g3.setCell (by dsimp only;omega) _⟩
      ·gi_wp2
       exact ⟨hkX,g1,HNX.out (by trivial),g3⟩
     case done =>
      rintro X ⟨h1,h2,h3⟩ hD hbX
      have hall:t.kids.take t.kids.length = t.kids:=List.take_of_length_le (Nat.le_refl _)
      rw [hall] at h2
      have HRR:=hid ((hfin3.out h2).trans hdec.out)
      clear hall h2
      gi_wp2_with fail
      refine wpIn_wide.2 ?_
      have CAX:=hid (fun W hb => CA.out W (btrans h3 hb))
      have hsX:=h3.size
      have hq0:=lt_of_heap h1.t
      have hq2:=lt_of_heap h1.r
      have hD1:=lt_of_heap hD
      obtain ⟨z0,z1,z2,z3,z4,z5,z6,_,_,_,_,_,_,_⟩:=cell7k h1.t
      have hx0:=HKF.out.x0
      have hx1:=HKF.out.x1
      have hx2:=HKF.out.x2
      have hx3:=HKF.out.x3
      rw [hx0,hx1,hx2,hx3] at HRR
      clear hx0 hx1 hx2 hx3
      generalize (arI t).1 = a0 at *
      generalize (arI t).2.1 = a1 at *
      generalize (arI t).2.2.1 = a2 at *
      generalize (arI t).2.2.2 = a3 at *
      clear hno4 hfin3 hdec hleaf2 CA IH HKN HKV HKF hks HRB HG HB
      by_cases e0:b0 = a0
      ·subst e0
       by_cases e1:b1 = a1
       ·subst e1
        by_cases e2:b2 = a2
        ·subst e2
         by_cases e3:b3 = a3
         ·subst e3
          have HRR2:=hid (show rr = true by rw [HRR];simp)
          clear HRR
          go_region_held3 (fun w' => w'.cell? ⟨w.heap.size,0,none⟩ = some (.int .i64 b0) ∧ w'.cell? ⟨w.heap.size,1,none⟩ = some (.int .i64 b1) ∧ w'.cell? ⟨w.heap.size,2,none⟩ = some (.int .i64 b2) ∧ w'.cell? ⟨w.heap.size,3,none⟩ = some (.int .i64 b3) ∧ w'.cell? ⟨w.heap.size,4,none⟩ = some (.bool b4) ∧ w'.cell? ⟨w.heap.size,5,none⟩ = some (.slice ia ni ni) ∧ w'.cell? ⟨w.heap.size,6,none⟩ = some (.slice ka nk nk)) ((go_split_ands;(repeat' apply And.intro) <;> (with_reducible repeat (first | assumption | refine keepdrew ?_ | exact keepcell hv1 (by assumption) | refine keepset ?_ (by dsimp only;omega)))))
           (first
            | (go_at_call 90;refine (CAX.out _ (bdrew (Below.refl X.heap.size X))).mono ?_;rintro e' w1 ⟨rfl,hb1⟩;have hv1:Below X.heap.size X w1:=btrans (bdrew (Below.refl _ _)) hb1;obtain ⟨r0,rf⟩:=cell1k (h1.below (n:=X.heap.size) hv1 hq0 (lt_of_heap h1.d) hq2).r))
          have hRB:=h1.below (n:=X.heap.size) hv1 hq0 (lt_of_heap h1.d) hq2
          have hRS:=hRB.setr (by omega) (by omega) true
          have hDD:(w1.setCell ⟨w.heap.size + 1 + 1,0,none⟩ (.bool true)).heap[wr.heap.size]? = some (.deferred (some [])):=(Below.heap_setCell _ _ _ _ (by dsimp only;omega)).trans ((hv1.block _ hD1).trans hD)
          have ht:Tn ML wr.heap.size (w1.setCell ⟨w.heap.size + 1 + 1,0,none⟩ (.bool true)) ((w1.setCell ⟨w.heap.size + 1 + 1,0,none⟩ (.bool true)).putObj wr.heap.size (.deferred none)):=Tn.put _ hDD rfl (Nat.le_refl _)
          obtain ⟨r1,_⟩:=cell1k (hRS.tn ht (by omega) (by omega) (by omega)).r
          have hBF:=(btrans h3 hv1).setCell (p:=⟨w.heap.size + 1 + 1,0,none⟩) (by dsimp only;omega) (.bool true)
          gi_wp2
          refine ⟨by simp,.inl ⟨_,_,rfl,run_takeDeferred hDD,?_⟩⟩
          exact ⟨.bool true,by simp [results,Tryz.results66,go_sem,r1],by rw [HRR2.out],hBF.trans (ht.below hsz hBF.size)⟩
         ·have n3:(b3 == a3) = false:=by simpa using e3
          have HRR2:=hid (show rr = false by rw [HRR];simp [e3])
          clear HRR
          go_region_held3 (fun w' => w'.cell? ⟨w.heap.size,0,none⟩ = some (.int .i64 b0) ∧ w'.cell? ⟨w.heap.size,1,none⟩ = some (.int .i64 b1) ∧ w'.cell? ⟨w.heap.size,2,none⟩ = some (.int .i64 b2) ∧ w'.cell? ⟨w.heap.size,3,none⟩ = some (.int .i64 b3) ∧ w'.cell? ⟨w.heap.size,4,none⟩ = some (.bool b4) ∧ w'.cell? ⟨w.heap.size,5,none⟩ = some (.slice ia ni ni) ∧ w'.cell? ⟨w.heap.size,6,none⟩ = some (.slice ka nk nk)) ((go_split_ands;(repeat' apply And.intro) <;> (with_reducible repeat (first | assumption | refine keepdrew ?_ | exact keepcell hv1 (by assumption) | refine keepset ?_ (by dsimp only;omega)))))
           (first
            | (go_at_call 90;refine (CAX.out _ (bdrew (Below.refl X.heap.size X))).mono ?_;rintro e' w1 ⟨rfl,hb1⟩;have hv1:Below X.heap.size X w1:=btrans (bdrew (Below.refl _ _)) hb1;obtain ⟨r0,rf⟩:=cell1k (h1.below (n:=X.heap.size) hv1 hq0 (lt_of_heap h1.d) hq2).r))
          have hRB:=h1.below (n:=X.heap.size) hv1 hq0 (lt_of_heap h1.d) hq2
          have hRS:=hRB.setr (by omega) (by omega) false
          have hDD:(w1.setCell ⟨w.heap.size + 1 + 1,0,none⟩ (.bool false)).heap[wr.heap.size]? = some (.deferred (some [])):=(Below.heap_setCell _ _ _ _ (by dsimp only;omega)).trans ((hv1.block _ hD1).trans hD)
          have ht:Tn ML wr.heap.size (w1.setCell ⟨w.heap.size + 1 + 1,0,none⟩ (.bool false)) ((w1.setCell ⟨w.heap.size + 1 + 1,0,none⟩ (.bool false)).putObj wr.heap.size (.deferred none)):=Tn.put _ hDD rfl (Nat.le_refl _)
          obtain ⟨r1,_⟩:=cell1k (hRS.tn ht (by omega) (by omega) (by omega)).r
          have hBF:=(btrans h3 hv1).setCell (p:=⟨w.heap.size + 1 + 1,0,none⟩) (by dsimp only;omega) (.bool false)
          gi_wp2
          refine ⟨by simp,.inl ⟨_,_,rfl,run_takeDeferred hDD,?_⟩⟩
          exact ⟨.bool false,by simp [results,Tryz.results66,go_sem,r1],by rw [HRR2.out],hBF.trans (ht.below hsz hBF.size)⟩
        ·have n2:(b2 == a2) = false:=by simpa using e2
         have HRR2:=hid (show rr = false by rw [HRR];simp [e2])
         clear HRR
         go_region_held3 (fun w' => w'.cell? ⟨w.heap.size,0,none⟩ = some (.int .i64 b0) ∧ w'.cell? ⟨w.heap.size,1,none⟩ = some (.int .i64 b1) ∧ w'.cell? ⟨w.heap.size,2,none⟩ = some (.int .i64 b2) ∧ w'.cell? ⟨w.heap.size,3,none⟩ = some (.int .i64 b3) ∧ w'.cell? ⟨w.heap.size,4,none⟩ = some (.bool b4) ∧ w'.cell? ⟨w.heap.size,5,none⟩ = some (.slice ia ni ni) ∧ w'.cell? ⟨w.heap.size,6,none⟩ = some (.slice ka nk nk)) ((go_split_ands;(repeat' apply And.intro) <;> (with_reducible repeat (first | assumption | refine keepdrew ?_ | exact keepcell hv1 (by assumption) | refine keepset ?_ (by dsimp only;omega)))))
          (first
           | (go_at_call 90;refine (CAX.out _ (bdrew (Below.refl X.heap.size X))).mono ?_;rintro e' w1 ⟨rfl,hb1⟩;have hv1:Below X.heap.size X w1:=btrans (bdrew (Below.refl _ _)) hb1;obtain ⟨r0,rf⟩:=cell1k (h1.below (n:=X.heap.size) hv1 hq0 (lt_of_heap h1.d) hq2).r))
         have hRB:=h1.below (n:=X.heap.size) hv1 hq0 (lt_of_heap h1.d) hq2
         have hRS:=hRB.setr (by omega) (by omega) false
         have hDD:(w1.setCell ⟨w.heap.size + 1 + 1,0,none⟩ (.bool false)).heap[wr.heap.size]? = some (.deferred (some [])):=(Below.heap_setCell _ _ _ _ (by dsimp only;omega)).trans ((hv1.block _ hD1).trans hD)
         have ht:Tn ML wr.heap.size (w1.setCell ⟨w.heap.size + 1 + 1,0,none⟩ (.bool false)) ((w1.setCell ⟨w.heap.size + 1 + 1,0,none⟩ (.bool false)).putObj wr.heap.size (.deferred none)):=Tn.put _ hDD rfl (Nat.le_refl _)
         obtain ⟨r1,_⟩:=cell1k (hRS.tn ht (by omega) (by omega) (by omega)).r
         have hBF:=(btrans h3 hv1).setCell (p:=⟨w.heap.size + 1 + 1,0,none⟩) (by dsimp only;omega) (.bool false)
         gi_wp2
         refine ⟨by simp,.inl ⟨_,_,rfl,run_takeDeferred hDD,?_⟩⟩
         exact ⟨.bool false,by simp [results,Tryz.results66,go_sem,r1],by rw [HRR2.out],hBF.trans (ht.below hsz hBF.size)⟩
       ·have n1:(b1 == a1) = false:=by simpa using e1
        have HRR2:=hid (show rr = false by rw [HRR];simp [e1])
        clear HRR
        go_region_held3 (fun w' => w'.cell? ⟨w.heap.size,0,none⟩ = some (.int .i64 b0) ∧ w'.cell? ⟨w.heap.size,1,none⟩ = some (.int .i64 b1) ∧ w'.cell? ⟨w.heap.size,2,none⟩ = some (.int .i64 b2) ∧ w'.cell? ⟨w.heap.size,3,none⟩ = some (.int .i64 b3) ∧ w'.cell? ⟨w.heap.size,4,none⟩ = some (.bool b4) ∧ w'.cell? ⟨w.heap.size,5,none⟩ = some (.slice ia ni ni) ∧ w'.cell? ⟨w.heap.size,6,none⟩ = some (.slice ka nk nk)) ((go_split_ands;(repeat' apply And.intro) <;> (with_reducible repeat (first | assumption | refine keepdrew ?_ | exact keepcell hv1 (by assumption) | refine keepset ?_ (by dsimp only;omega)))))
         (first
          | (go_at_call 90;refine (CAX.out _ (bdrew (Below.refl X.heap.size X))).mono ?_;rintro e' w1 ⟨rfl,hb1⟩;have hv1:Below X.heap.size X w1:=btrans (bdrew (Below.refl _ _)) hb1;obtain ⟨r0,rf⟩:=cell1k (h1.below (n:=X.heap.size) hv1 hq0 (lt_of_heap h1.d) hq2).r))
        have hRB:=h1.below (n:=X.heap.size) hv1 hq0 (lt_of_heap h1.d) hq2
        have hRS:=hRB.setr (by omega) (by omega) false
        have hDD:(w1.setCell ⟨w.heap.size + 1 + 1,0,none⟩ (.bool false)).heap[wr.heap.size]? = some (.deferred (some [])):=(Below.heap_setCell _ _ _ _ (by dsimp only;omega)).trans ((hv1.block _ hD1).trans hD)
        have ht:Tn ML wr.heap.size (w1.setCell ⟨w.heap.size + 1 + 1,0,none⟩ (.bool false)) ((w1.setCell ⟨w.heap.size + 1 + 1,0,none⟩ (.bool false)).putObj wr.heap.size (.deferred none)):=Tn.put _ hDD rfl (Nat.le_refl _)
        obtain ⟨r1,_⟩:=cell1k (hRS.tn ht (by omega) (by omega) (by omega)).r
        have hBF:=(btrans h3 hv1).setCell (p:=⟨w.heap.size + 1 + 1,0,none⟩) (by dsimp only;omega) (.bool false)
        gi_wp2
        refine ⟨by simp,.inl ⟨_,_,rfl,run_takeDeferred hDD,?_⟩⟩
        exact ⟨.bool false,by simp [results,Tryz.results66,go_sem,r1],by rw [HRR2.out],hBF.trans (ht.below hsz hBF.size)⟩
      ·have n0:(b0 == a0) = false:=by simpa using e0
       have HRR2:=hid (show rr = false by rw [HRR];simp [e0])
       clear HRR
       go_region_held3 (fun w' => w'.cell? ⟨w.heap.size,0,none⟩ = some (.int .i64 b0) ∧ w'.cell? ⟨w.heap.size,1,none⟩ = some (.int .i64 b1) ∧ w'.cell? ⟨w.heap.size,2,none⟩ = some (.int .i64 b2) ∧ w'.cell? ⟨w.heap.size,3,none⟩ = some (.int .i64 b3) ∧ w'.cell? ⟨w.heap.size,4,none⟩ = some (.bool b4) ∧ w'.cell? ⟨w.heap.size,5,none⟩ = some (.slice ia ni ni) ∧ w'.cell? ⟨w.heap.size,6,none⟩ = some (.slice ka nk nk)) ((go_split_ands;(repeat' apply And.intro) <;> (with_reducible repeat (first | assumption | refine keepdrew ?_ | exact keepcell hv1 (by assumption) | refine keepset ?_ (by dsimp only;omega)))))
        (first
         | (go_at_call 90;refine (CAX.out _ (bdrew (Below.refl X.heap.size X))).mono ?_;rintro e' w1 ⟨rfl,hb1⟩;have hv1:Below X.heap.size X w1:=btrans (bdrew (Below.refl _ _)) hb1;obtain ⟨r0,rf⟩:=cell1k (h1.below (n:=X.heap.size) hv1 hq0 (lt_of_heap h1.d) hq2).r))
       have hRB:=h1.below (n:=X.heap.size) hv1 hq0 (lt_of_heap h1.d) hq2
       have hRS:=hRB.setr (by omega) (by omega) false
       have hDD:(w1.setCell ⟨w.heap.size + 1 + 1,0,none⟩ (.bool false)).heap[wr.heap.size]? = some (.deferred (some [])):=(Below.heap_setCell _ _ _ _ (by dsimp only;omega)).trans ((hv1.block _ hD1).trans hD)
       have ht:Tn ML wr.heap.size (w1.setCell ⟨w.heap.size + 1 + 1,0,none⟩ (.bool false)) ((w1.setCell ⟨w.heap.size + 1 + 1,0,none⟩ (.bool false)).putObj wr.heap.size (.deferred none)):=Tn.put _ hDD rfl (Nat.le_refl _)
       obtain ⟨r1,_⟩:=cell1k (hRS.tn ht (by omega) (by omega) (by omega)).r
       have hBF:=(btrans h3 hv1).setCell (p:=⟨w.heap.size + 1 + 1,0,none⟩) (by dsimp only;omega) (.bool false)
       gi_wp2
       refine ⟨by simp,.inl ⟨_,_,rfl,run_takeDeferred hDD,?_⟩⟩
       exact ⟨.bool false,by simp [results,Tryz.results66,go_sem,r1],by rw [HRR2.out],hBF.trans (ht.below hsz hBF.size)⟩
     case stop =>
      rintro c k X hk ⟨rfl,h1,HRR,h3⟩ hD hbX
      have ht:Tn ML wr.heap.size X (X.putObj wr.heap.size (.deferred none)):=Tn.put _ hD rfl (Nat.le_refl _)
      obtain ⟨r1,_⟩:=cell1k (h1.tn ht (by omega) (by omega) (by omega)).r
      gi_wp2
      refine ⟨by simp,.inl ⟨_,_,rfl,run_takeDeferred hD,?_⟩⟩
      exact ⟨.bool false,by simp [results,Tryz.results66,go_sem,r1],by rw [HRR],h3.trans (ht.below hsz h3.size)⟩
 ·obtain rfl:b4 = !z:=by cases b4 <;> cases z <;> simp_all
  have HRR:=hid (hno1.out (by cases z <;> rfl))
  clear hno1 hno2 hno3 hno4 hfin hdec hleaf CB CA CC IH HKN HKV HKF hks
  obtain ⟨A0,A1,A2,hs,hB⟩:=alloc3 w (.cells #[.int .i64 b0,.int .i64 b1,.int .i64 b2,.int .i64 b3,.bool (!z),.slice ia ni ni,.slice ka nk nk] 35) (.cells #[.int .i64 dz] 3) (.cells #[.bool false] 4)
  obtain ⟨r1,_⟩:=cell1k A2
  clear A0 A1 A2 hs
  rw [← callsIn_wide (n:=10)]
  refine callsIn_of_wp_marks Tryz.func66 rfl trivial ?_ rfl
  simp only [Tryz.ntmps66,List.size_toArray,List.length_cons,List.length_nil,Nat.reduceAdd,Nat.reduceSub,Array.replicate_succ,Array.replicate_zero,List.push_toArray,List.append_toArray,List.nil_append,List.cons_append]
  gi_wp2
  refine ⟨trivial,?_⟩
  gi_wp2
  refine ⟨.bool false,by simp [results,Tryz.results66,go_sem,r1],by rw [HRR.out],hB⟩
theorem impl_right (d:Nat):d ≤ 8 → ∀ (m lo:Nat) (t:KT) (ia ka:Option Addr) (least:Nat) (w:World),Kn lo m w ia ka t → ksz m t ≤ 1048576 → Calls Tryz.prog 66 #[kvo t ia ka,.int .i64 ((d + 1:Nat):Int),.int .i64 least] w fun e w' => e = .returned (.bool (rgt (d + 1) t least)) ∧ Below w.heap.size w w':=by
 induction d with
 | zero => exact fun h m lo t ia ka least w hk hz => right_step 0 h (fun d' e => by omega) m lo t ia ka least w hk hz
 | succ d IH =>
  intro h m lo t ia ka least w hk hz
  refine right_step (d + 1) h (fun d' e => ?_) m lo t ia ka least w hk hz
  have e':d' = d:=by omega
  subst e'
  exact IH (by omega)
end Go.Proofs.YtjahlofahjgdbaaGreat
namespace Go.Proofs.YtjahlofahjgdbaaGreat
open Go.RowKit
theorem set5 {w:World} {p:Nat} {o0 o1 o2 o3 o4:Value} {t:TypeId} (h:w.heap[p]? = some (.cells #[o0,o1,o2,o3,o4] t (0,0))) (a b c d e:Value) :
  (((((w.setCell ⟨p,0,none⟩ a).setCell ⟨p,1,none⟩ b).setCell ⟨p,2,none⟩ c).setCell ⟨p,3,none⟩ d).setCell ⟨p,4,none⟩ e).heap[p]? = some (.cells #[a,b,c,d,e] t (0,0)):=by
 have st:∀ (W:World) (cs:Array Value) (k:Nat) (u:Value),W.heap[p]? = some (.cells cs t (0,0)) → (W.setCell ⟨p,k,none⟩ u).heap[p]? = some (.cells (cs.setIfInBounds k u) t (0,0)):=by
  intro W cs k u h
  have hlt:=lt_of_block h
  have h':W.heap[p] = .cells cs t (0,0):=by simpa [Array.getElem?_eq_getElem hlt] using h
  show (W.heap.modify p _)[p]? = _
  rw [Array.getElem?_eq_getElem (by simpa using hlt),Array.getElem_modify_self,h']
  rfl
 have e4:=st _ _ 4 e (st _ _ 3 d (st _ _ 2 c (st _ _ 1 b (st _ _ 0 a h))))
 simpa using e4
def CP (w:World) (kd:Int) (ps:List (Int × Int)) (e:Ending) (w':World):Prop:=
 ∃ g cap,e = .returned (.agg #[.int .i64 kd,.slice (some ⟨g,0,none⟩) ps.length cap]) ∧ ps.length ≤ cap ∧ w.heap.size ≤ g ∧ PtsOwn w' g ps ∧ Below w.heap.size w w'
def tk (f:Nat → Int × Int) (i:Nat):List (Int × Int):=(List.range i).map f
theorem Tryz.infoI:(Tryz.prog.info? 3).map (fun i => (i.zero,i.size,i.bytes)) = some (some (.int .i64 0),1,8):=by kernel_rfl
def IAt (w:World) (b off:Nat) (zs:List Int):Prop:=∀ k,k < zs.length → w.cell? ⟨b,off + k,none⟩ = some (.int .i64 (zs.getD k 0))
def OwnI (w:World) (a:Option Addr) (zs:List Int):Prop:=(a = none ∧ zs = []) ∨ ∃ b,a = some ⟨b,0,none⟩ ∧ b < w.heap.size ∧ IAt w b 0 zs ∧ w.there b 0 zs.length
def fli (zs:List Int):List Value:=zs.map (Value.int .i64)
theorem fli_len (zs:List Int):(fli zs).length = zs.length:=by simp [fli]
theorem own_cell {w:World} {B g n cap:Nat} {zs:List Int} (h:w.ownsRow B 3 1 (.slice (some ⟨g,0,none⟩) n cap) n (fli zs)) (hn:zs.length = n) {k:Nat} (hk:k < n):w.cell? ⟨g,k,none⟩ = some (.int .i64 (zs.getD k 0)):=by
 rw [World.ownsRow.cellAt h k (by omega)]
 simp [fli,List.getD_eq_getElem?_getD,List.getElem?_eq_getElem (show k < zs.length by omega)]
theorem own_I {w:World} {B g n cap:Nat} {zs:List Int} (h:w.ownsRow B 3 1 (.slice (some ⟨g,0,none⟩) n cap) n (fli zs)) (hn:zs.length = n):B ≤ g ∧ n ≤ cap ∧ OwnI w (some ⟨g,0,none⟩) zs:=by
 have h':=h
 rcases h.2 with ⟨q,_⟩ | ⟨g',cap',cur,e,hb,hg,hc,_⟩
 ·cases q
 ·cases e
  refine ⟨hb,hc,.inr ⟨g,rfl,(Array.getElem?_eq_some_iff.1 hg).1,fun k hk => ?_,fun j hj => ?_⟩⟩
  ·rw [Nat.zero_add];exact own_cell h' hn (by omega)
  ·simp only [Nat.zero_add]
   refine ⟨?_,World.ownsRow.frozenAt h' j⟩
   rw [own_cell h' hn (by omega)];rfl
end Go.Proofs.YtjahlofahjgdbaaGreat
