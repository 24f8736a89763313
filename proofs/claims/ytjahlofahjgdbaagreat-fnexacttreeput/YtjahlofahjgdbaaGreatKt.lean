import Derived.Test.YtjahlofahjgdbaaGreatJ11
set_option maxRecDepth 100000
set_option maxHeartbeats 4000000
set_option linter.unusedSimpArgs false
set_option linter.unusedVariables false
namespace Go.Proofs.YtjahlofahjgdbaaGreat
open Go.RowKit Go.Shelf
attribute [local go_sem] Oper.semAt_some
def hid1 (id:Int) (l:List It):Bool:=(l.map (·.1)).contains id
theorem hid1_next {id:Int} {l:List It} {j:Nat} (h:j < l.length) (h0:hid1 id (l.take j) = false) (h1:l[j].1 ≠ id):hid1 id (l.take (j + 1)) = false:=by
 unfold hid1 at *
 rw [List.take_add_one,List.getElem?_eq_getElem h,Option.toList_some,List.map_append]
 have h2:id ≠ l[j].1:=fun e => h1 e.symm
 simp only [List.contains_eq_mem,List.mem_append,List.map_cons,List.map_nil,List.mem_singleton,decide_eq_false_iff_not,not_or] at h0 ⊢
 exact ⟨h0,h2⟩
theorem hid1_app {id:Int} {a b:List It} (h:hid1 id a = false) (h':hid1 id b = false):hid1 id (a ++ b) = false:=by
 unfold hid1 at *
 rw [List.map_append]
 simp only [List.contains_eq_mem,List.mem_append,decide_eq_false_iff_not,not_or] at *
 exact ⟨h,h'⟩
theorem hid1_at {id:Int} {l:List It} {j:Nat} (h:j < l.length) (h1:l[j].1 = id):hid1 id l = true:=by
 unfold hid1
 simp only [List.contains_eq_mem,decide_eq_true_eq]
 exact List.mem_map.2 ⟨l[j],List.getElem_mem h,h1⟩
theorem impl_hasId (id:Int) (m lo:Nat) (t:KT) (ia ka:Option Addr) (w:World) (h:Kn lo m w ia ka t) (hz:ksz m t ≤ 1048576):Calls Tryz.prog 47 #[kvo t ia ka,.int .i64 id] w fun e w' => e = .returned (.bool (hid1 id (itm 20 t))) ∧ Below w.heap.size w w':=by
 have hlen:=Nat.le_trans (kn_itm m 20 h) hz
 have hkn:=itm_kns 20 t
 rw [← hkn]
 rw [← hkn] at hlen
 obtain ⟨b0,b1,b2,b3,b4,ni,nk,hkf⟩:=kf t
 have hkv:kvo t ia ka = .agg #[.int .i64 b0,.int .i64 b1,.int .i64 b2,.int .i64 b3,.bool b4,.slice ia ni ni,.slice ka nk nk]:=kvo_of hkf ia ka
 have KC:=hid (fun W => knots_c t ia t.its.length ka t.kids.length W)
 have hck:ck t ia t.its.length ka t.kids.length = [.int .i64 b0,.int .i64 b1,.int .i64 b2,.int .i64 b3,.bool b4,.slice ia ni ni,.slice ka nk nk]:=by
  obtain ⟨rfl,rfl,rfl,rfl,rfl,rfl,rfl⟩:=hkf
  rfl
 change Hid (∀ W,Calls _ _ #[kvo t ia ka] W _) at KC
 rw [hck,hkv] at KC
 rw [hkv]
 rw [← callsIn_wide (n:=10)]
 refine callsIn_of_wp_marks Tryz.func47 rfl trivial ?_ rfl
 simp only [Tryz.ntmps47,List.size_toArray,List.length_cons,List.length_nil,Nat.reduceAdd,Nat.reduceSub,Array.replicate_succ,Array.replicate_zero,List.push_toArray,List.append_toArray,List.nil_append,List.cons_append]
 gi_wp2
 refine ⟨trivial,((callsIn_wide (n:=9)).2 (KC.out _)).mono ?_⟩
 rintro e v1 ⟨rfl,hv1⟩
 obtain ⟨A0,A1,A2,A3,hs,hB⟩:=alloc4 w (.cells #[.int .i64 b0,.int .i64 b1,.int .i64 b2,.int .i64 b3,.bool b4,.slice ia ni ni,.slice ka nk nk] 35) (.cells #[.int .i64 id] 3) (.cells #[.bool false] 4) (.cells #[.int .i64 b0,.int .i64 b1,.int .i64 b2,.int .i64 b3,.bool b4,.slice ia ni ni,.slice ka nk nk] 35)
 rw [← hv1] at A0 A1 A2 A3 hs hB
 clear hv1
 gi_wp2
 have HL:=hid hlen
 have HSQ:=hid (knots_seq 9 lo m (by omega) t ia ka w v1 (w.heap.size + 1 + 1 + 1) h hz hB (by rw [hck];exact A3))
 have HS:=hid hs
 clear hlen hkn A0 A3 KC hkv hck hs
 have A1':v1.heap[w.heap.size + 1]? = some (.cells #[.int .i64 id] 3 (0,0)):=A1
 have A2':v1.heap[w.heap.size + 1 + 1]? = some (.cells #[.bool false] 4 (0,0)):=A2
 refine wpIn_rangeN rfl (fun h => by cases h) (first:=#[]) (by rfl) trivial (enters_of Tryz.func92 (by kernel_rfl) rfl) (fun _ => rfl) (fun _ => rfl) HSQ.out (Below.refl _ v1) hB.size
  (fun k X => X.heap[w.heap.size + 1]? = some (.cells #[.int .i64 id] 3 (0,0)) ∧ X.heap[w.heap.size + 1 + 1]? = some (.cells #[.bool false] 4 (0,0)) ∧ Hid (hid1 id (((kns (fun _ => true) 20 t).take k).flatMap KT.its) = false) ∧ Below w.heap.size w X)
  (fun c k X => c = .ret ∧ X.heap[w.heap.size + 1 + 1]? = some (.cells #[.bool true] 4 (0,0)) ∧ Hid (hid1 id ((kns (fun _ => true) 20 t).flatMap KT.its) = true) ∧ Below w.heap.size w X)
  (fun _ _ _ => trivial) ?hI ?hIx ?h0
  (RdAx lo v1.heap.size w (kns (fun _ => true) 20 t) (fun k X => X.heap[w.heap.size + 1]? = some (.cells #[.int .i64 id] 3 (0,0)) ∧ X.heap[w.heap.size + 1 + 1]? = some (.cells #[.bool false] 4 (0,0)) ∧ Hid (hid1 id (((kns (fun _ => true) 20 t).take k).flatMap KT.its) = false) ∧ Below w.heap.size w X) (fun Bx vv => #[.agg #[.int .i64 b0,.int .i64 b1,.int .i64 b2,.int .i64 b3,.bool b4,.slice ia ni ni,.slice ka nk nk],.int .i64 id,.pointer (some ⟨w.heap.size,0,none⟩),.pointer (some ⟨w.heap.size + 1,0,none⟩),.pointer (some ⟨w.heap.size + 1 + 1,0,none⟩),.pointer (some ⟨Bx,0,none⟩),undef,undef,.agg #[.int .i64 b0,.int .i64 b1,.int .i64 b2,.int .i64 b3,.bool b4,.slice ia ni ni,.slice ka nk nk],.func (.func 92) #[] #[.pointer (some ⟨w.heap.size + 1 + 1 + 1,0,none⟩)],vv,undef,undef,undef,undef,undef,undef,undef,undef,undef,undef,undef,undef]))
  ?hAx ?assign ?body ?done ?stop
 case hI =>
  rintro k X Y ⟨h1,h2,h3,h4⟩ ht
  exact ⟨(ht.old _ (lt_of_heap h1) (.inl (by rw [HS.out];omega))).trans h1,(ht.old _ (lt_of_heap h2) (.inl (by rw [HS.out];omega))).trans h2,h3,h4.trans (ht.below hB.size h4.size)⟩
 case hIx =>
  rintro c k X Y ⟨h0,h2,h3,h4⟩ ht
  exact ⟨h0,(ht.old _ (lt_of_heap h2) (.inl (by rw [HS.out];omega))).trans h2,h3,h4.trans (ht.below hB.size h4.size)⟩
 case h0 => exact ⟨A1',A2',hid rfl,hB⟩
 case hAx =>
  rintro k a' X l' r r' HH hl' hle'
  refine RdAx.putR (M:=MT) (fun _ => rfl) ?_ HH hl' hle'
  rintro k X Y ⟨h1,h2,h3,h4⟩ ht
  exact ⟨(ht.old _ (lt_of_heap h1) (.inl (by rw [HS.out];omega))).trans h1,(ht.old _ (lt_of_heap h2) (.inl (by rw [HS.out];omega))).trans h2,h3,h4.trans (ht.below hB.size h4.size)⟩
 case assign =>
  rintro l' k v X hk ⟨h1,h2,h3,h4⟩ ⟨hk',m',ia',ka',rfl,hkn⟩ hsX hbX
  obtain ⟨c0,c1,c2,c3,c4,mi,mk,hf⟩:=kf (kns (fun _ => true) 20 t)[k]
  rw [kvo_of hf]
  gi_wp2
  have hBA:Below X.heap.size X (X.alloc (.cells #[.int .i64 c0,.int .i64 c1,.int .i64 c2,.int .i64 c3,.bool c4,.slice ia' mi mi,.slice ka' mk mk] 35)):=balloc (Below.refl X.heap.size X) _
  exact ⟨Kp.of_below hBA h4.size,⟨X.heap.size,m',ia',ka',hk',c0,c1,c2,c3,c4,mi,mk,hf,new_alloc _ _ _ rfl,hsX,hkn,⟨keepheap hBA h1,keepheap hBA h2,h3,btrans h4 hBA⟩,rfl⟩⟩
 case body =>
  rintro l' k a' X hk ⟨Bx,m',ia',ka',hk',c0,c1,c2,c3,c4,mi,mk,hf,hbx,hle,hkn,⟨h1,h2,h3,h4⟩,rfl⟩
  cases m' with
  | zero => exact hkn.elim
  | succ m' =>
  obtain ⟨bi',bk',rfl,rfl,_,_,hIO,_⟩:=hkn
  have HNX:=hid (its_next (kns (fun _ => true) 20 t) k hk')
  have hpl:=its_le (kns (fun _ => true) 20 t) (k + 1)
  rw [HNX.out,List.length_append,hf.its] at hpl
  have hll:=HL.out
  have hmib:mi ≤ 1048576:=by omega
  have HALL:=hid (fun (j:Nat) (hj:j < (kns (fun _ => true) 20 t)[k].its.length) (e:(kns (fun _ => true) 20 t)[k].its[j].1 = id) => show hid1 id ((kns (fun _ => true) 20 t).flatMap KT.its) = true by
   have h5:=hid1_at hj e
   unfold hid1 at h5 ⊢
   simp only [List.contains_eq_mem,decide_eq_true_eq] at h5 ⊢
   obtain ⟨x,hx,hxe⟩:=List.mem_map.1 h5
   exact List.mem_map.2 ⟨x,List.mem_flatMap.2 ⟨_,List.getElem_mem hk',hx⟩,hxe⟩)
  have HIO:=hid hIO
  have HMI:=hid hf.its
  have hsX:=h4.size
  obtain ⟨z0,z1,z2,z3,z4,z5,z6,_,_,_,_,_,_,_⟩:=cell7k hbx
  have HH1:=hid h1
  have HH2:=hid h2
  have HH4:=hid h4
  clear h1 h2 h4 hpl hll hIO hf
  simp only []
  gi_wp2
  gi_loopw [14] (fun i Y => ∃ j:Nat,j ≤ mi ∧ i = .int .i64 j ∧ Hid (hid1 id ((kns (fun _ => true) 20 t)[k].its.take j) = false) ∧ Hid (Y.heap[w.heap.size + 1]? = some (.cells #[.int .i64 id] 3 (0,0))) ∧ Hid (Y.heap[w.heap.size + 1 + 1]? = some (.cells #[.bool false] 4 (0,0))) ∧ Hid (Below w.heap.size w Y) ∧ Hid (Kp MT v1.heap.size w.heap.size X Y)) (fun i _ => mi - (intOf i).toNat)
  case atStart => exact ⟨0,Nat.zero_le _,rfl,hid rfl,HH1,HH2,HH4,hid (Kp.refl _ _ _ _)⟩
  case round =>
   clear HH1 HH2 HH4 z0 z1 z2 z3 z4 z5 z6
   obtain ⟨j,hj,rfl,HN,HH1,HH2,HH4,HKP⟩:=hrel
   by_cases hltj:j < mi
   ·have c1':(j:Int) < (mi:Int):=by omega
    have hjt:j < (kns (fun _ => true) 20 t)[k].its.length:=by rw [HMI.out];exact hltj
    obtain ⟨y0,y1,y2,y3,y4⟩:=((HIO.out.2.1 j hjt).below HIO.out.1 HH4.out).item
    have HA2:=hid (HALL.out j hjt)
    have HN2:=hid (fun e => hid1_next hjt HN.out e)
    generalize (kns (fun _ => true) 20 t)[k].its[j] = xx at *
    obtain ⟨iid,x0,x1,x2,x3⟩:=xx
    simp only [] at y0 y1 y2 y3 y4 HA2 HN2
    have hbA:=balloc (Below.refl wr.heap.size wr) (.cells #[.int .i64 iid,.int .i64 x0,.int .i64 x1,.int .i64 x2,.int .i64 x3] 40)
    have h1A:=old_alloc (o':=(.cells #[.int .i64 iid,.int .i64 x0,.int .i64 x1,.int .i64 x2,.int .i64 x3] 40)) HH1.out
    have h2A:=old_alloc (o':=(.cells #[.int .i64 iid,.int .i64 x0,.int .i64 x1,.int .i64 x2,.int .i64 x3] 40)) HH2.out
    obtain ⟨u0,_⟩:=cell1k h1A
    obtain ⟨q0,qf⟩:=cell1k h2A
    have hKA:=HKP.out.belowR hbA hsX
    have hBA:=btrans HH4.out hbA
    clear hbA
    by_cases he:iid = id
    ·subst he
     have HT:=hid (HA2.out rfl)
     have hs2:=lt_of_heap HH2.out
     have hset:=old_alloc (o':=(.cells #[.int .i64 iid,.int .i64 x0,.int .i64 x1,.int .i64 x2,.int .i64 x3] 40)) (set_at (k:=0) (u:=.bool true) HH2.out)
     have hbA2:=balloc (Below.refl (wr.setCell ⟨w.heap.size + 1 + 1,0,none⟩ (.bool true)).heap.size (wr.setCell ⟨w.heap.size + 1 + 1,0,none⟩ (.bool true))) (.cells #[.int .i64 iid,.int .i64 x0,.int .i64 x1,.int .i64 x2,.int .i64 x3] 40)
     have HK2:=hid ((HKP.out.set (p:=⟨w.heap.size + 1 + 1,0,none⟩) (.bool true) (by dsimp only;omega) (.inl (by dsimp only;rw [HS.out];omega))).belowR hbA2 hsX)
     have HB2:=hid (btrans (HH4.out.setCell (p:=⟨w.heap.size + 1 + 1,0,none⟩) (by dsimp only;omega) (.bool true)) hbA2)
     have HSE:=hid hset
     clear HA2 HN2 HN HALL hset hbA2 hKA hBA
     gi_wp2
     exact ⟨HK2.out,rfl,HSE.out,HT,HB2.out⟩
    ·have hne:(iid == id) = false:=by simpa using he
     have HN3:=hid (HN2.out he)
     clear HA2 HN2 HN
     gi_wp2
     go_roundw
     case rel => exact ⟨j + 1,by omega,by go_num,HN3,hid h1A,hid h2A,hid hBA,hid hKA⟩
     case measure => simp [intOf];omega
   ·have c1':(mi:Int) ≤ (j:Int):=by omega
    have hall:(kns (fun _ => true) 20 t)[k].its.take j = (kns (fun _ => true) 20 t)[k].its:=List.take_of_length_le (by rw [HMI.out];omega)
    have hfin:=HN.out
    rw [hall] at hfin
    have HFI:=hid (show hid1 id (((kns (fun _ => true) 20 t).take (k + 1)).flatMap KT.its) = false by rw [HNX.out];exact hid1_app h3.out hfin)
    clear hall hfin HN
    gi_wp2
    exact ⟨HKP.out,HH1.out,HH2.out,HFI,HH4.out⟩
 case done =>
  rintro X ⟨h1,h2,h3,h4⟩ hD hbX
  rw [List.take_length] at h3
  obtain ⟨q0,qf⟩:=cell1k h2
  have hset:=set_at (k:=0) (u:=.bool false) h2
  obtain ⟨q1,_⟩:=cell1k hset
  have hs2:=lt_of_heap h2
  have hDD:(X.setCell ⟨w.heap.size + 1 + 1,0,none⟩ (.bool false)).heap[v1.heap.size]? = some (.deferred (some [])):=(Below.heap_setCell _ _ _ _ (by dsimp only;rw [HS.out];omega)).trans hD
  have ht:Tn MT v1.heap.size (X.setCell ⟨w.heap.size + 1 + 1,0,none⟩ (.bool false)) ((X.setCell ⟨w.heap.size + 1 + 1,0,none⟩ (.bool false)).putObj v1.heap.size (.deferred none)):=Tn.put _ hDD rfl (Nat.le_refl _)
  have hz2:=(ht.old _ (lt_of_heap hset) (.inl (by rw [HS.out];omega))).trans hset
  obtain ⟨q2,_⟩:=cell1k hz2
  have hBF:=h4.setCell (p:=⟨w.heap.size + 1 + 1,0,none⟩) (by dsimp only;omega) (.bool false)
  gi_wp2
  refine ⟨by simp,.inl ⟨_,_,rfl,run_takeDeferred hDD,?_⟩⟩
  exact ⟨.bool false,by simp [results,Tryz.results47,go_sem,q2],by rw [h3.out],hBF.trans (ht.below hB.size hBF.size)⟩
 case stop =>
  rintro c k X hk ⟨rfl,h2,h3,h4⟩ hD hbX
  have ht:Tn MT v1.heap.size X (X.putObj v1.heap.size (.deferred none)):=Tn.put _ hD rfl (Nat.le_refl _)
  have hz2:=(ht.old _ (lt_of_heap h2) (.inl (by rw [HS.out];omega))).trans h2
  obtain ⟨q2,_⟩:=cell1k hz2
  gi_wp2
  refine ⟨by simp,.inl ⟨_,_,rfl,run_takeDeferred hD,?_⟩⟩
  exact ⟨.bool true,by simp [results,Tryz.results47,go_sem,q2],by rw [h3.out],h4.trans (ht.below hB.size h4.size)⟩
end Go.Proofs.YtjahlofahjgdbaaGreat
