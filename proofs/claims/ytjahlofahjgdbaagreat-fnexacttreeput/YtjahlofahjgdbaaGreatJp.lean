import Derived.Test.YtjahlofahjgdbaaGreatJm
import Derived.Test.YtjahlofahjgdbaaGreatJ11
set_option maxRecDepth 100000
set_option maxHeartbeats 8000000
set_option linter.unusedSimpArgs false
set_option linter.unusedVariables false
namespace Go.Proofs.YtjahlofahjgdbaaGreat
open Go.RowKit Go.Shelf
attribute [local go_sem] Oper.semAt_some
def M0:Obj → Bool
 | .cells _ _ _ => false
 | _ => true
theorem KO.cells {lo:Nat}:∀ {n:Nat} {w:World} {h:Hd} {S:List Nat} {t:KT},KO lo n w h S t → ∀ b ∈ S,∃ cs t fr,w.heap[b]? = some (.cells cs t fr)
 | 0,_,_,_,_,h,_,_ => h.elim
 | n + 1,w,h,S,t,⟨ps,l1,r1,r2,hS,hN,hk⟩,b,hb' => by
  have hr:∀ {B sz n k c:Nat} {e:TypeId} {a:Option Addr} {xs:List Value},w.ownsRow B e sz (.slice a k c) n xs → b ∈ hb a → ∃ cs t fr,w.heap[b]? = some (.cells cs t fr):=by
   intro B sz n k c e a xs h hm
   rcases h.2 with ⟨q,_⟩ | ⟨g,c',cur,q0,q1,q2,q3⟩
   ·cases q;simp [hb] at hm
   ·cases q0
    have:b = g:=by simpa [hb] using hm
    rw [this];exact ⟨_,_,_,q2⟩
  have hb':=hS.mem_iff.1 hb'
  simp only [List.mem_append] at hb'
  rcases hb' with (hb' | hb') | hb'
  ·exact hr r1 hb'
  ·exact hr r2 hb'
  ·obtain ⟨p,hp,hb'⟩:=List.mem_flatMap.1 hb'
   exact (hk p hp).cells b hb'
theorem KO.tn {lo n B:Nat} {w w':World} {h:Hd} {S:List Nat} {t:KT} (k:KO lo n w h S t) (H:Tn M0 B w w'):KO lo n w' h S t:=k.keep fun b hb => H.old b (k.lt b hb).2 (.inr fun o ho => by
 obtain ⟨cs,t,fr,e⟩:=k.cells b hb
 rw [e] at ho;cases ho;rfl)
theorem Tn.cells {B b:Nat} {w w':World} {cs:Array Value} {t:TypeId} {fr:Nat × Nat} (H:Tn M0 B w w') (h:w.heap[b]? = some (.cells cs t fr)):w'.heap[b]? = some (.cells cs t fr):=(H.old b (lt_of_heap h) (.inr fun o ho => by rw [h] at ho;cases ho;rfl)).trans h
def RdR (m Z:Nat) (w0:World) (L:List KT) (I:Nat → World → Prop) (TM:Nat → Value → Array Value) (k:Nat) (a':Act) (X:World):Prop:=∃ (Bx:Nat) (ia':Option Addr) (ic':Nat) (ka':Option Addr) (kc':Nat) (hk:k < L.length) (c0 c1 c2 c3:Int) (c4:Bool) (mi mk:Nat),KF L[k] c0 c1 c2 c3 c4 mi mk ∧ X.heap[Bx]? = some (.cells #[.int .i64 c0,.int .i64 c1,.int .i64 c2,.int .i64 c3,.bool c4,.slice ia' mi ic',.slice ka' mk kc'] 35 (0,0)) ∧ Z ≤ Bx ∧ KnR m w0 ia' ic' ka' kc' L[k] ∧ (∃ X0,I k X0 ∧ X0.heap.size ≤ Bx ∧ Tn M0 Z X0 X) ∧ a' = { tmps:=TM Bx (.agg #[.int .i64 c0,.int .i64 c1,.int .i64 c2,.int .i64 c3,.bool c4,.slice ia' mi ic',.slice ka' mk kc']),defers:=[] }
theorem RdR.putR {m Z:Nat} {w0:World} {L:List KT} {I:Nat → World → Prop} {TM:Nat → Value → Array Value} {k:Nat} {a':Act} {X:World} {l:Nat} {r r':Loop} (h:RdR m Z w0 L I TM k a' X) (hl:X.heap[l]? = some (.loop r)) (hz:Z ≤ l):RdR m Z w0 L I TM k a' (X.putObj l (.loop r')):=by
 obtain ⟨Bx,ia',ic',ka',kc',hk,c0,c1,c2,c3,c4,mi,mk,hf,hbx,hle,hkn,⟨X0,h1,h2,h3⟩,ha⟩:=h
 refine ⟨Bx,ia',ic',ka',kc',hk,c0,c1,c2,c3,c4,mi,mk,hf,(World.putObj_heap_other (fun e => ?_)).trans hbx,hle,hkn,⟨X0,h1,h2,h3.trans (Tn.put _ hl rfl hz)⟩,ha⟩
 rw [e,hl] at hbx;cases hbx
theorem make_room (n:Nat) (hn:n ≤ 1099511627776) (w:World):(Instr.makeSlice 33 (.int .i64 0) (.int .i64 n)).run Tryz.prog w = .ok (.slice (some ⟨w.heap.size,0,none⟩) 0 n) (w.alloc (.cells (madeCells #[.int .i64 0,.int .i64 0,.int .i64 0,.int .i64 0,.bool false,.slice none 0 0,.slice none 0 0] (n * 7)) 35)):=by
 obtain ⟨i0,hi0,hz0,hz1,hz2⟩:=info_parts Tryz.infoKn
 have:=run_make (P:=Tryz.prog) w 33 35 i0 _ Tryz.underlying33 hi0 hz0 .i64 .i64 0 n (by omega) (by omega) (by rw [hz2];omega) (by omega)
 rw [hz1] at this
 exact this
theorem Kp.setL {B n b:Nat} {X:World}:∀ (vs:List Value) {Y:World} {o:Nat} {cs:Array Value} {t:TypeId} {fr:Nat × Nat},Kp M0 B n X Y → n ≤ b → Y.heap[b]? = some (.cells cs t fr) → Kp M0 B n X (setL Y b o vs)
 | [],_,_,_,_,_,h,_,_ => h
 | v :: r,Y,o,cs,t,fr,h,hn,hc => Kp.setL r (h.set (p:=⟨b,o,none⟩) v hn (.inr (.inr fun o' ho => by
   have hc':Y.heap[b]? = some o':=ho
   rw [hc] at hc';cases hc';rfl))) hn (set_at hc)
theorem grown_setL {w w':World} {row:Option Nat} {g:Nat} (h:w.grownBy w' row) (hg:some g = row ∨ w.heap.size ≤ g) (o:Nat) (vs:List Value):w.grownBy (setL w' g o vs) row:=by
 have hb:=setL_below vs w' w' g o 0 (Below.refl _ _) (Nat.zero_le _)
 refine ⟨hb.os.trans h.os,hb.tape.trans h.tape,hb.output.trans h.output,Nat.le_trans h.size hb.size,fun k hk hne => ?_⟩
 refine (setL_blk vs w' g o k (fun e => ?_)).trans (h.block k hk hne)
 subst e
 rcases hg with e | e
 ·exact hne e
 ·omega
theorem KO.flat {lo n m:Nat} {w:World} {h:Hd} {S:List Nat} {t:KT} (k:KO lo (n + 1) w h S t) (hk:t.kids = []):KO lo (m + 1) w h S t:=by
 obtain ⟨ps,l1,r1,r2,hS,hN,hp⟩:=k
 have e:ps = []:=by rw [hk] at l1;exact List.map_eq_nil_iff.1 l1.symm
 subst e
 exact ⟨[],l1,r1,r2,hS,hN,fun p hp => by cases hp⟩
theorem hb_mem {a:Option Addr} {n c g:Nat} (h:g ∈ hb a):some g = Value.ownBlock (.slice a n c):=by
 cases a with
 | none => simp [hb] at h
 | some x =>
  have:g = x.block:=by simpa [hb] using h
  rw [this];rfl
theorem own_kindK {w:World} {B sz n k c g:Nat} {e:TypeId} {xs:List Value} (h:w.ownsRow B e sz (.slice (some ⟨g,0,none⟩) k c) n xs):∃ cs,w.heap[g]? = some (.cells cs e (0,0)):=by
 rcases h.2 with ⟨q,_⟩ | ⟨g',c',cur,q0,q1,q2,q3⟩
 ·cases q
 ·cases q0;exact ⟨_,q2⟩
theorem flK_put (ps:List KP) (q:KP) {k:Nat} (h:ps.length = k) {zs:List Value} (hz:zs.length = 7):(flK ps ++ zs).take (k * 7) ++ ckh q.1 q.2.1 ++ (flK ps ++ zs).drop (k * 7 + (ckh q.1 q.2.1).length) = flK ps ++ ckh q.1 q.2.1:=by
 have hl:(flK ps).length = k * 7:=by rw [flK_len,h]
 rw [show k * 7 = (flK ps).length + 0 by omega,take_lenA,List.take_zero,List.append_nil,ckp_len,show (flK ps).length + 0 + 7 = (flK ps).length + 7 by omega,drop_lenA,List.drop_of_length_le (by omega),List.append_nil]
theorem setCell_comm {w:World} {p q:Addr} {u v:Value} (h:p.block ≠ q.block):(w.setCell p u).setCell q v = (w.setCell q v).setCell p u:=by
 unfold World.setCell
 simp only []
 congr 1
 apply Array.ext_getElem?
 intro i
 simp only [Array.getElem?_modify]
 split <;> split <;> simp_all
theorem setL_comm {b r j:Nat} {u:Value} (h:r ≠ b):∀ (vs:List Value) {w:World} (o:Nat),setL (w.setCell ⟨r,j,none⟩ u) b o vs = (setL w b o vs).setCell ⟨r,j,none⟩ u
 | [],w,o => rfl
 | v :: vs,w,o => by
  show setL ((w.setCell ⟨r,j,none⟩ u).setCell ⟨b,o,none⟩ v) b (o + 1) vs = (setL (w.setCell ⟨b,o,none⟩ v) b (o + 1) vs).setCell ⟨r,j,none⟩ u
  rw [setCell_comm (show (⟨r,j,none⟩:Addr).block ≠ (⟨b,o,none⟩:Addr).block from h),setL_comm h vs (o + 1)]
theorem far_cell {w:World} {b k r j:Nat} {u v:Value} (h:w.cell? ⟨b,k,none⟩ = some v) (hne:r ≠ b):(w.setCell ⟨r,j,none⟩ u).cell? ⟨b,k,none⟩ = some v:=by
 rw [World.cell?_setCell_other _ _ _ _ (by first | (simp;done) | (simp;omega))];exact h
theorem far_frozen {w:World} {b k r j:Nat} {u:Value} (h:w.frozen? ⟨b,k,none⟩ = false):(w.setCell ⟨r,j,none⟩ u).frozen? ⟨b,k,none⟩ = false:=by
 rw [World.frozen?_setCell];exact h
def CpI (w v0:World) (T D R L l':Nat) (t:KT) (k:Nat) (X:World) (A:Array Value) (left:Int) (a':Option Addr) (c':Nat):Prop:=∃ (ak:Option Addr) (ck:Nat) (S:List Nat),X.heap[T]? = some (.cells A 35 (0,0)) ∧ X.heap[D]? = some (.cells #[.int .i64 left] 3 (0,0)) ∧ X.heap[R]? = some (.cells #[.int .i64 0,.int .i64 0,.int .i64 0,.int .i64 0,.bool false,.slice none 0 0,.slice none 0 0] 35 (0,0)) ∧ X.heap[L]? = some (.cells #[.slice ak k ck] 33 (0,0)) ∧ KO v0.heap.size (l' + 1 + 1) X (a',c',ak,ck) S (pcp l' t k) ∧ L ∉ S ∧ Below w.heap.size w X
theorem CpI.tn {w v0 X Y:World} {T D R L l' B k c':Nat} {t:KT} {A:Array Value} {left:Int} {a':Option Addr} (h:CpI w v0 T D R L l' t k X A left a' c') (H:Tn M0 B X Y) (hB:w.heap.size ≤ B):CpI w v0 T D R L l' t k Y A left a' c':=by
 obtain ⟨ak,ck,S,h1,h2,h3,h4,h5,h6,h7⟩:=h
 exact ⟨ak,ck,S,H.cells h1,H.cells h2,H.cells h3,H.cells h4,h5.tn H,h6,h7.trans (H.below hB h7.size)⟩
theorem copied_step (left:Nat) (IH:∀ l',left = l' + 1 → ∀ (n:Nat) (t:KT) (ia ka:Option Addr) (ic kc:Nat) (w:World),KnR n w ia ic ka kc t → ksz n t ≤ 1048576 → Calls Tryz.prog 45 #[kv t ia ic ka kc,.int .i64 l'] w (KAns w (l' + 1) (cpy l' t)))
  (m:Nat) (t:KT) (ia ka:Option Addr) (ic kc:Nat) (w:World) (hl20:left ≤ 20) (H:KnR m w ia ic ka kc t) (hz:ksz m t ≤ 1048576):Calls Tryz.prog 45 #[kv t ia ic ka kc,.int .i64 left] w (KAns w (left + 1) (cpy left t)):=by
 cases m with
 | zero => exact H.elim
 | succ m =>
 have HKN:=hid H
 obtain ⟨h1,h2,h3,h4,h5,h6⟩:=H
 obtain ⟨k0,hki0,hkz0,hkz1,hkzz⟩:=info_parts Tryz.infoKn
 have hz2:t.its.length ≤ 1048576 ∧ t.kids.length ≤ 1048576:=by unfold ksz at hz;omega
 have HKZ:=hid (fun k (hk:k ∈ t.kids) => Nat.le_trans (ksz_kid (n:=m) hk) hz)
 have HSQ:=hid (fun (hn:t.kids.length ≤ 1099511627776) => fun (a':Option Addr) (c':Nat) => eachKid_seqR Fence.wide 9 trivial rfl (by omega) M0 m t a' ka c' kc w h6 hn)
 obtain ⟨b0,b1,b2,b3,b4,ni,nk,hkf⟩:=kf t
 have HNI:=hid hkf.its.symm
 have HNK:=hid hkf.kids
 have hkv:=kv_of' hkf ia ic ka kc
 have HKV:=hid hkv
 have hkv2:=fun (a:Option Addr) (c:Nat) => kv_of' hkf a c ka kc
 have hbx:t.box = (b0,b1,b2,b3):=by rw [← hkf.x0,← hkf.x1,← hkf.x2,← hkf.x3]
 have HBX:=hid hbx
 have HLF:=hid hkf.lf
 have CL:=hid (fun (W:World) (hb:Below w.heap.size w W) => clone_its (h1.below hb) hz2.1 h2)
 rw [hkf.its] at CL hz2 h2
 rw [hkf.kids] at hz2 h4
 have hmk:=make_room nk (by omega)
 rw [hkv]
 clear hkv hz hbx hkf h1 h6
 obtain ⟨A0,A1,A2,hs,hB⟩:=alloc3 w (.cells #[.int .i64 b0,.int .i64 b1,.int .i64 b2,.int .i64 b3,.bool b4,.slice ia ni ic,.slice ka nk kc] 35) (.cells #[.int .i64 left] 3) (.cells #[.int .i64 0,.int .i64 0,.int .i64 0,.int .i64 0,.bool false,.slice none 0 0,.slice none 0 0] 35)
 rw [← callsIn_wide (n:=10)]
 refine callsIn_of_wp_marks Tryz.func45 rfl trivial ?_ rfl
 simp only [Tryz.ntmps45,List.size_toArray,List.length_cons,List.length_nil,Nat.reduceAdd,Nat.reduceSub,Array.replicate_succ,Array.replicate_zero,List.push_toArray,List.append_toArray,List.nil_append,List.cons_append]
 obtain ⟨t0,t1,t2,t3,t4,t5,t6,f0,f1,f2,f3,f4,f5,f6⟩:=cell7k A0
 gi_wp2
 generalize ((w.alloc (.cells #[.int .i64 b0,.int .i64 b1,.int .i64 b2,.int .i64 b3,.bool b4,.slice ia ni ic,.slice ka nk kc] 35)).alloc (.cells #[.int .i64 left] 3)).alloc (.cells #[.int .i64 0,.int .i64 0,.int .i64 0,.int .i64 0,.bool false,.slice none 0 0,.slice none 0 0] 35) = v0 at *
 refine ⟨trivial,((callsIn_wide (n:=9)).2 (CL.out v0 hB)).mono ?_⟩
 rintro e v1 ⟨a',c',rfl,hown,hb1⟩
 have T1:=keepheap hb1 A0
 have D1:=keepheap hb1 A1
 have R1:=keepheap hb1 A2
 have hB1:=btrans hB hb1
 have hs1:=hb1.size
 clear t0 t1 t2 t3 t4 t5 t6 f0 f1 f2 f3 f4 f5 f6 A0 A1 A2 hb1
 have HOW:=hid hown
 have hav:∀ k ∈ hb a',v0.heap.size ≤ k ∧ k < v1.heap.size:=fun k hk => row_lt hown k hk
 have gT2:(((v1.setCell ⟨w.heap.size,5,none⟩ (.slice a' ni c')).alloc (.cells (madeCells #[.int .i64 0,.int .i64 0,.int .i64 0,.int .i64 0,.bool false,.slice none 0 0,.slice none 0 0] (nk * 7)) 35)).alloc (.cells #[.slice (some ⟨v1.heap.size,0,none⟩) 0 nk] 33)).heap[w.heap.size]? = some (.cells #[.int .i64 b0,.int .i64 b1,.int .i64 b2,.int .i64 b3,.bool b4,.slice a' ni c',.slice ka nk kc] 35 (0,0)):=old_alloc (old_alloc (set_5k T1 _))
 have gD2:(((v1.setCell ⟨w.heap.size,5,none⟩ (.slice a' ni c')).alloc (.cells (madeCells #[.int .i64 0,.int .i64 0,.int .i64 0,.int .i64 0,.bool false,.slice none 0 0,.slice none 0 0] (nk * 7)) 35)).alloc (.cells #[.slice (some ⟨v1.heap.size,0,none⟩) 0 nk] 33)).heap[w.heap.size + 1]? = some (.cells #[.int .i64 left] 3 (0,0)):=old_alloc (old_alloc ((heap_set v1 w.heap.size 5 (w.heap.size + 1) _ (by omega)).trans D1))
 have gR2:(((v1.setCell ⟨w.heap.size,5,none⟩ (.slice a' ni c')).alloc (.cells (madeCells #[.int .i64 0,.int .i64 0,.int .i64 0,.int .i64 0,.bool false,.slice none 0 0,.slice none 0 0] (nk * 7)) 35)).alloc (.cells #[.slice (some ⟨v1.heap.size,0,none⟩) 0 nk] 33)).heap[w.heap.size + 1 + 1]? = some (.cells #[.int .i64 0,.int .i64 0,.int .i64 0,.int .i64 0,.bool false,.slice none 0 0,.slice none 0 0] 35 (0,0)):=old_alloc (old_alloc ((heap_set v1 w.heap.size 5 (w.heap.size + 1 + 1) _ (by omega)).trans R1))
 have gL2:(((v1.setCell ⟨w.heap.size,5,none⟩ (.slice a' ni c')).alloc (.cells (madeCells #[.int .i64 0,.int .i64 0,.int .i64 0,.int .i64 0,.bool false,.slice none 0 0,.slice none 0 0] (nk * 7)) 35)).alloc (.cells #[.slice (some ⟨v1.heap.size,0,none⟩) 0 nk] 33)).heap[v1.heap.size + 1]? = some (.cells #[.slice (some ⟨v1.heap.size,0,none⟩) 0 nk] 33 (0,0)):=new_alloc _ _ _ (by simp)
 have hr1:(((v1.setCell ⟨w.heap.size,5,none⟩ (.slice a' ni c')).alloc (.cells (madeCells #[.int .i64 0,.int .i64 0,.int .i64 0,.int .i64 0,.bool false,.slice none 0 0,.slice none 0 0] (nk * 7)) 35)).alloc (.cells #[.slice (some ⟨v1.heap.size,0,none⟩) 0 nk] 33)).ownsRow v0.heap.size 40 5 (.slice a' ni c') ni (flI t.its):=by
  have h:=row_blk (w':=v1.setCell ⟨w.heap.size,5,none⟩ (.slice a' ni c')) hown (fun k hk => heap_set v1 w.heap.size 5 k _ (by have:=(hav k hk).1;omega))
  exact (h.alloc _).alloc _
 have hr2:(((v1.setCell ⟨w.heap.size,5,none⟩ (.slice a' ni c')).alloc (.cells (madeCells #[.int .i64 0,.int .i64 0,.int .i64 0,.int .i64 0,.bool false,.slice none 0 0,.slice none 0 0] (nk * 7)) 35)).alloc (.cells #[.slice (some ⟨v1.heap.size,0,none⟩) 0 nk] 33)).ownsRow v0.heap.size 35 7 (.slice (some ⟨v1.heap.size,0,none⟩) 0 nk) 0 (flK []):=by
  have h:=World.ownsRow_made (base:=v0.heap.size) (e:=35) (size:=7) (v1.setCell ⟨w.heap.size,5,none⟩ (.slice a' ni c')) (madeCells #[.int .i64 0,.int .i64 0,.int .i64 0,.int .i64 0,.bool false,.slice none 0 0,.slice none 0 0] (nk * 7)) nk (by simp;omega) (by unfold maxLen;omega) (size_madeCells _ _)
  rw [show (v1.setCell ⟨w.heap.size,5,none⟩ (.slice a' ni c')).heap.size = v1.heap.size by simp] at h
  exact h.alloc _
 have hB2:Below w.heap.size w (((v1.setCell ⟨w.heap.size,5,none⟩ (.slice a' ni c')).alloc (.cells (madeCells #[.int .i64 0,.int .i64 0,.int .i64 0,.int .i64 0,.bool false,.slice none 0 0,.slice none 0 0] (nk * 7)) 35)).alloc (.cells #[.slice (some ⟨v1.heap.size,0,none⟩) 0 nk] 33)):=balloc (balloc (hB1.setCell (p:=⟨w.heap.size,5,none⟩) (Nat.le_refl _) _) _) _
 have hI0:∀ l',CpI w v0 w.heap.size (w.heap.size + 1) (w.heap.size + 1 + 1) (v1.heap.size + 1) l' t 0 (((v1.setCell ⟨w.heap.size,5,none⟩ (.slice a' ni c')).alloc (.cells (madeCells #[.int .i64 0,.int .i64 0,.int .i64 0,.int .i64 0,.bool false,.slice none 0 0,.slice none 0 0] (nk * 7)) 35)).alloc (.cells #[.slice (some ⟨v1.heap.size,0,none⟩) 0 nk] 33)) #[.int .i64 b0,.int .i64 b1,.int .i64 b2,.int .i64 b3,.bool b4,.slice a' ni c',.slice ka nk kc] left a' c':=fun l' => by
  refine ⟨some ⟨v1.heap.size,0,none⟩,nk,_,gT2,gD2,gR2,gL2,KO.mk' (ps:=[]) (by unfold pcp;rfl) (by show World.ownsRow _ _ _ _ (.slice a' t.its.length c') t.its.length (flI t.its);rw [← HNI.out];exact hr1) hr2 (KOs.nil _ _ _) (fun b hb' => ⟨fun hc => ?_,by simp⟩) (fun b _ => by simp),fun hc => ?_,hB2⟩
  ·have h1:=(hav b hb').2
   have h2:b = v1.heap.size:=by simpa [hb] using hc
   omega
  ·simp only [List.mem_append,List.flatMap_nil,List.not_mem_nil,or_false] at hc
   rcases hc with hc | hc
   ·have:=(hav _ hc).2;omega
   ·simp [hb] at hc
 have HI0:=hid hI0
 have d0:=(cell1k gD2).1
 obtain ⟨q0,q1,q2,q3,q4,q5,q6,_,_,_,_,_,_,_⟩:=cell7k gT2
 have hsz2:(((v1.setCell ⟨w.heap.size,5,none⟩ (.slice a' ni c')).alloc (.cells (madeCells #[.int .i64 0,.int .i64 0,.int .i64 0,.int .i64 0,.bool false,.slice none 0 0,.slice none 0 0] (nk * 7)) 35)).alloc (.cells #[.slice (some ⟨v1.heap.size,0,none⟩) 0 nk] 33)).heap.size = v1.heap.size + 2:=by simp
 obtain ⟨t0,t1,t2,t3,t4,t5,t6,f0,f1,f2,f3,f4,f5,f6⟩:=cell7k T1
 clear hown gT2 gD2 gR2 gL2 hr1 hr2 hI0 T1 D1 R1
 by_cases hn:left = 0
 ·have hnI:¬ (0:Int) < (left:Int):=by omega
  have HPC:=hid (show pcp 0 t 0 = cpy left t by subst hn;rfl)
  have HL:=hid (show left + 1 = 0 + 1 by omega)
  clear hn
  have HI1:=hid (HI0.out 0)
  have H1:=HI1.out
  clear HI1 HI0 q0 q1 q2 q3 q4 q5 q6
  obtain ⟨ak,ck,S,gT,gD,gR,gL,hko,hLS,hBX⟩:=H1
  obtain ⟨t0,t1,t2,t3,t4,t5,t6,f0,f1,f2,f3,f4,f5,f6⟩:=cell7k gT
  obtain ⟨r0,r1,r2,r3,r4,r5,r6,e0,e1,e2,e3,e4,e5,e6⟩:=cell7k gR
  obtain ⟨l0,_⟩:=cell1k gL
  have HGR:=hid gR
  have HKO:=hid hko
  have HHB:=hid hBX
  clear gT gD gR gL hko hBX
  gi_wp2
  have hF:((setL ((((v1.setCell ⟨w.heap.size,5,none⟩ (.slice a' ni c')).alloc (.cells (madeCells #[.int .i64 0,.int .i64 0,.int .i64 0,.int .i64 0,.bool false,.slice none 0 0,.slice none 0 0] (nk * 7)) 35)).alloc (.cells #[.slice (some ⟨v1.heap.size,0,none⟩) 0 nk] 33)).setCell ⟨w.heap.size,6,none⟩ (.slice ak 0 ck)) (w.heap.size + 1 + 1) 0 [.int .i64 b0,.int .i64 b1,.int .i64 b2,.int .i64 b3,.bool b4,.slice a' ni c',.slice ak 0 ck])).heap[w.heap.size + 1 + 1]? = some (.cells #[.int .i64 b0,.int .i64 b1,.int .i64 b2,.int .i64 b3,.bool b4,.slice a' ni c',.slice ak 0 ck] 35 (0,0)):=set7k ((heap_set (((v1.setCell ⟨w.heap.size,5,none⟩ (.slice a' ni c')).alloc (.cells (madeCells #[.int .i64 0,.int .i64 0,.int .i64 0,.int .i64 0,.bool false,.slice none 0 0,.slice none 0 0] (nk * 7)) 35)).alloc (.cells #[.slice (some ⟨v1.heap.size,0,none⟩) 0 nk] 33)) w.heap.size 6 (w.heap.size + 1 + 1) _ (by omega)).trans HGR.out) _ _ _ _ _ _ _
  have hKF:KO v0.heap.size (0 + 1 + 1) (setL ((((v1.setCell ⟨w.heap.size,5,none⟩ (.slice a' ni c')).alloc (.cells (madeCells #[.int .i64 0,.int .i64 0,.int .i64 0,.int .i64 0,.bool false,.slice none 0 0,.slice none 0 0] (nk * 7)) 35)).alloc (.cells #[.slice (some ⟨v1.heap.size,0,none⟩) 0 nk] 33)).setCell ⟨w.heap.size,6,none⟩ (.slice ak 0 ck)) (w.heap.size + 1 + 1) 0 [.int .i64 b0,.int .i64 b1,.int .i64 b2,.int .i64 b3,.bool b4,.slice a' ni c',.slice ak 0 ck]) (a',c',ak,ck) S (pcp 0 t 0):=HKO.out.keep (fun b hb => by
   have:=(HKO.out.lt b hb).1
   exact (setL_blk _ _ (w.heap.size + 1 + 1) 0 b (by omega)).trans (heap_set (((v1.setCell ⟨w.heap.size,5,none⟩ (.slice a' ni c')).alloc (.cells (madeCells #[.int .i64 0,.int .i64 0,.int .i64 0,.int .i64 0,.bool false,.slice none 0 0,.slice none 0 0] (nk * 7)) 35)).alloc (.cells #[.slice (some ⟨v1.heap.size,0,none⟩) 0 nk] 33)) w.heap.size 6 b _ (by omega)))
  have hBF:Below w.heap.size w (setL ((((v1.setCell ⟨w.heap.size,5,none⟩ (.slice a' ni c')).alloc (.cells (madeCells #[.int .i64 0,.int .i64 0,.int .i64 0,.int .i64 0,.bool false,.slice none 0 0,.slice none 0 0] (nk * 7)) 35)).alloc (.cells #[.slice (some ⟨v1.heap.size,0,none⟩) 0 nk] 33)).setCell ⟨w.heap.size,6,none⟩ (.slice ak 0 ck)) (w.heap.size + 1 + 1) 0 [.int .i64 b0,.int .i64 b1,.int .i64 b2,.int .i64 b3,.bool b4,.slice a' ni c',.slice ak 0 ck]):=setL_below _ w _ (w.heap.size + 1 + 1) 0 _ (HHB.out.setCell (p:=⟨w.heap.size,6,none⟩) (Nat.le_refl _) _) (by omega)
  simp only [setL,Nat.zero_add,Nat.reduceAdd] at hF hKF hBF
  obtain ⟨z0,z1,z2,z3,z4,z5,z6,_,_,_,_,_,_,_⟩:=cell7k hF
  refine ⟨.agg #[.int .i64 b0,.int .i64 b1,.int .i64 b2,.int .i64 b3,.bool b4,.slice a' ni c',.slice ak 0 ck],by simp [results,Tryz.results45,go_sem,z0,z1,z2,z3,z4,z5,z6],(a',c',ak,ck),S,?_,?_,hBF⟩
  ·rw [← HPC.out]
   show _ = Ending.returned (kv (pcp 0 t 0) a' c' ak ck)
   unfold kv
   rw [pcp_len (by omega)]
   show _ = Ending.returned (Value.agg #[.int .i64 t.box.1,.int .i64 t.box.2.1,.int .i64 t.box.2.2.1,.int .i64 t.box.2.2.2,.bool t.lf,.slice a' t.its.length c',.slice ak 0 ck])
   rw [HBX.out,HLF.out,← HNI.out]
  ·rw [← HPC.out,HL.out]
   exact KO.lo (lo:=v0.heap.size) (lo':=w.heap.size) (by omega) (hKF.flat rfl)
 ·have hnI:(0:Int) < (left:Int):=by omega
  obtain ⟨l',hl'⟩:∃ l',l' = left - 1:=⟨_,rfl⟩
  have hwl:IntKind.i64.wrap ((left:Int) - 1) = (l':Int):=by rw [IntKind.wrap_i64] <;> omega
  have HL:=hid (show left = l' + 1 by omega)
  clear hl' hn
  have HKV2:=hid (hkv2 a' c')
  have HI1:=hid (HI0.out l')
  gi_wp2
  clear t0 t1 t2 t3 t4 t5 t6 f0 f1 f2 f3 f4 f5 f6 q0 q1 q2 q3 q4 q5 q6 d0
  generalize ((v1.setCell ⟨w.heap.size,5,none⟩ (.slice a' ni c')).alloc (.cells (madeCells #[.int .i64 0,.int .i64 0,.int .i64 0,.int .i64 0,.bool false,.slice none 0 0,.slice none 0 0] (nk * 7)) 35)).alloc (.cells #[.slice (some ⟨v1.heap.size,0,none⟩) 0 nk] 33) = W2 at *
  refine wpIn_rangeN rfl (fun h => by cases h) (first:=#[kv t a' c' ka kc]) (lb:=#[]) (by rw [HKV2.out];rfl) trivial (enters_of Tryz.func79 (by kernel_rfl) rfl) (fun _ => rfl) (fun _ => rfl) (HSQ.out (by rw [HNK.out];omega) a' c') hB2 hB2.size
   (fun k X => CpI w v0 w.heap.size (w.heap.size + 1) (w.heap.size + 1 + 1) (v1.heap.size + 1) l' t k X #[.int .i64 b0,.int .i64 b1,.int .i64 b2,.int .i64 b3,.bool b4,.slice a' ni c',.slice ka nk kc] left a' c')
   (fun c k X => False)
   (fun _ _ _ => trivial) ?hI ?hIx ?h0
   (RdR m W2.heap.size w t.kids (fun k X => CpI w v0 w.heap.size (w.heap.size + 1) (w.heap.size + 1 + 1) (v1.heap.size + 1) l' t k X #[.int .i64 b0,.int .i64 b1,.int .i64 b2,.int .i64 b3,.bool b4,.slice a' ni c',.slice ka nk kc] left a' c') (fun Bx vv => #[.agg #[.int .i64 b0,.int .i64 b1,.int .i64 b2,.int .i64 b3,.bool b4,.slice ia ni ic,.slice ka nk kc],.int .i64 left,.pointer (some ⟨w.heap.size,0,none⟩),.pointer (some ⟨w.heap.size + 1,0,none⟩),.pointer (some ⟨w.heap.size + 1 + 1,0,none⟩),.pointer (some ⟨v1.heap.size + 1,0,none⟩),.pointer (some ⟨Bx,0,none⟩),.pointer (some ⟨w.heap.size,5,none⟩),.slice ia ni ic,.slice a' ni c',.pointer (some ⟨w.heap.size,5,none⟩),.pointer (some ⟨w.heap.size,6,none⟩),.slice ka nk kc,.int .i64 nk,.slice (some ⟨v1.heap.size,0,none⟩) 0 nk,.int .i64 left,.bool true,.agg #[.int .i64 b0,.int .i64 b1,.int .i64 b2,.int .i64 b3,.bool b4,.slice a' ni c',.slice ka nk kc],.func (.func 79) #[.agg #[.int .i64 b0,.int .i64 b1,.int .i64 b2,.int .i64 b3,.bool b4,.slice a' ni c',.slice ka nk kc]] #[],vv,undef,undef,undef,undef,undef,undef,undef,undef,undef,undef,undef,undef]))
   ?hAx ?assign ?body ?done ?stop
  case hI => exact fun k X Y h ht => h.tn ht hB2.size
  case hIx => exact fun c k X Y h _ => h.elim
  case h0 => exact HI1.out
  case hAx =>
   rintro k ax X l2 r r' HH hl2 hle
   exact RdR.putR HH hl2 hle
  case assign =>
   rintro l2 k v X hk h1 ⟨hk',ia',ic',ka',kc',rfl,hkn⟩ hsX hbX
   obtain ⟨c0,c1,c2,c3,c4,mi,mk,hf⟩:=kf t.kids[k]
   rw [kv_of' hf]
   gi_wp2
   have hBA:Below X.heap.size X (X.alloc (.cells #[.int .i64 c0,.int .i64 c1,.int .i64 c2,.int .i64 c3,.bool c4,.slice ia' mi ic',.slice ka' mk kc'] 35)):=balloc (Below.refl X.heap.size X) _
   exact ⟨Kp.of_below hBA (Nat.le_trans hB2.size hbX.size),X.heap.size,ia',ic',ka',kc',hk',c0,c1,c2,c3,c4,mi,mk,hf,new_alloc _ _ _ rfl,hsX,hkn,⟨X,h1,Nat.le_refl _,Tn.of_below hBA⟩,rfl⟩
  case body =>
   rintro l2 k ax X hk ⟨Bx,ia',ic',ka',kc',hkt,c0,c1,c2,c3,c4,mi,mk,hf,gX,hle,hkn,⟨X0,⟨ak,ck,S,gT,gD,gR,gL,hko,hLS,hB⟩,hX0,ht0⟩,rfl⟩
   have hBS:Bx ∉ S:=fun hc => by have:=(hko.lt _ hc).2;omega
   replace gT:=ht0.cells gT
   replace gD:=ht0.cells gD
   replace gR:=ht0.cells gR
   replace gL:=ht0.cells gL
   replace hko:=hko.tn ht0
   replace hB:=hB.trans (ht0.below hB2.size hB.size)
   clear ht0 hX0
   have CR:=hid (fun (W:World) (hb:Below w.heap.size w W) => IH l' HL.out m t.kids[k] ia' ka' ic' kc' W (hkn.below hb) (HKZ.out _ (List.getElem_mem hkt)))
   rw [kv_of' hf] at CR
   have HPK:=hid (pcp_len (l':=l') (t:=t) (k:=k) (Nat.le_of_lt hkt))
   have HNX:=hid (pcp_next (l':=l') hkt)
   have hkn1:k < nk:=by rw [← HNK.out];exact hkt
   have hwX:w.heap.size ≤ X.heap.size:=hB.size
   have hKp:Kp M0 W2.heap.size w.heap.size X X.drew:=Kp.of_below (bdrew (Below.refl _ _)) hwX
   have hVL:v1.heap.size + 1 < X.drew.heap.size:=lt_of_heap gL
   replace hB:Below w.heap.size w X.drew:=bdrew hB
   replace hko:KO v0.heap.size (l' + 1 + 1) X.drew _ S (pcp l' t k):=hko.below (bdrew (Below.refl _ _))
   replace gT:X.drew.heap[w.heap.size]? = _:=gT
   replace gD:X.drew.heap[w.heap.size + 1]? = _:=gD
   replace gR:X.drew.heap[w.heap.size + 1 + 1]? = _:=gR
   replace gL:X.drew.heap[v1.heap.size + 1]? = _:=gL
   replace gX:X.drew.heap[Bx]? = _:=gX
   simp only []
   refine wpIn_block ?_
   refine wpIn_region_late (L:=[9,10]) (S:=(fun w' => w'.cell? ⟨v1.heap.size + 1,0,none⟩ = some (.slice ak k ck) ∧ w'.cell? ⟨Bx,0,none⟩ = some (.int .i64 c0) ∧ w'.cell? ⟨Bx,1,none⟩ = some (.int .i64 c1) ∧ w'.cell? ⟨Bx,2,none⟩ = some (.int .i64 c2) ∧ w'.cell? ⟨Bx,3,none⟩ = some (.int .i64 c3) ∧ w'.cell? ⟨Bx,4,none⟩ = some (.bool c4) ∧ w'.cell? ⟨Bx,5,none⟩ = some (.slice ia' mi ic') ∧ w'.cell? ⟨Bx,6,none⟩ = some (.slice ka' mk kc') ∧ w'.cell? ⟨w.heap.size + 1,0,none⟩ = some (.int .i64 left))) (by kernel_rfl) (by rintro ⟨_,_,h⟩;exact h) (by kernel_rfl) ?_ (fun hHeld => ?_)
   ·(obtain ⟨x0,x1,x2,x3,x4,x5,x6,_,_,_,_,_,_,_⟩:=cell7k gX;exact ⟨(cell1k gL).1,x0,x1,x2,x3,x4,x5,x6,(cell1k gD).1⟩)
   generalize X.drew = V at *
   refine tkA 0 hHeld ?_
   try simp only [sq]
   refine tkA 1 hHeld ?_
   try simp only [sq]
   refine tkA 2 hHeld ?_
   try simp only [sq]
   refine tkP 3 hHeld ?_
   try simp only [sq]
   refine tkP 5 hHeld ?_
   try simp only [sq]
   refine anyL_2 (i:=4) (j:=6) rfl rfl (by kernel_rfl) rfl rfl ?_ ?_
   ·skip
    refine wpo_call (CR.out _ hB) ?_ (fun e w' hp => ?_) (fun v W1 hp => ?_)
    ·go_simp
    ·exact hp.ret
    clear hHeld
    obtain ⟨hq,Sq,e0,hko2,hb1⟩:=hp
    injection e0 with e0
    subst e0
    have hVs:=hB.size
    replace gT:=keepheap hb1 gT
    replace gD:=keepheap hb1 gD
    replace gR:=keepheap hb1 gR
    replace gL:=keepheap hb1 gL
    replace gX:=keepheap hb1 gX
    have hdis:∀ b ∈ Sq,b ∉ S:=fun b hb hc => by have:=(hko2.lt b hb).1;have:=(hko.lt b hc).2;omega
    have hLq:v1.heap.size + 1 ∉ Sq:=fun hc => by have:=(hko2.lt _ hc).1;omega
    replace hko:=hko.below hb1
    replace hko2:=KO.lo (lo':=v0.heap.size) (by omega) hko2
    replace hKp:=hKp.belowR hb1 (Nat.le_trans hwX (by omega))
    replace hB:=btrans hB hb1
    replace hVL:=Nat.lt_of_lt_of_le hVL hb1.size
    clear hb1
    obtain ⟨q,hqq⟩:∃ q:KP,q = (cpy l' t.kids[k],hq,Sq):=⟨_,rfl⟩
    have e1:kvh (cpy l' t.kids[k]) hq = .agg #[.int .i64 q.1.box.1,.int .i64 q.1.box.2.1,.int .i64 q.1.box.2.2.1,.int .i64 q.1.box.2.2.2,.bool q.1.lf,.slice q.2.1.1 q.1.its.length q.2.1.2.1,.slice q.2.1.2.2.1 q.1.kids.length q.2.1.2.2.2]:=by rw [hqq];rfl
    rw [e1]
    replace hko2:KO v0.heap.size (l' + 1) W1 q.2.1 q.2.2 q.1:=by rw [hqq];exact hko2
    replace hdis:∀ b ∈ q.2.2,b ∉ S:=by rw [hqq];exact hdis
    replace hLq:v1.heap.size + 1 ∉ q.2.2:=by rw [hqq];exact hLq
    have hq1:=hid (show q.1 = cpy l' t.kids[k] by rw [hqq])
    clear hqq e1
    refine ⟨by (obtain ⟨x0,x1,x2,x3,x4,x5,x6,_,_,_,_,_,_,_⟩:=cell7k gX;exact ⟨(cell1k gL).1,x0,x1,x2,x3,x4,x5,x6,(cell1k gD).1⟩),fun hHeld => ?_⟩
    try simp only [sq]
    refine anyL_1 (i:=6) rfl (by kernel_rfl) rfl ?_
    clear hHeld
    refine wpo_val (by go_simp;first | done | with_reducible rfl | rfl | exact ⟨rfl,rfl⟩) ?_
    have gN:=heap_alloc_new W1 (.cells #[.int .i64 0,.int .i64 0,.int .i64 0,.int .i64 0,.bool false,.slice none 0 0,.slice none 0 0] 35)
    replace gT:=old_alloc (o':=(.cells #[.int .i64 0,.int .i64 0,.int .i64 0,.int .i64 0,.bool false,.slice none 0 0,.slice none 0 0] 35)) gT
    replace gD:=old_alloc (o':=(.cells #[.int .i64 0,.int .i64 0,.int .i64 0,.int .i64 0,.bool false,.slice none 0 0,.slice none 0 0] 35)) gD
    replace gR:=old_alloc (o':=(.cells #[.int .i64 0,.int .i64 0,.int .i64 0,.int .i64 0,.bool false,.slice none 0 0,.slice none 0 0] 35)) gR
    replace gL:=old_alloc (o':=(.cells #[.int .i64 0,.int .i64 0,.int .i64 0,.int .i64 0,.bool false,.slice none 0 0,.slice none 0 0] 35)) gL
    replace gX:=old_alloc (o':=(.cells #[.int .i64 0,.int .i64 0,.int .i64 0,.int .i64 0,.bool false,.slice none 0 0,.slice none 0 0] 35)) gX
    replace hko:=hko.below (balloc (Below.refl _ _) (.cells #[.int .i64 0,.int .i64 0,.int .i64 0,.int .i64 0,.bool false,.slice none 0 0,.slice none 0 0] 35))
    replace hko2:=hko2.below (balloc (Below.refl _ _) (.cells #[.int .i64 0,.int .i64 0,.int .i64 0,.int .i64 0,.bool false,.slice none 0 0,.slice none 0 0] 35))
    have hwV:w.heap.size ≤ W1.heap.size:=hB.size
    replace hKp:=hKp.belowR (balloc (Below.refl _ _) (.cells #[.int .i64 0,.int .i64 0,.int .i64 0,.int .i64 0,.bool false,.slice none 0 0,.slice none 0 0] 35)) (Nat.le_trans hwX (by omega))
    replace hB:=balloc hB (.cells #[.int .i64 0,.int .i64 0,.int .i64 0,.int .i64 0,.bool false,.slice none 0 0,.slice none 0 0] 35)
    replace hVL:=Nat.lt_trans hVL (show W1.heap.size < (W1.alloc (.cells #[.int .i64 0,.int .i64 0,.int .i64 0,.int .i64 0,.bool false,.slice none 0 0,.slice none 0 0] 35)).heap.size by simp)
    obtain ⟨nb,hnb⟩:∃ nb,nb = W1.heap.size:=⟨_,rfl⟩
    rw [← hnb] at gN ⊢
    generalize W1.alloc (.cells #[.int .i64 0,.int .i64 0,.int .i64 0,.int .i64 0,.bool false,.slice none 0 0,.slice none 0 0] 35) = Wb at *
    clear hnb hwV
    refine ⟨by (obtain ⟨x0,x1,x2,x3,x4,x5,x6,_,_,_,_,_,_,_⟩:=cell7k gX;exact ⟨(cell1k gL).1,x0,x1,x2,x3,x4,x5,x6,(cell1k gD).1⟩),fun hHeld => ?_⟩
    try simp only [sq]
    refine anyL_1 (i:=7) rfl (by kernel_rfl) rfl ?_
    obtain ⟨ps,hop⟩:=hko.op
    have hpl:ps.length = k:=by rw [← hop.len,HPK.out]
    have hrow:=hop.2.2.1
    rw [hpl] at hrow
    have hsW:=hB.size
    have hf:∀ b,b ∈ hb ak → b ∈ S:=hop.parts.2.1
    have hlo:∀ b ∈ S,v0.heap.size ≤ b ∧ b < Wb.heap.size:=hko.lt
    have hcl:=hko.cells
    clear hHeld
    refine wpo_app (.tmp 20) (.tmp 26) 33 rfl v0.heap.size 35 k0 _ 7 88 Tryz.underlying33 hki0 hkz0 hkz1 hkzz rfl (by decide) ak k ck (flK ps) (by rfl) hrow (some ⟨nb,0,none⟩) 1 1 [.int .i64 0,.int .i64 0,.int .i64 0,.int .i64 0,.bool false,.slice none 0 0,.slice none 0 0] (by rfl) (.inr ⟨_,rfl,src_blk gN⟩) rfl (by simp [Value.oneCell']) (by unfold maxLen;omega) (by omega) (by omega) ?_
    intro a2 cc2 W3 hown hgrow hat
    obtain ⟨g,rfl,hg1,hg2,_⟩:=row_some hown (by omega)
    have hkI1:(k:Int) < (k:Int) + 1:=by omega
    have hkI0:(0:Int) ≤ (k:Int):=by omega
    have hgg:g ∈ hb ak ∨ g = Wb.heap.size:=hat g (by simp [hb])
    replace gT:=(app_blk hgrow (lt_of_heap gT) (fun hc => by have:=(hlo _ (hf _ hc)).1;omega)).trans gT
    replace gD:=(app_blk hgrow (lt_of_heap gD) (fun hc => by have:=(hlo _ (hf _ hc)).1;omega)).trans gD
    replace gR:=(app_blk hgrow (lt_of_heap gR) (fun hc => by have:=(hlo _ (hf _ hc)).1;omega)).trans gR
    replace gX:=(app_blk hgrow (lt_of_heap gX) (fun hc => hBS (hf _ hc))).trans gX
    replace gL:=(app_blk hgrow (lt_of_heap gL) (fun hc => hLS (hf _ hc))).trans gL
    have hKp3:=hKp.grown hgrow hsW (fun r e => ⟨by have:=(hlo r (hf r (own_hb e))).1;omega,.inr (fun o ho => by obtain ⟨cs,ty,fr,e'⟩:=hcl r (hf r (own_hb e));rw [e'] at ho;cases ho;rfl)⟩)
    have hB3:Below w.heap.size w W3:=Below.grown hB hgrow hsW (fun r e => by have:=(hlo r (hf r (own_hb e))).1;omega)
    have hne:g ≠ v1.heap.size + 1:=fun e => by
     rcases hgg with h | h
     ·exact hLS (hf _ (e ▸ h))
     ·omega
    have hown4:=own_setL hown [.int .i64 q.1.box.1,.int .i64 q.1.box.2.1,.int .i64 q.1.box.2.2.1,.int .i64 q.1.box.2.2.2,.bool q.1.lf,.slice q.2.1.1 q.1.its.length q.2.1.2.1,.slice q.2.1.2.2.1 q.1.kids.length q.2.1.2.2.2] (o:=k * 7) (by simp;omega)
    have hgrow4:=grown_setL hgrow (show some g = Value.ownBlock (.slice ak k ck) ∨ Wb.heap.size ≤ g from by
     rcases hgg with h | h
     ·exact .inl (hb_mem h)
     ·exact .inr (by omega)) (k * 7) [.int .i64 q.1.box.1,.int .i64 q.1.box.2.1,.int .i64 q.1.box.2.2.1,.int .i64 q.1.box.2.2.2,.bool q.1.lf,.slice q.2.1.1 q.1.its.length q.2.1.2.1,.slice q.2.1.2.2.1 q.1.kids.length q.2.1.2.2.2]
    replace hown4:(setL W3 g (k * 7) [.int .i64 q.1.box.1,.int .i64 q.1.box.2.1,.int .i64 q.1.box.2.2.1,.int .i64 q.1.box.2.2.2,.bool q.1.lf,.slice q.2.1.1 q.1.its.length q.2.1.2.1,.slice q.2.1.2.2.1 q.1.kids.length q.2.1.2.2.2]).ownsRow v0.heap.size 35 7 (.slice (some ⟨g,0,none⟩) (k + 1) cc2) (k + 1) (flK ps ++ ckh q.1 q.2.1):=by
     have e:=flK_put ps q hpl (zs:=[.int .i64 0,.int .i64 0,.int .i64 0,.int .i64 0,.bool false,.slice none 0 0,.slice none 0 0]) rfl
     rw [← e];exact hown4
    have A2:=hop.addKid (w':=setL W3 g (k * 7) [.int .i64 q.1.box.1,.int .i64 q.1.box.2.1,.int .i64 q.1.box.2.2.1,.int .i64 q.1.box.2.2.2,.bool q.1.lf,.slice q.2.1.1 q.1.its.length q.2.1.2.1,.slice q.2.1.2.2.1 q.1.kids.length q.2.1.2.2.2]) (a':=some ⟨g,0,none⟩) (c':=cc2) (m:=k) hko2 hdis hpl.symm hown4
    obtain ⟨S',hko4,hsub⟩:=A2 hgrow4 hat
    have hL4:v1.heap.size + 1 ∉ S':=fun hc => by
     rcases hsub _ hc with e | e | e
     ·exact hLS e
     ·exact hLq e
     ·omega
    have gT4:=(setL_blk [.int .i64 q.1.box.1,.int .i64 q.1.box.2.1,.int .i64 q.1.box.2.2.1,.int .i64 q.1.box.2.2.2,.bool q.1.lf,.slice q.2.1.1 q.1.its.length q.2.1.2.1,.slice q.2.1.2.2.1 q.1.kids.length q.2.1.2.2.2] W3 g (k * 7) (w.heap.size) (by omega)).trans gT
    have gD4:=(setL_blk [.int .i64 q.1.box.1,.int .i64 q.1.box.2.1,.int .i64 q.1.box.2.2.1,.int .i64 q.1.box.2.2.2,.bool q.1.lf,.slice q.2.1.1 q.1.its.length q.2.1.2.1,.slice q.2.1.2.2.1 q.1.kids.length q.2.1.2.2.2] W3 g (k * 7) (w.heap.size + 1) (by omega)).trans gD
    have gR4:=(setL_blk [.int .i64 q.1.box.1,.int .i64 q.1.box.2.1,.int .i64 q.1.box.2.2.1,.int .i64 q.1.box.2.2.2,.bool q.1.lf,.slice q.2.1.1 q.1.its.length q.2.1.2.1,.slice q.2.1.2.2.1 q.1.kids.length q.2.1.2.2.2] W3 g (k * 7) (w.heap.size + 1 + 1) (by omega)).trans gR
    have gL4:=(setL_blk [.int .i64 q.1.box.1,.int .i64 q.1.box.2.1,.int .i64 q.1.box.2.2.1,.int .i64 q.1.box.2.2.2,.bool q.1.lf,.slice q.2.1.1 q.1.its.length q.2.1.2.1,.slice q.2.1.2.2.1 q.1.kids.length q.2.1.2.2.2] W3 g (k * 7) (v1.heap.size + 1) (by omega)).trans gL
    obtain ⟨cs3,hcs3⟩:=own_kindK hown
    have hKp4:=Kp.setL [.int .i64 q.1.box.1,.int .i64 q.1.box.2.1,.int .i64 q.1.box.2.2.1,.int .i64 q.1.box.2.2.2,.bool q.1.lf,.slice q.2.1.1 q.1.its.length q.2.1.2.1,.slice q.2.1.2.2.1 q.1.kids.length q.2.1.2.2.2] (o:=k * 7) hKp3 (by omega) hcs3
    have hB4:=setL_below [.int .i64 q.1.box.1,.int .i64 q.1.box.2.1,.int .i64 q.1.box.2.2.1,.int .i64 q.1.box.2.2.2,.bool q.1.lf,.slice q.2.1.1 q.1.its.length q.2.1.2.1,.slice q.2.1.2.2.1 q.1.kids.length q.2.1.2.2.2] w W3 g (k * 7) _ hB3 (by omega)
    have HK4:=hid hko4
    have HG4:=hid (And.intro gT4 (And.intro gD4 (And.intro gR4 gL4)))
    have HP4:=hid (And.intro hKp4 hB4)
    clear hko4 gT4 gD4 gR4 gL4 hKp4 hB4 hown4 hgrow4 hgrow hop hko hko2 A2
    refine ⟨by (obtain ⟨x0,x1,x2,x3,x4,x5,x6,_,_,_,_,_,_,_⟩:=cell7k gX;exact ⟨(cell1k gL).1,x0,x1,x2,x3,x4,x5,x6,(cell1k gD).1⟩),fun hHeld => ?_⟩
    try simp only [sq]
    refine tkP 8 hHeld ?_
    try simp only [sq]
    refine anyL_2 (i:=9) (j:=10) rfl rfl (by kernel_rfl) rfl rfl ?_ ?_
    ·skip
     have hth:=row_there hown
     obtain ⟨s0,s0'⟩:=hth (k * 7) (by omega)
     obtain ⟨s1,s1'⟩:=hth (k * 7 + 1) (by omega)
     obtain ⟨s2,s2'⟩:=hth (k * 7 + 2) (by omega)
     obtain ⟨s3,s3'⟩:=hth (k * 7 + 3) (by omega)
     obtain ⟨s4,s4'⟩:=hth (k * 7 + 4) (by omega)
     obtain ⟨s5,s5'⟩:=hth (k * 7 + 5) (by omega)
     obtain ⟨s6,s6'⟩:=hth (k * 7 + 6) (by omega)
     obtain ⟨u0,hu0⟩:=Option.isSome_iff_exists.1 s0
     obtain ⟨u1,hu1⟩:=Option.isSome_iff_exists.1 s1
     obtain ⟨u2,hu2⟩:=Option.isSome_iff_exists.1 s2
     obtain ⟨u3,hu3⟩:=Option.isSome_iff_exists.1 s3
     obtain ⟨u4,hu4⟩:=Option.isSome_iff_exists.1 s4
     obtain ⟨u5,hu5⟩:=Option.isSome_iff_exists.1 s5
     obtain ⟨u6,hu6⟩:=Option.isSome_iff_exists.1 s6
     simp only [Nat.zero_add,← Nat.add_assoc] at hu0 hu1 hu2 hu3 hu4 hu5 hu6 s0' s1' s2' s3' s4' s5' s6'
     clear s0 s1 s2 s3 s4 s5 s6 hth
     refine wpo_late (by kernel_rfl) (by go_simp;first | done | with_reducible rfl | rfl | exact ⟨rfl,rfl⟩) ?_
     clear hu0 hu1 hu2 hu3 hu4 hu5 hu6 s0' s1' s2' s3' s4' s5' s6'
     change anyL _ _ _ _ _ _ _ _ _ (setL W3 g (k * 7) [.int .i64 q.1.box.1,.int .i64 q.1.box.2.1,.int .i64 q.1.box.2.2.1,.int .i64 q.1.box.2.2.2,.bool q.1.lf,.slice q.2.1.1 q.1.its.length q.2.1.2.1,.slice q.2.1.2.2.1 q.1.kids.length q.2.1.2.2.2])
     generalize setL W3 g (k * 7) [.int .i64 q.1.box.1,.int .i64 q.1.box.2.1,.int .i64 q.1.box.2.2.1,.int .i64 q.1.box.2.2.2,.bool q.1.lf,.slice q.2.1.1 q.1.its.length q.2.1.2.1,.slice q.2.1.2.2.1 q.1.kids.length q.2.1.2.2.2] = Y9 at *
     have gL4:=HG4.out.2.2.2
     obtain ⟨l0,lf⟩:=cell1k gL4
     try simp only [sq]
     refine anyL_1 (i:=10) rfl (by kernel_rfl) rfl ?_
     refine wpo_late (by kernel_rfl) (by go_simp;first | done | with_reducible rfl | rfl | exact ⟨rfl,rfl⟩) ?_
     clear gL4 l0 lf
     try simp only [sq]
     refine anyL_done (by kernel_rfl) ?_ _
     gi_wp2
     obtain ⟨gT4,gD4,gR4,gL4⟩:=HG4.out
     have hK9:=HP4.out.1
     rw [hsz2] at hK9
     refine ⟨hK9.set (p:=⟨v1.heap.size + 1,0,none⟩) (.slice (some ⟨g,0,none⟩) (k + 1) cc2) (by dsimp only;omega) (.inl (by dsimp only;omega)),some ⟨g,0,none⟩,cc2,S',(heap_set _ (v1.heap.size + 1) 0 w.heap.size (.slice (some ⟨g,0,none⟩) (k + 1) cc2) (by omega)).trans gT4,(heap_set _ (v1.heap.size + 1) 0 (w.heap.size + 1) (.slice (some ⟨g,0,none⟩) (k + 1) cc2) (by omega)).trans gD4,(heap_set _ (v1.heap.size + 1) 0 (w.heap.size + 1 + 1) (.slice (some ⟨g,0,none⟩) (k + 1) cc2) (by omega)).trans gR4,set_at gL4,?_,hL4,HP4.out.2.setCell (p:=⟨v1.heap.size + 1,0,none⟩) (by dsimp only;omega) (.slice (some ⟨g,0,none⟩) (k + 1) cc2)⟩
     rw [HNX.out,← hq1.out]
     exact HK4.out.keep (fun b hb => heap_set _ (v1.heap.size + 1) 0 b (.slice (some ⟨g,0,none⟩) (k + 1) cc2) (fun e => hL4 (e ▸ hb)))
    ·skip
     have hth:=row_there hown
     obtain ⟨s0,s0'⟩:=hth (k * 7) (by omega)
     obtain ⟨s1,s1'⟩:=hth (k * 7 + 1) (by omega)
     obtain ⟨s2,s2'⟩:=hth (k * 7 + 2) (by omega)
     obtain ⟨s3,s3'⟩:=hth (k * 7 + 3) (by omega)
     obtain ⟨s4,s4'⟩:=hth (k * 7 + 4) (by omega)
     obtain ⟨s5,s5'⟩:=hth (k * 7 + 5) (by omega)
     obtain ⟨s6,s6'⟩:=hth (k * 7 + 6) (by omega)
     obtain ⟨u0,hu0⟩:=Option.isSome_iff_exists.1 s0
     obtain ⟨u1,hu1⟩:=Option.isSome_iff_exists.1 s1
     obtain ⟨u2,hu2⟩:=Option.isSome_iff_exists.1 s2
     obtain ⟨u3,hu3⟩:=Option.isSome_iff_exists.1 s3
     obtain ⟨u4,hu4⟩:=Option.isSome_iff_exists.1 s4
     obtain ⟨u5,hu5⟩:=Option.isSome_iff_exists.1 s5
     obtain ⟨u6,hu6⟩:=Option.isSome_iff_exists.1 s6
     simp only [Nat.zero_add,← Nat.add_assoc] at hu0 hu1 hu2 hu3 hu4 hu5 hu6 s0' s1' s2' s3' s4' s5' s6'
     clear s0 s1 s2 s3 s4 s5 s6 hth
     obtain ⟨l0,lf⟩:=cell1k gL
     refine wpo_late (by kernel_rfl) (by go_simp;first | done | with_reducible rfl | rfl | exact ⟨rfl,rfl⟩) ?_
     replace hu0:=far_cell (u:=(.slice (some ⟨g,0,none⟩) (k + 1) cc2)) hu0 (r:=v1.heap.size + 1) (j:=0) (by omega)
     replace s0':=far_frozen (u:=(.slice (some ⟨g,0,none⟩) (k + 1) cc2)) s0' (r:=v1.heap.size + 1) (j:=0)
     replace hu1:=far_cell (u:=(.slice (some ⟨g,0,none⟩) (k + 1) cc2)) hu1 (r:=v1.heap.size + 1) (j:=0) (by omega)
     replace s1':=far_frozen (u:=(.slice (some ⟨g,0,none⟩) (k + 1) cc2)) s1' (r:=v1.heap.size + 1) (j:=0)
     replace hu2:=far_cell (u:=(.slice (some ⟨g,0,none⟩) (k + 1) cc2)) hu2 (r:=v1.heap.size + 1) (j:=0) (by omega)
     replace s2':=far_frozen (u:=(.slice (some ⟨g,0,none⟩) (k + 1) cc2)) s2' (r:=v1.heap.size + 1) (j:=0)
     replace hu3:=far_cell (u:=(.slice (some ⟨g,0,none⟩) (k + 1) cc2)) hu3 (r:=v1.heap.size + 1) (j:=0) (by omega)
     replace s3':=far_frozen (u:=(.slice (some ⟨g,0,none⟩) (k + 1) cc2)) s3' (r:=v1.heap.size + 1) (j:=0)
     replace hu4:=far_cell (u:=(.slice (some ⟨g,0,none⟩) (k + 1) cc2)) hu4 (r:=v1.heap.size + 1) (j:=0) (by omega)
     replace s4':=far_frozen (u:=(.slice (some ⟨g,0,none⟩) (k + 1) cc2)) s4' (r:=v1.heap.size + 1) (j:=0)
     replace hu5:=far_cell (u:=(.slice (some ⟨g,0,none⟩) (k + 1) cc2)) hu5 (r:=v1.heap.size + 1) (j:=0) (by omega)
     replace s5':=far_frozen (u:=(.slice (some ⟨g,0,none⟩) (k + 1) cc2)) s5' (r:=v1.heap.size + 1) (j:=0)
     replace hu6:=far_cell (u:=(.slice (some ⟨g,0,none⟩) (k + 1) cc2)) hu6 (r:=v1.heap.size + 1) (j:=0) (by omega)
     replace s6':=far_frozen (u:=(.slice (some ⟨g,0,none⟩) (k + 1) cc2)) s6' (r:=v1.heap.size + 1) (j:=0)
     have HYE:=hid (setL_comm (w:=W3) (b:=g) (r:=v1.heap.size + 1) (j:=0) (u:=(.slice (some ⟨g,0,none⟩) (k + 1) cc2)) (by omega) [.int .i64 q.1.box.1,.int .i64 q.1.box.2.1,.int .i64 q.1.box.2.2.1,.int .i64 q.1.box.2.2.2,.bool q.1.lf,.slice q.2.1.1 q.1.its.length q.2.1.2.1,.slice q.2.1.2.2.1 q.1.kids.length q.2.1.2.2.2] (k * 7))
     clear l0 lf
     generalize W3.setCell ⟨v1.heap.size + 1,0,none⟩ (.slice (some ⟨g,0,none⟩) (k + 1) cc2) = Y8 at *
     try simp only [sq]
     refine anyL_1 (i:=9) rfl (by kernel_rfl) rfl ?_
     refine wpo_late (by kernel_rfl) (by go_simp;first | done | with_reducible rfl | rfl | exact ⟨rfl,rfl⟩) ?_
     clear hu0 hu1 hu2 hu3 hu4 hu5 hu6 s0' s1' s2' s3' s4' s5' s6'
     change anyL _ _ _ _ _ _ _ _ _ (setL Y8 g (k * 7) [.int .i64 q.1.box.1,.int .i64 q.1.box.2.1,.int .i64 q.1.box.2.2.1,.int .i64 q.1.box.2.2.2,.bool q.1.lf,.slice q.2.1.1 q.1.its.length q.2.1.2.1,.slice q.2.1.2.2.1 q.1.kids.length q.2.1.2.2.2])
     rw [HYE.out]
     clear HYE
     generalize setL W3 g (k * 7) [.int .i64 q.1.box.1,.int .i64 q.1.box.2.1,.int .i64 q.1.box.2.2.1,.int .i64 q.1.box.2.2.2,.bool q.1.lf,.slice q.2.1.1 q.1.its.length q.2.1.2.1,.slice q.2.1.2.2.1 q.1.kids.length q.2.1.2.2.2] = Y9 at *
     try simp only [sq]
     refine anyL_done (by kernel_rfl) ?_ _
     gi_wp2
     obtain ⟨gT4,gD4,gR4,gL4⟩:=HG4.out
     have hK9:=HP4.out.1
     rw [hsz2] at hK9
     refine ⟨hK9.set (p:=⟨v1.heap.size + 1,0,none⟩) (.slice (some ⟨g,0,none⟩) (k + 1) cc2) (by dsimp only;omega) (.inl (by dsimp only;omega)),some ⟨g,0,none⟩,cc2,S',(heap_set _ (v1.heap.size + 1) 0 w.heap.size (.slice (some ⟨g,0,none⟩) (k + 1) cc2) (by omega)).trans gT4,(heap_set _ (v1.heap.size + 1) 0 (w.heap.size + 1) (.slice (some ⟨g,0,none⟩) (k + 1) cc2) (by omega)).trans gD4,(heap_set _ (v1.heap.size + 1) 0 (w.heap.size + 1 + 1) (.slice (some ⟨g,0,none⟩) (k + 1) cc2) (by omega)).trans gR4,set_at gL4,?_,hL4,HP4.out.2.setCell (p:=⟨v1.heap.size + 1,0,none⟩) (by dsimp only;omega) (.slice (some ⟨g,0,none⟩) (k + 1) cc2)⟩
     rw [HNX.out,← hq1.out]
     exact HK4.out.keep (fun b hb => heap_set _ (v1.heap.size + 1) 0 b (.slice (some ⟨g,0,none⟩) (k + 1) cc2) (fun e => hL4 (e ▸ hb)))
   ·skip
    clear hHeld
    refine wpo_val (by go_simp;first | done | with_reducible rfl | rfl | exact ⟨rfl,rfl⟩) ?_
    have gN:=heap_alloc_new V (.cells #[.int .i64 0,.int .i64 0,.int .i64 0,.int .i64 0,.bool false,.slice none 0 0,.slice none 0 0] 35)
    replace gT:=old_alloc (o':=(.cells #[.int .i64 0,.int .i64 0,.int .i64 0,.int .i64 0,.bool false,.slice none 0 0,.slice none 0 0] 35)) gT
    replace gD:=old_alloc (o':=(.cells #[.int .i64 0,.int .i64 0,.int .i64 0,.int .i64 0,.bool false,.slice none 0 0,.slice none 0 0] 35)) gD
    replace gR:=old_alloc (o':=(.cells #[.int .i64 0,.int .i64 0,.int .i64 0,.int .i64 0,.bool false,.slice none 0 0,.slice none 0 0] 35)) gR
    replace gL:=old_alloc (o':=(.cells #[.int .i64 0,.int .i64 0,.int .i64 0,.int .i64 0,.bool false,.slice none 0 0,.slice none 0 0] 35)) gL
    replace gX:=old_alloc (o':=(.cells #[.int .i64 0,.int .i64 0,.int .i64 0,.int .i64 0,.bool false,.slice none 0 0,.slice none 0 0] 35)) gX
    replace hko:=hko.below (balloc (Below.refl _ _) (.cells #[.int .i64 0,.int .i64 0,.int .i64 0,.int .i64 0,.bool false,.slice none 0 0,.slice none 0 0] 35))
    have hwV:w.heap.size ≤ V.heap.size:=hB.size
    replace hKp:=hKp.belowR (balloc (Below.refl _ _) (.cells #[.int .i64 0,.int .i64 0,.int .i64 0,.int .i64 0,.bool false,.slice none 0 0,.slice none 0 0] 35)) (Nat.le_trans hwX (by omega))
    replace hB:=balloc hB (.cells #[.int .i64 0,.int .i64 0,.int .i64 0,.int .i64 0,.bool false,.slice none 0 0,.slice none 0 0] 35)
    replace hVL:=Nat.lt_trans hVL (show V.heap.size < (V.alloc (.cells #[.int .i64 0,.int .i64 0,.int .i64 0,.int .i64 0,.bool false,.slice none 0 0,.slice none 0 0] 35)).heap.size by simp)
    obtain ⟨nb,hnb⟩:∃ nb,nb = V.heap.size:=⟨_,rfl⟩
    rw [← hnb] at gN ⊢
    generalize V.alloc (.cells #[.int .i64 0,.int .i64 0,.int .i64 0,.int .i64 0,.bool false,.slice none 0 0,.slice none 0 0] 35) = Wa at *
    clear hnb hwV
    refine ⟨by (obtain ⟨x0,x1,x2,x3,x4,x5,x6,_,_,_,_,_,_,_⟩:=cell7k gX;exact ⟨(cell1k gL).1,x0,x1,x2,x3,x4,x5,x6,(cell1k gD).1⟩),fun hHeld => ?_⟩
    try simp only [sq]
    refine anyL_1 (i:=4) rfl (by kernel_rfl) rfl ?_
    refine wpo_call (CR.out _ hB) ?_ (fun e w' hp => ?_) (fun v W1 hp => ?_)
    ·go_simp
    ·exact hp.ret
    clear hHeld
    obtain ⟨hq,Sq,e0,hko2,hb1⟩:=hp
    injection e0 with e0
    subst e0
    have hVs:=hB.size
    replace gT:=keepheap hb1 gT
    replace gD:=keepheap hb1 gD
    replace gR:=keepheap hb1 gR
    replace gL:=keepheap hb1 gL
    replace gX:=keepheap hb1 gX
    replace gN:=keepheap hb1 gN
    have hdis:∀ b ∈ Sq,b ∉ S:=fun b hb hc => by have:=(hko2.lt b hb).1;have:=(hko.lt b hc).2;omega
    have hLq:v1.heap.size + 1 ∉ Sq:=fun hc => by have:=(hko2.lt _ hc).1;omega
    replace hko:=hko.below hb1
    replace hko2:=KO.lo (lo':=v0.heap.size) (by omega) hko2
    replace hKp:=hKp.belowR hb1 (Nat.le_trans hwX (by omega))
    replace hB:=btrans hB hb1
    replace hVL:=Nat.lt_of_lt_of_le hVL hb1.size
    clear hb1
    obtain ⟨q,hqq⟩:∃ q:KP,q = (cpy l' t.kids[k],hq,Sq):=⟨_,rfl⟩
    have e1:kvh (cpy l' t.kids[k]) hq = .agg #[.int .i64 q.1.box.1,.int .i64 q.1.box.2.1,.int .i64 q.1.box.2.2.1,.int .i64 q.1.box.2.2.2,.bool q.1.lf,.slice q.2.1.1 q.1.its.length q.2.1.2.1,.slice q.2.1.2.2.1 q.1.kids.length q.2.1.2.2.2]:=by rw [hqq];rfl
    rw [e1]
    replace hko2:KO v0.heap.size (l' + 1) W1 q.2.1 q.2.2 q.1:=by rw [hqq];exact hko2
    replace hdis:∀ b ∈ q.2.2,b ∉ S:=by rw [hqq];exact hdis
    replace hLq:v1.heap.size + 1 ∉ q.2.2:=by rw [hqq];exact hLq
    have hq1:=hid (show q.1 = cpy l' t.kids[k] by rw [hqq])
    clear hqq e1
    refine ⟨by (obtain ⟨x0,x1,x2,x3,x4,x5,x6,_,_,_,_,_,_,_⟩:=cell7k gX;exact ⟨(cell1k gL).1,x0,x1,x2,x3,x4,x5,x6,(cell1k gD).1⟩),fun hHeld => ?_⟩
    try simp only [sq]
    refine anyL_1 (i:=7) rfl (by kernel_rfl) rfl ?_
    obtain ⟨ps,hop⟩:=hko.op
    have hpl:ps.length = k:=by rw [← hop.len,HPK.out]
    have hrow:=hop.2.2.1
    rw [hpl] at hrow
    have hsW:=hB.size
    have hf:∀ b,b ∈ hb ak → b ∈ S:=hop.parts.2.1
    have hlo:∀ b ∈ S,v0.heap.size ≤ b ∧ b < W1.heap.size:=hko.lt
    have hcl:=hko.cells
    clear hHeld
    refine wpo_app (.tmp 20) (.tmp 26) 33 rfl v0.heap.size 35 k0 _ 7 88 Tryz.underlying33 hki0 hkz0 hkz1 hkzz rfl (by decide) ak k ck (flK ps) (by rfl) hrow (some ⟨nb,0,none⟩) 1 1 [.int .i64 0,.int .i64 0,.int .i64 0,.int .i64 0,.bool false,.slice none 0 0,.slice none 0 0] (by rfl) (.inr ⟨_,rfl,src_blk gN⟩) rfl (by simp [Value.oneCell']) (by unfold maxLen;omega) (by omega) (by omega) ?_
    intro a2 cc2 W3 hown hgrow hat
    obtain ⟨g,rfl,hg1,hg2,_⟩:=row_some hown (by omega)
    have hkI1:(k:Int) < (k:Int) + 1:=by omega
    have hkI0:(0:Int) ≤ (k:Int):=by omega
    have hgg:g ∈ hb ak ∨ g = W1.heap.size:=hat g (by simp [hb])
    replace gT:=(app_blk hgrow (lt_of_heap gT) (fun hc => by have:=(hlo _ (hf _ hc)).1;omega)).trans gT
    replace gD:=(app_blk hgrow (lt_of_heap gD) (fun hc => by have:=(hlo _ (hf _ hc)).1;omega)).trans gD
    replace gR:=(app_blk hgrow (lt_of_heap gR) (fun hc => by have:=(hlo _ (hf _ hc)).1;omega)).trans gR
    replace gX:=(app_blk hgrow (lt_of_heap gX) (fun hc => hBS (hf _ hc))).trans gX
    replace gL:=(app_blk hgrow (lt_of_heap gL) (fun hc => hLS (hf _ hc))).trans gL
    have hKp3:=hKp.grown hgrow hsW (fun r e => ⟨by have:=(hlo r (hf r (own_hb e))).1;omega,.inr (fun o ho => by obtain ⟨cs,ty,fr,e'⟩:=hcl r (hf r (own_hb e));rw [e'] at ho;cases ho;rfl)⟩)
    have hB3:Below w.heap.size w W3:=Below.grown hB hgrow hsW (fun r e => by have:=(hlo r (hf r (own_hb e))).1;omega)
    have hne:g ≠ v1.heap.size + 1:=fun e => by
     rcases hgg with h | h
     ·exact hLS (hf _ (e ▸ h))
     ·omega
    have hown4:=own_setL hown [.int .i64 q.1.box.1,.int .i64 q.1.box.2.1,.int .i64 q.1.box.2.2.1,.int .i64 q.1.box.2.2.2,.bool q.1.lf,.slice q.2.1.1 q.1.its.length q.2.1.2.1,.slice q.2.1.2.2.1 q.1.kids.length q.2.1.2.2.2] (o:=k * 7) (by simp;omega)
    have hgrow4:=grown_setL hgrow (show some g = Value.ownBlock (.slice ak k ck) ∨ W1.heap.size ≤ g from by
     rcases hgg with h | h
     ·exact .inl (hb_mem h)
     ·exact .inr (by omega)) (k * 7) [.int .i64 q.1.box.1,.int .i64 q.1.box.2.1,.int .i64 q.1.box.2.2.1,.int .i64 q.1.box.2.2.2,.bool q.1.lf,.slice q.2.1.1 q.1.its.length q.2.1.2.1,.slice q.2.1.2.2.1 q.1.kids.length q.2.1.2.2.2]
    replace hown4:(setL W3 g (k * 7) [.int .i64 q.1.box.1,.int .i64 q.1.box.2.1,.int .i64 q.1.box.2.2.1,.int .i64 q.1.box.2.2.2,.bool q.1.lf,.slice q.2.1.1 q.1.its.length q.2.1.2.1,.slice q.2.1.2.2.1 q.1.kids.length q.2.1.2.2.2]).ownsRow v0.heap.size 35 7 (.slice (some ⟨g,0,none⟩) (k + 1) cc2) (k + 1) (flK ps ++ ckh q.1 q.2.1):=by
     have e:=flK_put ps q hpl (zs:=[.int .i64 0,.int .i64 0,.int .i64 0,.int .i64 0,.bool false,.slice none 0 0,.slice none 0 0]) rfl
     rw [← e];exact hown4
    have A2:=hop.addKid (w':=setL W3 g (k * 7) [.int .i64 q.1.box.1,.int .i64 q.1.box.2.1,.int .i64 q.1.box.2.2.1,.int .i64 q.1.box.2.2.2,.bool q.1.lf,.slice q.2.1.1 q.1.its.length q.2.1.2.1,.slice q.2.1.2.2.1 q.1.kids.length q.2.1.2.2.2]) (a':=some ⟨g,0,none⟩) (c':=cc2) (m:=k) hko2 hdis hpl.symm hown4
    obtain ⟨S',hko4,hsub⟩:=A2 hgrow4 hat
    have hL4:v1.heap.size + 1 ∉ S':=fun hc => by
     rcases hsub _ hc with e | e | e
     ·exact hLS e
     ·exact hLq e
     ·omega
    have gT4:=(setL_blk [.int .i64 q.1.box.1,.int .i64 q.1.box.2.1,.int .i64 q.1.box.2.2.1,.int .i64 q.1.box.2.2.2,.bool q.1.lf,.slice q.2.1.1 q.1.its.length q.2.1.2.1,.slice q.2.1.2.2.1 q.1.kids.length q.2.1.2.2.2] W3 g (k * 7) (w.heap.size) (by omega)).trans gT
    have gD4:=(setL_blk [.int .i64 q.1.box.1,.int .i64 q.1.box.2.1,.int .i64 q.1.box.2.2.1,.int .i64 q.1.box.2.2.2,.bool q.1.lf,.slice q.2.1.1 q.1.its.length q.2.1.2.1,.slice q.2.1.2.2.1 q.1.kids.length q.2.1.2.2.2] W3 g (k * 7) (w.heap.size + 1) (by omega)).trans gD
    have gR4:=(setL_blk [.int .i64 q.1.box.1,.int .i64 q.1.box.2.1,.int .i64 q.1.box.2.2.1,.int .i64 q.1.box.2.2.2,.bool q.1.lf,.slice q.2.1.1 q.1.its.length q.2.1.2.1,.slice q.2.1.2.2.1 q.1.kids.length q.2.1.2.2.2] W3 g (k * 7) (w.heap.size + 1 + 1) (by omega)).trans gR
    have gL4:=(setL_blk [.int .i64 q.1.box.1,.int .i64 q.1.box.2.1,.int .i64 q.1.box.2.2.1,.int .i64 q.1.box.2.2.2,.bool q.1.lf,.slice q.2.1.1 q.1.its.length q.2.1.2.1,.slice q.2.1.2.2.1 q.1.kids.length q.2.1.2.2.2] W3 g (k * 7) (v1.heap.size + 1) (by omega)).trans gL
    obtain ⟨cs3,hcs3⟩:=own_kindK hown
    have hKp4:=Kp.setL [.int .i64 q.1.box.1,.int .i64 q.1.box.2.1,.int .i64 q.1.box.2.2.1,.int .i64 q.1.box.2.2.2,.bool q.1.lf,.slice q.2.1.1 q.1.its.length q.2.1.2.1,.slice q.2.1.2.2.1 q.1.kids.length q.2.1.2.2.2] (o:=k * 7) hKp3 (by omega) hcs3
    have hB4:=setL_below [.int .i64 q.1.box.1,.int .i64 q.1.box.2.1,.int .i64 q.1.box.2.2.1,.int .i64 q.1.box.2.2.2,.bool q.1.lf,.slice q.2.1.1 q.1.its.length q.2.1.2.1,.slice q.2.1.2.2.1 q.1.kids.length q.2.1.2.2.2] w W3 g (k * 7) _ hB3 (by omega)
    have HK4:=hid hko4
    have HG4:=hid (And.intro gT4 (And.intro gD4 (And.intro gR4 gL4)))
    have HP4:=hid (And.intro hKp4 hB4)
    clear hko4 gT4 gD4 gR4 gL4 hKp4 hB4 hown4 hgrow4 hgrow hop hko hko2 A2
    refine ⟨by (obtain ⟨x0,x1,x2,x3,x4,x5,x6,_,_,_,_,_,_,_⟩:=cell7k gX;exact ⟨(cell1k gL).1,x0,x1,x2,x3,x4,x5,x6,(cell1k gD).1⟩),fun hHeld => ?_⟩
    try simp only [sq]
    refine tkP 8 hHeld ?_
    try simp only [sq]
    refine anyL_2 (i:=9) (j:=10) rfl rfl (by kernel_rfl) rfl rfl ?_ ?_
    ·skip
     have hth:=row_there hown
     obtain ⟨s0,s0'⟩:=hth (k * 7) (by omega)
     obtain ⟨s1,s1'⟩:=hth (k * 7 + 1) (by omega)
     obtain ⟨s2,s2'⟩:=hth (k * 7 + 2) (by omega)
     obtain ⟨s3,s3'⟩:=hth (k * 7 + 3) (by omega)
     obtain ⟨s4,s4'⟩:=hth (k * 7 + 4) (by omega)
     obtain ⟨s5,s5'⟩:=hth (k * 7 + 5) (by omega)
     obtain ⟨s6,s6'⟩:=hth (k * 7 + 6) (by omega)
     obtain ⟨u0,hu0⟩:=Option.isSome_iff_exists.1 s0
     obtain ⟨u1,hu1⟩:=Option.isSome_iff_exists.1 s1
     obtain ⟨u2,hu2⟩:=Option.isSome_iff_exists.1 s2
     obtain ⟨u3,hu3⟩:=Option.isSome_iff_exists.1 s3
     obtain ⟨u4,hu4⟩:=Option.isSome_iff_exists.1 s4
     obtain ⟨u5,hu5⟩:=Option.isSome_iff_exists.1 s5
     obtain ⟨u6,hu6⟩:=Option.isSome_iff_exists.1 s6
     simp only [Nat.zero_add,← Nat.add_assoc] at hu0 hu1 hu2 hu3 hu4 hu5 hu6 s0' s1' s2' s3' s4' s5' s6'
     clear s0 s1 s2 s3 s4 s5 s6 hth
     refine wpo_late (by kernel_rfl) (by go_simp;first | done | with_reducible rfl | rfl | exact ⟨rfl,rfl⟩) ?_
     clear hu0 hu1 hu2 hu3 hu4 hu5 hu6 s0' s1' s2' s3' s4' s5' s6'
     change anyL _ _ _ _ _ _ _ _ _ (setL W3 g (k * 7) [.int .i64 q.1.box.1,.int .i64 q.1.box.2.1,.int .i64 q.1.box.2.2.1,.int .i64 q.1.box.2.2.2,.bool q.1.lf,.slice q.2.1.1 q.1.its.length q.2.1.2.1,.slice q.2.1.2.2.1 q.1.kids.length q.2.1.2.2.2])
     generalize setL W3 g (k * 7) [.int .i64 q.1.box.1,.int .i64 q.1.box.2.1,.int .i64 q.1.box.2.2.1,.int .i64 q.1.box.2.2.2,.bool q.1.lf,.slice q.2.1.1 q.1.its.length q.2.1.2.1,.slice q.2.1.2.2.1 q.1.kids.length q.2.1.2.2.2] = Y9 at *
     have gL4:=HG4.out.2.2.2
     obtain ⟨l0,lf⟩:=cell1k gL4
     try simp only [sq]
     refine anyL_1 (i:=10) rfl (by kernel_rfl) rfl ?_
     refine wpo_late (by kernel_rfl) (by go_simp;first | done | with_reducible rfl | rfl | exact ⟨rfl,rfl⟩) ?_
     clear gL4 l0 lf
     try simp only [sq]
     refine anyL_done (by kernel_rfl) ?_ _
     gi_wp2
     obtain ⟨gT4,gD4,gR4,gL4⟩:=HG4.out
     have hK9:=HP4.out.1
     rw [hsz2] at hK9
     refine ⟨hK9.set (p:=⟨v1.heap.size + 1,0,none⟩) (.slice (some ⟨g,0,none⟩) (k + 1) cc2) (by dsimp only;omega) (.inl (by dsimp only;omega)),some ⟨g,0,none⟩,cc2,S',(heap_set _ (v1.heap.size + 1) 0 w.heap.size (.slice (some ⟨g,0,none⟩) (k + 1) cc2) (by omega)).trans gT4,(heap_set _ (v1.heap.size + 1) 0 (w.heap.size + 1) (.slice (some ⟨g,0,none⟩) (k + 1) cc2) (by omega)).trans gD4,(heap_set _ (v1.heap.size + 1) 0 (w.heap.size + 1 + 1) (.slice (some ⟨g,0,none⟩) (k + 1) cc2) (by omega)).trans gR4,set_at gL4,?_,hL4,HP4.out.2.setCell (p:=⟨v1.heap.size + 1,0,none⟩) (by dsimp only;omega) (.slice (some ⟨g,0,none⟩) (k + 1) cc2)⟩
     rw [HNX.out,← hq1.out]
     exact HK4.out.keep (fun b hb => heap_set _ (v1.heap.size + 1) 0 b (.slice (some ⟨g,0,none⟩) (k + 1) cc2) (fun e => hL4 (e ▸ hb)))
    ·skip
     have hth:=row_there hown
     obtain ⟨s0,s0'⟩:=hth (k * 7) (by omega)
     obtain ⟨s1,s1'⟩:=hth (k * 7 + 1) (by omega)
     obtain ⟨s2,s2'⟩:=hth (k * 7 + 2) (by omega)
     obtain ⟨s3,s3'⟩:=hth (k * 7 + 3) (by omega)
     obtain ⟨s4,s4'⟩:=hth (k * 7 + 4) (by omega)
     obtain ⟨s5,s5'⟩:=hth (k * 7 + 5) (by omega)
     obtain ⟨s6,s6'⟩:=hth (k * 7 + 6) (by omega)
     obtain ⟨u0,hu0⟩:=Option.isSome_iff_exists.1 s0
     obtain ⟨u1,hu1⟩:=Option.isSome_iff_exists.1 s1
     obtain ⟨u2,hu2⟩:=Option.isSome_iff_exists.1 s2
     obtain ⟨u3,hu3⟩:=Option.isSome_iff_exists.1 s3
     obtain ⟨u4,hu4⟩:=Option.isSome_iff_exists.1 s4
     obtain ⟨u5,hu5⟩:=Option.isSome_iff_exists.1 s5
     obtain ⟨u6,hu6⟩:=Option.isSome_iff_exists.1 s6
     simp only [Nat.zero_add,← Nat.add_assoc] at hu0 hu1 hu2 hu3 hu4 hu5 hu6 s0' s1' s2' s3' s4' s5' s6'
     clear s0 s1 s2 s3 s4 s5 s6 hth
     obtain ⟨l0,lf⟩:=cell1k gL
     refine wpo_late (by kernel_rfl) (by go_simp;first | done | with_reducible rfl | rfl | exact ⟨rfl,rfl⟩) ?_
     replace hu0:=far_cell (u:=(.slice (some ⟨g,0,none⟩) (k + 1) cc2)) hu0 (r:=v1.heap.size + 1) (j:=0) (by omega)
     replace s0':=far_frozen (u:=(.slice (some ⟨g,0,none⟩) (k + 1) cc2)) s0' (r:=v1.heap.size + 1) (j:=0)
     replace hu1:=far_cell (u:=(.slice (some ⟨g,0,none⟩) (k + 1) cc2)) hu1 (r:=v1.heap.size + 1) (j:=0) (by omega)
     replace s1':=far_frozen (u:=(.slice (some ⟨g,0,none⟩) (k + 1) cc2)) s1' (r:=v1.heap.size + 1) (j:=0)
     replace hu2:=far_cell (u:=(.slice (some ⟨g,0,none⟩) (k + 1) cc2)) hu2 (r:=v1.heap.size + 1) (j:=0) (by omega)
     replace s2':=far_frozen (u:=(.slice (some ⟨g,0,none⟩) (k + 1) cc2)) s2' (r:=v1.heap.size + 1) (j:=0)
     replace hu3:=far_cell (u:=(.slice (some ⟨g,0,none⟩) (k + 1) cc2)) hu3 (r:=v1.heap.size + 1) (j:=0) (by omega)
     replace s3':=far_frozen (u:=(.slice (some ⟨g,0,none⟩) (k + 1) cc2)) s3' (r:=v1.heap.size + 1) (j:=0)
     replace hu4:=far_cell (u:=(.slice (some ⟨g,0,none⟩) (k + 1) cc2)) hu4 (r:=v1.heap.size + 1) (j:=0) (by omega)
     replace s4':=far_frozen (u:=(.slice (some ⟨g,0,none⟩) (k + 1) cc2)) s4' (r:=v1.heap.size + 1) (j:=0)
     replace hu5:=far_cell (u:=(.slice (some ⟨g,0,none⟩) (k + 1) cc2)) hu5 (r:=v1.heap.size + 1) (j:=0) (by omega)
     replace s5':=far_frozen (u:=(.slice (some ⟨g,0,none⟩) (k + 1) cc2)) s5' (r:=v1.heap.size + 1) (j:=0)
     replace hu6:=far_cell (u:=(.slice (some ⟨g,0,none⟩) (k + 1) cc2)) hu6 (r:=v1.heap.size + 1) (j:=0) (by omega)
     replace s6':=far_frozen (u:=(.slice (some ⟨g,0,none⟩) (k + 1) cc2)) s6' (r:=v1.heap.size + 1) (j:=0)
     have HYE:=hid (setL_comm (w:=W3) (b:=g) (r:=v1.heap.size + 1) (j:=0) (u:=(.slice (some ⟨g,0,none⟩) (k + 1) cc2)) (by omega) [.int .i64 q.1.box.1,.int .i64 q.1.box.2.1,.int .i64 q.1.box.2.2.1,.int .i64 q.1.box.2.2.2,.bool q.1.lf,.slice q.2.1.1 q.1.its.length q.2.1.2.1,.slice q.2.1.2.2.1 q.1.kids.length q.2.1.2.2.2] (k * 7))
     clear l0 lf
     generalize W3.setCell ⟨v1.heap.size + 1,0,none⟩ (.slice (some ⟨g,0,none⟩) (k + 1) cc2) = Y8 at *
     try simp only [sq]
     refine anyL_1 (i:=9) rfl (by kernel_rfl) rfl ?_
     refine wpo_late (by kernel_rfl) (by go_simp;first | done | with_reducible rfl | rfl | exact ⟨rfl,rfl⟩) ?_
     clear hu0 hu1 hu2 hu3 hu4 hu5 hu6 s0' s1' s2' s3' s4' s5' s6'
     change anyL _ _ _ _ _ _ _ _ _ (setL Y8 g (k * 7) [.int .i64 q.1.box.1,.int .i64 q.1.box.2.1,.int .i64 q.1.box.2.2.1,.int .i64 q.1.box.2.2.2,.bool q.1.lf,.slice q.2.1.1 q.1.its.length q.2.1.2.1,.slice q.2.1.2.2.1 q.1.kids.length q.2.1.2.2.2])
     rw [HYE.out]
     clear HYE
     generalize setL W3 g (k * 7) [.int .i64 q.1.box.1,.int .i64 q.1.box.2.1,.int .i64 q.1.box.2.2.1,.int .i64 q.1.box.2.2.2,.bool q.1.lf,.slice q.2.1.1 q.1.its.length q.2.1.2.1,.slice q.2.1.2.2.1 q.1.kids.length q.2.1.2.2.2] = Y9 at *
     try simp only [sq]
     refine anyL_done (by kernel_rfl) ?_ _
     gi_wp2
     obtain ⟨gT4,gD4,gR4,gL4⟩:=HG4.out
     have hK9:=HP4.out.1
     rw [hsz2] at hK9
     refine ⟨hK9.set (p:=⟨v1.heap.size + 1,0,none⟩) (.slice (some ⟨g,0,none⟩) (k + 1) cc2) (by dsimp only;omega) (.inl (by dsimp only;omega)),some ⟨g,0,none⟩,cc2,S',(heap_set _ (v1.heap.size + 1) 0 w.heap.size (.slice (some ⟨g,0,none⟩) (k + 1) cc2) (by omega)).trans gT4,(heap_set _ (v1.heap.size + 1) 0 (w.heap.size + 1) (.slice (some ⟨g,0,none⟩) (k + 1) cc2) (by omega)).trans gD4,(heap_set _ (v1.heap.size + 1) 0 (w.heap.size + 1 + 1) (.slice (some ⟨g,0,none⟩) (k + 1) cc2) (by omega)).trans gR4,set_at gL4,?_,hL4,HP4.out.2.setCell (p:=⟨v1.heap.size + 1,0,none⟩) (by dsimp only;omega) (.slice (some ⟨g,0,none⟩) (k + 1) cc2)⟩
     rw [HNX.out,← hq1.out]
     exact HK4.out.keep (fun b hb => heap_set _ (v1.heap.size + 1) 0 b (.slice (some ⟨g,0,none⟩) (k + 1) cc2) (fun e => hL4 (e ▸ hb)))
  case done =>
   rintro X h1 hD hbX
   have H1:=h1
   have HPC:=hid (show pcp l' t t.kids.length = cpy left t by rw [HL.out];exact pcp_all l' t)
   obtain ⟨ak,ck,S,gT,gD,gR,gL,hko,hLS,hBX⟩:=H1
   obtain ⟨t0,t1,t2,t3,t4,t5,t6,f0,f1,f2,f3,f4,f5,f6⟩:=cell7k gT
   obtain ⟨r0,r1,r2,r3,r4,r5,r6,e0,e1,e2,e3,e4,e5,e6⟩:=cell7k gR
   obtain ⟨l0,_⟩:=cell1k gL
   have HGR:=hid gR
   have HKO:=hid hko
   have HHB:=hid hBX
   clear gT gD gR gL hko hBX
   gi_wp2
   have hF:((setL (X.setCell ⟨w.heap.size,6,none⟩ (.slice ak t.kids.length ck)) (w.heap.size + 1 + 1) 0 [.int .i64 b0,.int .i64 b1,.int .i64 b2,.int .i64 b3,.bool b4,.slice a' ni c',.slice ak t.kids.length ck])).heap[w.heap.size + 1 + 1]? = some (.cells #[.int .i64 b0,.int .i64 b1,.int .i64 b2,.int .i64 b3,.bool b4,.slice a' ni c',.slice ak t.kids.length ck] 35 (0,0)):=set7k ((heap_set X w.heap.size 6 (w.heap.size + 1 + 1) _ (by omega)).trans HGR.out) _ _ _ _ _ _ _
   have hKF:KO v0.heap.size (l' + 1 + 1) (setL (X.setCell ⟨w.heap.size,6,none⟩ (.slice ak t.kids.length ck)) (w.heap.size + 1 + 1) 0 [.int .i64 b0,.int .i64 b1,.int .i64 b2,.int .i64 b3,.bool b4,.slice a' ni c',.slice ak t.kids.length ck]) (a',c',ak,ck) S (pcp l' t t.kids.length):=HKO.out.keep (fun b hb => by
    have:=(HKO.out.lt b hb).1
    exact (setL_blk _ _ (w.heap.size + 1 + 1) 0 b (by omega)).trans (heap_set X w.heap.size 6 b _ (by omega)))
   have hBF:Below w.heap.size w (setL (X.setCell ⟨w.heap.size,6,none⟩ (.slice ak t.kids.length ck)) (w.heap.size + 1 + 1) 0 [.int .i64 b0,.int .i64 b1,.int .i64 b2,.int .i64 b3,.bool b4,.slice a' ni c',.slice ak t.kids.length ck]):=setL_below _ w _ (w.heap.size + 1 + 1) 0 _ (HHB.out.setCell (p:=⟨w.heap.size,6,none⟩) (Nat.le_refl _) _) (by omega)
   have hDD:(setL (X.setCell ⟨w.heap.size,6,none⟩ (.slice ak t.kids.length ck)) (w.heap.size + 1 + 1) 0 [.int .i64 b0,.int .i64 b1,.int .i64 b2,.int .i64 b3,.bool b4,.slice a' ni c',.slice ak t.kids.length ck]).heap[W2.heap.size]? = some (.deferred (some [])):=((setL_blk _ _ (w.heap.size + 1 + 1) 0 W2.heap.size (by omega)).trans (heap_set X w.heap.size 6 W2.heap.size _ (by omega))).trans hD
   have ht:Tn M0 W2.heap.size (setL (X.setCell ⟨w.heap.size,6,none⟩ (.slice ak t.kids.length ck)) (w.heap.size + 1 + 1) 0 [.int .i64 b0,.int .i64 b1,.int .i64 b2,.int .i64 b3,.bool b4,.slice a' ni c',.slice ak t.kids.length ck]) ((setL (X.setCell ⟨w.heap.size,6,none⟩ (.slice ak t.kids.length ck)) (w.heap.size + 1 + 1) 0 [.int .i64 b0,.int .i64 b1,.int .i64 b2,.int .i64 b3,.bool b4,.slice a' ni c',.slice ak t.kids.length ck]).putObj W2.heap.size (.deferred none)):=Tn.put _ hDD rfl (Nat.le_refl _)
   replace hF:=ht.cells hF
   replace hKF:=hKF.tn ht
   replace hBF:=hBF.trans (ht.below hB2.size hBF.size)
   simp only [setL,Nat.zero_add,Nat.reduceAdd] at hF hKF hBF hDD
   obtain ⟨z0,z1,z2,z3,z4,z5,z6,_,_,_,_,_,_,_⟩:=cell7k hF
   refine ⟨by simp,.inl ⟨_,_,rfl,run_takeDeferred hDD,?_⟩⟩
   refine ⟨.agg #[.int .i64 b0,.int .i64 b1,.int .i64 b2,.int .i64 b3,.bool b4,.slice a' ni c',.slice ak t.kids.length ck],by simp [results,Tryz.results45,go_sem,z0,z1,z2,z3,z4,z5,z6],(a',c',ak,ck),S,?_,?_,hBF⟩
   ·rw [← HPC.out]
    show _ = Ending.returned (kv (pcp l' t t.kids.length) a' c' ak ck)
    unfold kv
    rw [pcp_len (by omega)]
    show _ = Ending.returned (Value.agg #[.int .i64 t.box.1,.int .i64 t.box.2.1,.int .i64 t.box.2.2.1,.int .i64 t.box.2.2.2,.bool t.lf,.slice a' t.its.length c',.slice ak t.kids.length ck])
    rw [HBX.out,HLF.out,← HNI.out]
   ·rw [← HPC.out,HL.out]
    exact KO.lo (lo:=v0.heap.size) (lo':=w.heap.size) (by omega) hKF
  case stop => exact fun c k X _ h => h.elim
theorem impl_copied (left:Nat):left ≤ 20 → ∀ (n:Nat) (t:KT) (ia ka:Option Addr) (ic kc:Nat) (w:World),KnR n w ia ic ka kc t → ksz n t ≤ 1048576 → Calls Tryz.prog 45 #[kv t ia ic ka kc,.int .i64 left] w (KAns w (left + 1) (cpy left t)):=by
 induction left with
 | zero => exact fun h20 n t ia ka ic kc w => copied_step 0 (fun l' e => by omega) n t ia ka ic kc w h20
 | succ l ih =>
  refine fun h20 n t ia ka ic kc w => copied_step (l + 1) (fun l' e => ?_) n t ia ka ic kc w h20
  have e':l' = l:=by omega
  subst e'
  exact ih (by omega)
end Go.Proofs.YtjahlofahjgdbaaGreat
