/- Texts of stores, joined: Ia, Kz. -/
import Derived.Test.YtjahlofahjgdbaaGreatJ23
set_option maxRecDepth 100000
set_option maxHeartbeats 8000000
set_option linter.unusedSimpArgs false
set_option linter.unusedVariables false
namespace Go.Proofs.YtjahlofahjgdbaaGreat
open Go.RowKit Go.Shelf
inductive Sets (b N:Nat) (w:World):World → Prop
 | refl:Sets b N w w
 | set {w1:World} {o:Nat} (h:Sets b N w w1) (ho:o < N) (v:Value):Sets b N w (w1.setCell ⟨b,o,none⟩ v)
theorem Sets.grown {b N:Nat} {w w':World} (h:Sets b N w w'):w.grownBy w' (some b) ∧ w'.heap.size = w.heap.size:=by
 induction h with
 | refl => exact ⟨⟨rfl,rfl,rfl,Nat.le_refl _,fun _ _ _ => rfl⟩,rfl⟩
 | set h ho v ih =>
  obtain ⟨g,e⟩:=ih
  refine ⟨⟨g.os,g.tape,g.output,?_,fun k hk hne => ?_⟩,?_⟩
  ·simp [World.setCell];omega
  ·exact (Below.heap_setCell _ _ _ _ (fun e => hne (by rw [e]))).trans (g.block k hk hne)
  ·simp [World.setCell];exact e
structure Mf (lo hi:Nat) (w w':World):Prop where
 os:w'.os = w.os
 tape:w'.tape = w.tape
 output:w'.output = w.output
 size:w.heap.size ≤ w'.heap.size
 out:∀ k,k < w.heap.size → (k < lo ∨ hi ≤ k) → w'.heap[k]? = w.heap[k]?
 sl:∀ b o a n c,w.cell? ⟨b,o,none⟩ = some (.slice a n c) → w'.cell? ⟨b,o,none⟩ = some (.slice a n c)
 cell:∀ b o,(w.cell? ⟨b,o,none⟩).isSome = true → (w'.cell? ⟨b,o,none⟩).isSome = true
 fz:∀ b o,b < w.heap.size → w'.frozen? ⟨b,o,none⟩ = w.frozen? ⟨b,o,none⟩
theorem Mf.of_below {lo hi:Nat} {w w':World} (h:Below w.heap.size w w'):Mf lo hi w w':=
 ⟨h.os,h.tape,h.output,h.size,fun k hk _ => h.block k hk,fun b o a n c e => keepcell h e,fun b o e => by
  obtain ⟨v,hv⟩:=Option.isSome_iff_exists.1 e
  rw [keepcell h hv];rfl,fun b o hb => h.frozen (p:=⟨b,o,none⟩) hb⟩
theorem Mf.set {lo hi b o:Nat} {w w1:World} {x:Value} (h:Mf lo hi w w1) (hv:w.cell? ⟨b,o,none⟩ = some x) (hx:∀ a n c,x ≠ .slice a n c) (h1:lo ≤ b) (h2:b < hi) (u:Value):Mf lo hi w (w1.setCell ⟨b,o,none⟩ u):=
 ⟨h.os,h.tape,h.output,by simp [World.setCell];exact h.size,fun k hk hc => (Below.heap_setCell _ _ _ _ (by dsimp only;omega)).trans (h.out k hk hc),fun b' o' a n c e => by
  have e1:=h.sl _ _ _ _ _ e
  rw [World.cell?_setCell_other _ _ _ _ (fun q => ?_)]
  ·exact e1
  ·injection q with q1 q2
   subst q1 q2
   rw [hv] at e
   cases e
   exact hx _ _ _ rfl,fun b' o' e => by
  obtain ⟨v,hv'⟩:=Option.isSome_iff_exists.1 (h.cell b' o' e)
  obtain ⟨v',hv''⟩:=cell?_setCell_some (p:=⟨b,o,none⟩) (x:=u) hv'
  rw [hv''];rfl,fun b' o' hb => by rw [World.frozen?_setCell];exact h.fz b' o' hb⟩
theorem Mf.sets {lo hi b N:Nat} {w w1 w2:World} (h:Mf lo hi w w1) (hs:Sets b N w1 w2) (hx:∀ o,o < N → ∃ x,w.cell? ⟨b,o,none⟩ = some x ∧ ∀ a n c,x ≠ .slice a n c) (h1:lo ≤ b) (h2:b < hi):Mf lo hi w w2:=by
 induction hs with
 | refl => exact h
 | set hs ho v ih =>
  obtain ⟨x,hv,hn⟩:=hx _ ho
  exact ih.set hv hn h1 h2 v
def mk5 (z:Int):List Value:=[.int .i64 z,.int .i64 (z + 1),.int .i64 (z + 2),.int .i64 (z + 3),.int .i64 (z + 4)]
def MkA (w:World) (b:Nat) (z:Int) (n:Nat):Prop:=∀ j,j < n → Cs w b (j * 5) (mk5 (z + 5 * (j:Int)))
theorem there_cells {w:World} {b n k:Nat} (h:w.there b 0 n) (hk:k < n):∃ v,w.cell? ⟨b,k,none⟩ = some v ∧ w.frozen? ⟨b,k,none⟩ = false:=by
 obtain ⟨h1,h2⟩:=h k hk
 obtain ⟨v,hv⟩:=Option.isSome_iff_exists.1 h1
 simp only [Nat.zero_add] at hv h2
 exact ⟨v,hv,h2⟩
theorem mk_next {w wr:World} {b n k:Nat} {z:Int} (hk:k < n) (hs:Sets b (n * 5) w wr) (hm:MkA wr b z k) (ht:wr.there b 0 (n * 5)):Sets b (n * 5) w (setL wr b (k * 5) (mk5 (z + 5 * (k:Int)))) ∧ MkA (setL wr b (k * 5) (mk5 (z + 5 * (k:Int)))) b z (k + 1) ∧ (setL wr b (k * 5) (mk5 (z + 5 * (k:Int)))).there b 0 (n * 5):=by
 obtain ⟨p1,p2,p3⟩:=put_el (w:=wr) (b:=b) (m:=5) (n:=n * 5) (k:=k) (vs:=mk5 (z + 5 * (k:Int))) rfl ht (by omega)
 refine ⟨?_,fun j hj => ?_,p2⟩
 ·unfold mk5
  simp only [setL]
  exact .set (.set (.set (.set (.set hs (by omega) _) (by omega) _) (by omega) _) (by omega) _) (by omega) _
 ·by_cases e:j = k
  ·subst e;exact p1
  ·exact p3 (j * 5) (mk5 (z + 5 * (j:Int))) (by show j * 5 + 5 ≤ k * 5;omega) (hm j (by omega))
theorem mark_items (b n c:Nat) (z:Int) (w:World) (hn:n ≤ 1048576) (hz:0 ≤ z ∧ z ≤ 1099511627776) (ht:w.there b 0 (n * 5)):Calls Tryz.prog 52 #[.slice (some ⟨b,0,none⟩) n c,.int .i64 z] w fun e w' => e = .returned (.int .i64 (z + 5 * (n:Int))) ∧ Sets b (n * 5) w w' ∧ MkA w' b z n ∧ w'.there b 0 (n * 5):=by
 have HT:=hid ht
 clear ht
 go_enter Tryz.func52,Tryz.ntmps52
 go_wp2_with fail
 go_loopw [1,5] (fun t1 t5 wr => ∃ k:Nat,t5 = .int .i64 k ∧ t1 = .int .i64 (z + 5 * (k:Int)) ∧ k ≤ n ∧ Hid (Sets b (n * 5) w wr) ∧ Hid (MkA wr b z k) ∧ Hid (wr.there b 0 (n * 5))) (fun _ t5 _ => n - (intOf t5).toNat)
 case atStart => exact ⟨0,rfl,by simp,Nat.zero_le _,hid .refl,hid (fun j hj => absurd hj (by omega)),HT⟩
 case round =>
  clear HT
  obtain ⟨k,rfl,rfl,hk,HS,HM,HT⟩:=hrel
  by_cases hlt:k < n
  ·have c1:(k:Int) < (n:Int):=by omega
   have HX:=hid (mk_next hlt HS.out HM.out HT.out)
   obtain ⟨v0,q0,f0⟩:=there_cells HT.out (show k * 5 < n * 5 by omega)
   obtain ⟨v1,q1,f1⟩:=there_cells HT.out (show k * 5 + 1 < n * 5 by omega)
   obtain ⟨v2,q2,f2⟩:=there_cells HT.out (show k * 5 + 2 < n * 5 by omega)
   obtain ⟨v3,q3,f3⟩:=there_cells HT.out (show k * 5 + 3 < n * 5 by omega)
   obtain ⟨v4,q4,f4⟩:=there_cells HT.out (show k * 5 + 4 < n * 5 by omega)
   obtain ⟨y,hy⟩:∃ y,y = z + 5 * (k:Int):=⟨_,rfl⟩
   rw [← hy] at HX ⊢
   have hyb:0 ≤ y ∧ y ≤ 2199023255552:=by omega
   have HY:=hid hy
   clear hy
   go_wp2_with fail
   go_roundw
   case rel =>
    rw [show y + 1 + 1 = y + 2 by omega,show y + 2 + 1 = y + 3 by omega,show y + 3 + 1 = y + 4 by omega,show y + 4 + 1 = y + 5 by omega]
    have hy:=HY.out
    exact ⟨k + 1,by go_num,by rw [hy];congr 1;omega,by omega,hid HX.out.1,hid HX.out.2.1,hid HX.out.2.2⟩
   case measure => simp [intOf];omega
  ·have c1:¬ (k:Int) < (n:Int):=by omega
   have hkn:k = n:=by omega
   subst hkn
   go_wp2_with fail
   go_ret
   exact ⟨rfl,HS.out,HM.out,HT.out⟩
def kz (n:Nat) (l:List KT):Nat:=l.length + (l.map (ksz n)).sum
theorem kz_next (n:Nat) (l:List KT) (k:Nat) (h:k < l.length):kz n (l.take (k + 1)) = kz n (l.take k) + 1 + ksz n l[k]:=by
 unfold kz
 rw [sum_take (ksz n) l h,List.length_take,List.length_take,Nat.min_eq_left (by omega),Nat.min_eq_left (by omega)]
 omega
theorem kz_le (n:Nat) (l:List KT) (k:Nat):kz n (l.take k) ≤ kz n l:=by
 unfold kz
 have:=sum_take_le (ksz n) l k
 have h2:(l.take k).length ≤ l.length:=by rw [List.length_take];exact Nat.min_le_right _ _
 omega
theorem ksz_kz (n:Nat) (t:KT):ksz (n + 1) t = t.its.length + kz n t.kids:=by
 show t.its.length + t.kids.length + (t.kids.map (ksz n)).sum = _
 unfold kz;omega
theorem Mf.there {lo hi b n:Nat} {w w':World} (h:Mf lo hi w w') (hb:b < w.heap.size) (ht:w.there b 0 n):w'.there b 0 n:=fun j hj => by
 obtain ⟨h1,h2⟩:=ht j hj
 exact ⟨h.cell _ _ h1,by rw [h.fz _ _ hb];exact h2⟩
theorem it_cells {w:World} {b:Nat} {l:List It} (h:ItR w b l) (o:Nat) (ho:o < l.length * 5):∃ x,w.cell? ⟨b,o,none⟩ = some x ∧ ∀ a n c,x ≠ .slice a n c:=by
 have hj:o / 5 < l.length:=by omega
 have hc:=h.2 (o / 5) hj
 obtain ⟨c0,c1,c2,c3,c4⟩:=hc.item
 have e:o = o / 5 * 5 + o % 5:=by omega
 have hr:o % 5 < 5:=by omega
 generalize o / 5 = q at *
 generalize o % 5 = r at *
 subst e
 match r,hr with
 | 0,_ => exact ⟨_,c0,fun _ _ _ => by simp⟩
 | 1,_ => exact ⟨_,c1,fun _ _ _ => by simp⟩
 | 2,_ => exact ⟨_,c2,fun _ _ _ => by simp⟩
 | 3,_ => exact ⟨_,c3,fun _ _ _ => by simp⟩
 | 4,_ => exact ⟨_,c4,fun _ _ _ => by simp⟩
theorem wp_world {P:Program} {c:Code} {Q:Exit → Act → World → Prop} {a:Act} {W:World} (R:World → Prop) (h:R W) (k:∀ X,R X → c.wp P Q a X):c.wp P Q a W:=k W h
theorem mark_step (lo n:Nat) (wk w0:World) (H0:Below wk.heap.size wk w0)
  (IH:∀ n',n = n' + 1 → ∀ (l:List KT) (bk c:Nat) (z:Int) (w:World),KdO lo n' wk bk l → bk < wk.heap.size → lo ≤ bk → wk.there bk 0 (l.length * 7) → kz n' l ≤ 1048576 → 0 ≤ z ∧ z + 5 * (kz n' l:Int) ≤ 1099511627776 → Mf lo wk.heap.size w0 w → Calls Tryz.prog 53 #[.slice (some ⟨bk,0,none⟩) l.length c,.int .i64 z] w fun e w' => e = .returned (.int .i64 (z + 5 * (kz n' l:Int))) ∧ Mf lo wk.heap.size w0 w')
  (l:List KT) (bk c:Nat) (z:Int) (w:World) (hk:KdO lo n wk bk l) (hb:bk < wk.heap.size) (hl:lo ≤ bk) (ht:wk.there bk 0 (l.length * 7)) (hz:kz n l ≤ 1048576) (hzz:0 ≤ z ∧ z + 5 * (kz n l:Int) ≤ 1099511627776) (hM:Mf lo wk.heap.size w0 w):Calls Tryz.prog 53 #[.slice (some ⟨bk,0,none⟩) l.length c,.int .i64 z] w fun e w' => e = .returned (.int .i64 (z + 5 * (kz n l:Int))) ∧ Mf lo wk.heap.size w0 w':=by
 have HM:=hid hM
 have HK:=hid hk
 have HT0:=hid (there_below ht hb H0)
 have hll:l.length ≤ 1048576:=by unfold kz at hz;omega
 have hs0:=H0.size
 clear hM hk ht
 go_enter Tryz.func53,Tryz.ntmps53
 go_wp2_with fail
 go_loopw [1,5] (fun t1 t5 wr => ∃ k:Nat,t5 = .int .i64 k ∧ t1 = .int .i64 (z + 5 * (kz n (l.take k):Int)) ∧ k ≤ l.length ∧ Hid (Mf lo wk.heap.size w0 wr)) (fun _ t5 _ => l.length - (intOf t5).toNat)
 case atStart => exact ⟨0,rfl,by simp [kz],Nat.zero_le _,HM⟩
 case round =>
  clear HM
  obtain ⟨k,rfl,rfl,hk,HM⟩:=hrel
  by_cases hlt:k < l.length
  ·have c1:(k:Int) < (l.length:Int):=by omega
   cases n with
   | zero =>
    obtain ⟨_,_,_,hf⟩:=HK.out k hlt
    exact hf.elim
   | succ n =>
   obtain ⟨ia',ka',hcs,hkn⟩:=HK.out k hlt
   obtain ⟨bi,bk2,rfl,rfl,hl1,hl2,hIO,hb2,ht2,hK2⟩:=hkn
   have hcs0:=hcs.below hb H0
   obtain ⟨g0,g1,g2,g3,g4,g5,g6⟩:=hcs0.knot
   have hnx:=kz_next (n + 1) l k hlt
   have hle:=kz_le (n + 1) l (k + 1)
   rw [hnx,ksz_kz] at hle
   have HNX:=hid hnx
   have hITR:=(hIO.below H0).r
   have HIT:=hid (it_cells hITR)
   have HTI:=hid (there_below hIO.2.2 hIO.1 H0)
   have hbi:bi < wk.heap.size:=hIO.1
   have HIH:=hid (fun (z:Int) (w:World) (h1:0 ≤ z ∧ z + 5 * (kz n l[k].kids:Int) ≤ 1099511627776) (h2:Mf lo wk.heap.size w0 w) => IH n rfl l[k].kids bk2 l[k].kids.length z w hK2 hb2 hl2 ht2 (by omega) h1 h2)
   obtain ⟨v0,q0,f0⟩:=there_cells (HM.out.there (by omega) HT0.out) (show k * 7 < l.length * 7 by omega)
   obtain ⟨v1,q1,f1⟩:=there_cells (HM.out.there (by omega) HT0.out) (show k * 7 + 1 < l.length * 7 by omega)
   obtain ⟨v2,q2,f2⟩:=there_cells (HM.out.there (by omega) HT0.out) (show k * 7 + 2 < l.length * 7 by omega)
   obtain ⟨v3,q3,f3⟩:=there_cells (HM.out.there (by omega) HT0.out) (show k * 7 + 3 < l.length * 7 by omega)
   obtain ⟨v4,q4,f4⟩:=there_cells (HM.out.there (by omega) HT0.out) (show k * 7 + 4 < l.length * 7 by omega)
   have q5:=HM.out.sl _ _ _ _ _ g5
   have q6:=HM.out.sl _ _ _ _ _ g6
   have HG:=hid (And.intro g0 (And.intro g1 (And.intro g2 (And.intro g3 (And.intro g4 (And.intro g5 g6))))))
   have hti:l[k].its.length ≤ 1048576:=by omega
   have hkz2:l[k].its.length + kz n l[k].kids ≤ 1048576:=by omega
   obtain ⟨y,hy⟩:∃ y,y = z + 5 * (kz (n + 1) (l.take k):Int):=⟨_,rfl⟩
   rw [← hy]
   have hyb:0 ≤ y ∧ y + 5 * (1 + (l[k].its.length:Int) + (kz n l[k].kids:Int)) ≤ 1099511627776:=by omega
   have HY:=hid hy
   clear hy hcs hcs0 g0 g1 g2 g3 g4 g5 g6 hIO hITR hK2 ht2 hnx hle
   go_upto_region 14 with fail
   refine wp_world (fun X => Mf lo wk.heap.size w0 X) ?_ (fun W5 HM5 => ?_)
   ·obtain ⟨g0,g1,g2,g3,g4,g5,g6⟩:=HG.out
    exact ((((HM.out.set g0 (fun _ _ _ => by simp) hl hb _).set g1 (fun _ _ _ => by simp) hl hb _).set g2 (fun _ _ _ => by simp) hl hb _).set g3 (fun _ _ _ => by simp) hl hb _).set g4 (fun _ _ _ => by simp) hl hb _
   clear q0 q1 q2 q3 q4 q5 q6 f0 f1 f2 f3 f4
   have q5:=HM5.sl _ _ _ _ _ HG.out.2.2.2.2.2.1
   have H5:=hid HM5
   clear HM5
   go_wp2_with fail
   refine (mark_items bi l[k].its.length l[k].its.length (y + 1 + 1 + 1 + 1 + 1) W5 hti ⟨by omega,by omega⟩ (H5.out.there (by omega) HTI.out)).mono ?_
   rintro e W6 ⟨rfl,hS,_,_⟩
   have H6:=hid (H5.out.sets hS HIT.out hl1 hbi)
   clear hS q5
   have q6:=H6.out.sl _ _ _ _ _ HG.out.2.2.2.2.2.2
   go_wp2_with fail
   refine (HIH.out (y + 1 + 1 + 1 + 1 + 1 + 5 * (l[k].its.length:Int)) W6 ⟨by omega,by omega⟩ H6.out).mono ?_
   rintro e W7 ⟨rfl,hM7⟩
   have H7:=hid hM7
   clear hM7 q6
   go_wp2_with fail
   go_roundw
   case rel =>
    have hy:=HY.out
    have hnx:=HNX.out
    rw [ksz_kz] at hnx
    exact ⟨k + 1,by go_num,by congr 1;rw [hnx];omega,by omega,hid H7.out⟩
   case measure => simp [intOf];omega
  ·have c1:¬ (k:Int) < (l.length:Int):=by omega
   have hkn:l.take k = l:=List.take_of_length_le (by omega)
   go_wp2_with fail
   go_ret
   exact ⟨by first | rw [hkn];rfl | (simp only [hkn];rfl) | (show Ending.returned (.int .i64 (z + 5 * (kz n (l.take k):Int))) = _;rw [hkn]),HM.out⟩
theorem mark_knots (lo:Nat) (wk w0:World) (H0:Below wk.heap.size wk w0) (n:Nat):∀ (l:List KT) (bk c:Nat) (z:Int) (w:World),KdO lo n wk bk l → bk < wk.heap.size → lo ≤ bk → wk.there bk 0 (l.length * 7) → kz n l ≤ 1048576 → 0 ≤ z ∧ z + 5 * (kz n l:Int) ≤ 1099511627776 → Mf lo wk.heap.size w0 w → Calls Tryz.prog 53 #[.slice (some ⟨bk,0,none⟩) l.length c,.int .i64 z] w fun e w' => e = .returned (.int .i64 (z + 5 * (kz n l:Int))) ∧ Mf lo wk.heap.size w0 w':=by
 induction n with
 | zero => exact fun l bk c z w => mark_step lo 0 wk w0 H0 (fun n' e => by omega) l bk c z w
 | succ n IH =>
  refine fun l bk c z w => mark_step lo (n + 1) wk w0 H0 (fun n' e => ?_) l bk c z w
  have e':n' = n:=by omega
  subst e'
  exact IH
theorem mark_knot (lo n:Nat) (t:KT) (ia ka:Option Addr) (wk w0:World) (hk:Kn lo n wk ia ka t) (hz:ksz n t ≤ 1048576) (H0:Below wk.heap.size wk w0):Calls Tryz.prog 13 #[kvo t ia ka,.int .i64 1] w0 fun e w' => e = .returned (.int .i64 (1 + 5 * (ksz n t:Int))) ∧ Mf lo wk.heap.size w0 w':=by
 cases n with
 | zero => exact hk.elim
 | succ n =>
 obtain ⟨bi,bk,rfl,rfl,hl1,hl2,hIO,hb2,ht2,hK2⟩:=hk
 obtain ⟨b0,b1,b2,b3,b4,ni,nk,hf⟩:=kf t
 rw [ksz_kz] at hz ⊢
 have hs0:=H0.size
 have hbi:bi < wk.heap.size:=hIO.1
 have HIT:=hid (it_cells (hIO.below H0).r)
 have HTI:=hid (there_below hIO.2.2 hIO.1 H0)
 have CM:=hid (fun (z:Int) (w:World) (h1:0 ≤ z ∧ z + 5 * (kz n t.kids:Int) ≤ 1099511627776) (h2:Mf lo wk.heap.size w0 w) => mark_knots lo wk w0 H0 n t.kids bk t.kids.length z w hK2 hb2 hl2 ht2 (by omega) h1 h2)
 have CI:=hid (fun (w:World) (h:w.there bi 0 (t.its.length * 5)) => mark_items bi t.its.length t.its.length 1 w (by omega) ⟨by omega,by omega⟩ h)
 rw [kvo_of hf]
 rw [hf.its] at HIT HTI CI hz ⊢
 rw [hf.kids] at CM
 clear hK2 ht2 hIO hf
 have hB:=balloc (Below.refl w0.heap.size w0) (.cells #[.int .i64 b0,.int .i64 b1,.int .i64 b2,.int .i64 b3,.bool b4,.slice (some ⟨bi,0,none⟩) ni ni,.slice (some ⟨bk,0,none⟩) nk nk] 35)
 have gT:=new_alloc w0 w0.heap.size (.cells #[.int .i64 b0,.int .i64 b1,.int .i64 b2,.int .i64 b3,.bool b4,.slice (some ⟨bi,0,none⟩) ni ni,.slice (some ⟨bk,0,none⟩) nk nk] 35) rfl
 have HT:=hid (there_below HTI.out (by omega) hB)
 have HM0:=hid (Mf.of_below (lo:=lo) (hi:=wk.heap.size) hB)
 have HGT:=hid gT
 clear hB gT
 go_enter Tryz.func13,Tryz.ntmps13
 go_wp2_with fail
 generalize w0.alloc (.cells #[.int .i64 b0,.int .i64 b1,.int .i64 b2,.int .i64 b3,.bool b4,.slice (some ⟨bi,0,none⟩) ni ni,.slice (some ⟨bk,0,none⟩) nk nk] 35) = v0 at *
 refine (CI.out _ HT.out).mono ?_
 rintro e v1 ⟨rfl,hS,_,_⟩
 have HM1:=hid (HM0.out.sets hS HIT.out hl1 hbi)
 have hg1:=(hS.grown.1.block _ (lt_of_heap HGT.out) (by simp;omega)).trans HGT.out
 obtain ⟨a0,a1,a2,a3,a4,a5,a6,_,_,_,_,_,_,_⟩:=cell7k hg1
 clear hS hg1 CI HM0 HT
 go_wp2_with fail
 refine (CM.out _ _ ⟨by omega,by omega⟩ HM1.out).mono ?_
 rintro e v2 ⟨rfl,hM2⟩
 have HM2:=hid hM2
 clear hM2 a0 a1 a2 a3 a4 a5 a6
 go_wp2_with fail
 go_ret
 exact ⟨by rw [show (1:Int) + 5 * ((ni + kz n t.kids:Nat):Int) = 1 + 5 * (ni:Int) + 5 * (kz n t.kids:Int) by omega];rfl,HM2.out⟩
end Go.Proofs.YtjahlofahjgdbaaGreat
namespace Go.Proofs.YtjahlofahjgdbaaGreat
open Go.RowKit
def mit:Int → List It → List It
 | _,[] => []
 | z,_ :: r => (z,z + 1,z + 2,z + 3,z + 4) :: mit (z + 5) r
theorem mit_len:∀ (l:List It) (z:Int),(mit z l).length = l.length
 | [],_ => rfl
 | _ :: r,z => by show (mit (z + 5) r).length + 1 = _;rw [mit_len r];rfl
theorem mit_get:∀ (l:List It) (z:Int) (j:Nat) (h:j < (mit z l).length),(mit z l)[j] = (z + 5 * (j:Int),z + 5 * (j:Int) + 1,z + 5 * (j:Int) + 2,z + 5 * (j:Int) + 3,z + 5 * (j:Int) + 4)
 | [],_,j,h => by cases h
 | _ :: r,z,0,h => by show (z,z + 1,z + 2,z + 3,z + 4) = _;simp
 | _ :: r,z,j + 1,h => by
  show (mit (z + 5) r)[j]'(by simpa [mit] using h) = _
  rw [mit_get r (z + 5) j]
  rw [show z + 5 + 5 * (j:Int) = z + 5 * ((j + 1:Nat):Int) by omega]
theorem mit_idem:∀ (l:List It) (z:Int),mit z (mit z l) = mit z l
 | [],_ => rfl
 | _ :: r,z => by show (z,z + 1,z + 2,z + 3,z + 4) :: mit (z + 5) (mit (z + 5) r) = _;rw [mit_idem r];rfl
def mkh (z:Int) (t:KT):KT:=.mk (z,z + 1,z + 1 + 1,z + 1 + 1 + 1) ((z + 1 + 1 + 1 + 1) % 3 == 0) t.its t.kids
def mks (f:Int → KT → KT) (sz:KT → Nat):Int → List KT → List KT
 | _,[] => []
 | z,k :: r => mkh z (f (z + 5) k) :: mks f sz (z + 5 + 5 * (sz k:Int)) r
def mkt:Nat → Int → KT → KT
 | 0,_,t => t
 | n + 1,z,t => .mk t.box t.lf (mit z t.its) (mks (mkt n) (ksz n) (z + 5 * (t.its.length:Int)) t.kids)
theorem mks_len (f:Int → KT → KT) (sz:KT → Nat):∀ (l:List KT) (z:Int),(mks f sz z l).length = l.length
 | [],_ => rfl
 | k :: r,z => by show (mks f sz _ r).length + 1 = _;rw [mks_len f sz r];rfl
theorem ksz_mkh (n:Nat) (z:Int) (t:KT):ksz n (mkh z t) = ksz n t:=by
 cases n <;> rfl
theorem mkt_mkh (n:Nat) (z y:Int) (t:KT):mkt n z (mkh y t) = mkh y (mkt n z t):=by
 cases n <;> rfl
theorem mkh_mkh (z y:Int) (t:KT):mkh z (mkh y t) = mkh z t:=rfl
theorem mks_ksz (n:Nat) (IH:∀ z t,ksz n (mkt n z t) = ksz n t):∀ (l:List KT) (z:Int),((mks (mkt n) (ksz n) z l).map (ksz n)).sum = (l.map (ksz n)).sum
 | [],_ => rfl
 | k :: r,z => by
  show (ksz n (mkh z (mkt n (z + 5) k)) :: (mks (mkt n) (ksz n) _ r).map (ksz n)).sum = _
  rw [List.sum_cons,ksz_mkh,IH,mks_ksz n IH r]
  rfl
theorem ksz_mkt:∀ (n:Nat) (z:Int) (t:KT),ksz n (mkt n z t) = ksz n t
 | 0,_,_ => rfl
 | n + 1,z,t => by
  show (mit z t.its).length + (mks (mkt n) (ksz n) _ t.kids).length + ((mks (mkt n) (ksz n) _ t.kids).map (ksz n)).sum = t.its.length + t.kids.length + (t.kids.map (ksz n)).sum
  rw [mit_len,mks_len,mks_ksz n (ksz_mkt n)]
theorem mks_idem (n:Nat) (IH:∀ z t,mkt n z (mkt n z t) = mkt n z t):∀ (l:List KT) (z:Int),mks (mkt n) (ksz n) z (mks (mkt n) (ksz n) z l) = mks (mkt n) (ksz n) z l
 | [],_ => rfl
 | k :: r,z => by
  show mkh z (mkt n (z + 5) (mkh z (mkt n (z + 5) k))) :: mks (mkt n) (ksz n) (z + 5 + 5 * (ksz n (mkh z (mkt n (z + 5) k)):Int)) (mks (mkt n) (ksz n) (z + 5 + 5 * (ksz n k:Int)) r) = _
  rw [mkt_mkh,mkh_mkh,IH,ksz_mkh,ksz_mkt,mks_idem n IH r]
  rfl
theorem mkt_idem:∀ (n:Nat) (z:Int) (t:KT),mkt n z (mkt n z t) = mkt n z t
 | 0,_,_ => rfl
 | n + 1,z,t => by
  show KT.mk t.box t.lf (mit z (mit z t.its)) (mks (mkt n) (ksz n) (z + 5 * ((mit z t.its).length:Int)) (mks (mkt n) (ksz n) (z + 5 * (t.its.length:Int)) t.kids)) = _
  rw [mit_idem,mit_len,mks_idem n (mkt_idem n)]
  rfl
theorem kz_cons (n:Nat) (k:KT) (r:List KT):kz n (k :: r) = 1 + ksz n k + kz n r:=by
 unfold kz
 simp only [List.length_cons,List.map_cons,List.sum_cons]
 omega
theorem mks_get (n:Nat):∀ (l:List KT) (z:Int) (j:Nat) (h:j < (mks (mkt n) (ksz n) z l).length) (h':j < l.length),(mks (mkt n) (ksz n) z l)[j] = mkh (z + 5 * (kz n (l.take j):Int)) (mkt n (z + 5 * (kz n (l.take j):Int) + 5) l[j])
 | [],_,j,_,h => by cases h
 | k :: r,z,0,_,_ => by
  have e:z + 5 * (kz n ((k :: r).take 0):Int) = z:=by simp [kz]
  rw [e]
  rfl
 | k :: r,z,j + 1,h,h' => by
  show (mks (mkt n) (ksz n) (z + 5 + 5 * (ksz n k:Int)) r)[j]'(by simpa [mks] using h) = mkh _ (mkt n _ (r[j]'(by simpa using h')))
  rw [mks_get n r _ j _ (by simpa using h')]
  have e:z + 5 + 5 * (ksz n k:Int) + 5 * (kz n (r.take j):Int) = z + 5 * (kz n ((k :: r).take (j + 1)):Int):=by
   rw [List.take_succ_cons,kz_cons];omega
  rw [e]
theorem mks_take (n:Nat):∀ (l:List KT) (z:Int) (j:Nat),(mks (mkt n) (ksz n) z l).take j = mks (mkt n) (ksz n) z (l.take j)
 | [],_,j => by simp [mks]
 | k :: r,z,0 => by simp [mks]
 | k :: r,z,j + 1 => by
  show (mkh z (mkt n (z + 5) k) :: mks (mkt n) (ksz n) (z + 5 + 5 * (ksz n k:Int)) r).take (j + 1) = mkh z (mkt n (z + 5) k) :: mks (mkt n) (ksz n) (z + 5 + 5 * (ksz n k:Int)) (r.take j)
  rw [List.take_succ_cons,mks_take n r]
theorem fix_at {n:Nat} {l:List KT} {z:Int} (h:mks (mkt n) (ksz n) z l = l) {j:Nat} (hj:j < l.length):l[j] = mkh (z + 5 * (kz n (l.take j):Int)) (mkt n (z + 5 * (kz n (l.take j):Int) + 5) l[j]):=by
 have hj2:j < (mks (mkt n) (ksz n) z l).length:=by rw [mks_len];exact hj
 have e:=mks_get n l z j hj2 hj
 have e2:(mks (mkt n) (ksz n) z l)[j] = l[j]:=by congr 1
 rw [e2] at e
 exact e
theorem Sets.cells {b N:Nat} {w w':World} (h:Sets b N w w') {t:TypeId} {p:Nat × Nat}:∀ {cur:Array Value},w.heap[b]? = some (.cells cur t p) → ∃ cur',w'.heap[b]? = some (.cells cur' t p) ∧ cur'.size = cur.size:=by
 induction h with
 | refl => exact fun e => ⟨_,e,rfl⟩
 | set h ho v ih =>
  intro cur e
  obtain ⟨cur',e1,e2⟩:=ih e
  exact ⟨_,set_at e1,by simpa using e2⟩
theorem own_of_cells {w:World} {lo g c n sz:Nat} {t:TypeId} {cur:Array Value} {xs:List Value} (hg:w.heap[g]? = some (.cells cur t (0,0))) (hlo:lo ≤ g) (hnc:n ≤ c) (hmx:c ≤ maxLen) (hsz:cur.size = c * sz) (hx:xs.length = n * sz) (hcell:∀ j u,xs[j]? = some u → w.cell? ⟨g,j,none⟩ = some u):w.ownsRow lo t sz (.slice (some ⟨g,0,none⟩) n c) n xs:=by
 refine ⟨hx,.inr ⟨g,c,cur,rfl,hlo,hg,hnc,hmx,hsz,?_⟩⟩
 have hle:n * sz ≤ c * sz:=Nat.mul_le_mul_right _ hnc
 apply List.ext_getElem?
 intro i
 by_cases hi:i < n * sz
 ·rw [List.getElem?_take_of_lt hi]
  have hi':i < xs.length:=by omega
  have h1:=hcell i _ (List.getElem?_eq_getElem hi')
  simp only [World.cell?,hg] at h1
  rw [List.getElem?_eq_getElem hi']
  simpa using h1
 ·rw [List.getElem?_eq_none (by rw [List.length_take];omega),List.getElem?_eq_none (by omega)]
theorem mark_items0 (z:Int) (w:World):Calls Tryz.prog 52 #[.slice none 0 0,.int .i64 z] w fun e w' => e = .returned (.int .i64 z) ∧ w' = w:=by
 go_enter Tryz.func52,Tryz.ntmps52
 go_wp2_with fail
 go_loopw [1,5] (fun t1 t5 wr => t5 = .int .i64 0 ∧ t1 = .int .i64 z ∧ wr = w) (fun _ _ _ => 0)
 case atStart => exact ⟨rfl,rfl,rfl⟩
 case round =>
  obtain ⟨rfl,rfl,rfl⟩:=hrel
  go_wp2_with fail
  go_ret
  exact ⟨rfl,rfl⟩
theorem mark_itemsO (lo c:Nat) (a:Option Addr) (l:List It) (z:Int) (w:World) (hn:l.length ≤ 1048576) (hz:0 ≤ z ∧ z ≤ 1099511627776) (h:w.ownsRow lo 40 5 (.slice a l.length c) l.length (flI l)):Calls Tryz.prog 52 #[.slice a l.length c,.int .i64 z] w fun e w' => e = .returned (.int .i64 (z + 5 * (l.length:Int))) ∧ w'.ownsRow lo 40 5 (.slice a l.length c) l.length (flI (mit z l)) ∧ Fr (hb a) w w':=by
 rcases h.2 with ⟨q,q'⟩ | ⟨g,c',cur,e,q1,q2,q3,q4,q5,q6⟩
 ·have hl:l = []:=List.length_eq_zero_iff.1 q'
  subst hl
  have hq:(Value.slice a 0 c:Value) = .slice none 0 0:=q
  injection hq with ha _ hc
  subst ha hc
  refine (mark_items0 z w).mono ?_
  rintro e w' ⟨rfl,rfl⟩
  exact ⟨by simp,h,Fr.refl _ _⟩
 ·cases e
  have ht:w.there g 0 (l.length * 5):=row_there h
  refine (mark_items g l.length c z w hn hz ht).mono ?_
  rintro e w' ⟨rfl,hS,hM,_⟩
  obtain ⟨cur',e1,e2⟩:=hS.cells q2
  obtain ⟨hgr,hss⟩:=hS.grown
  refine ⟨rfl,own_of_cells e1 q1 q3 q4 (by rw [e2];exact q5) (by rw [flI_len,mit_len]) (fun j u hj => ?_),⟨hgr.os,hgr.tape,hgr.output,hgr.size,fun k hk hn => hgr.block k hk (fun e => hn ?_)⟩⟩
  ·refine flI_cell (mit z l) 0 (fun j hj => ?_) j u hj |> fun h => by rwa [Nat.zero_add] at h
   rw [mit_get,Nat.zero_add]
   exact hM j (by rw [mit_len] at hj;exact hj)
  ·have e':some g = some k:=by first | exact e.symm | exact e
   cases e'
   exact List.mem_singleton.2 rfl
end Go.Proofs.YtjahlofahjgdbaaGreat
