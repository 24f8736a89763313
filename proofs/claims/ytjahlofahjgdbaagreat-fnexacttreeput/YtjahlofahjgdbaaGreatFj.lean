import Derived.Test.YtjahlofahjgdbaaGreatJ6
set_option maxRecDepth 100000
set_option maxHeartbeats 4000000
set_option linter.unusedSimpArgs false
set_option linter.unusedVariables false
namespace Go.Proofs.YtjahlofahjgdbaaGreat
open Go.RowKit
theorem dpt_more {f cur:Nat} {t:KT} (hl:t.lf = false) (h:0 < t.kids.length):dpt (f + 1) t cur = dpt f t.kids[0] (cur + 1):=by
 obtain ⟨b,l,i,ks⟩:=t
 cases ks with
 | nil => exact absurd h (by simp [KT.kids])
 | cons k r =>
  have:l = false:=hl
  subst this
  rfl
theorem dpt_stop {f cur:Nat} {t:KT} (h:t.lf = true ∨ t.kids.length = 0):dpt f t cur = cur:=by
 obtain ⟨b,l,i,ks⟩:=t
 cases f with
 | zero =>
  unfold dpt
  rw [if_neg]
  rcases h with h | h
  ·have:l = true:=h
   subst this;simp [KT.lf]
  ·have:ks = []:=List.length_eq_zero_iff.1 h
   subst this;simp [KT.kids]
 | succ f =>
  cases ks with
  | nil => rfl
  | cons k r =>
   rcases h with h | h
   ·have:l = true:=h
    subst this;rfl
   ·exact absurd h (by simp [KT.kids])
theorem dpt_deep {cur:Nat} {t:KT} (hl:t.lf = false) (h:0 < t.kids.length):dpt 0 t cur = 0:=by
 unfold dpt
 rw [if_pos]
 rw [hl]
 have:t.kids ≠ []:=fun e => by rw [e] at h;exact absurd h (by simp)
 simp [this]
theorem set7k {w:World} {B:Nat} {o0 o1 o2 o3 o4 o5 o6:Value} {t:TypeId} (gz:w.heap[B]? = some (.cells #[o0,o1,o2,o3,o4,o5,o6] t (0,0))) (a b c d e f g:Value) :
  (((((((w.setCell ⟨B,0,none⟩ a).setCell ⟨B,1,none⟩ b).setCell ⟨B,2,none⟩ c).setCell ⟨B,3,none⟩ d).setCell ⟨B,4,none⟩ e).setCell ⟨B,5,none⟩ f).setCell ⟨B,6,none⟩ g).heap[B]? = some (.cells #[a,b,c,d,e,f,g] t (0,0)):=by
 have g0:(w.setCell ⟨B,0,none⟩ a).heap[B]? = some (.cells #[a,o1,o2,o3,o4,o5,o6] t (0,0)):=set_at gz
 have g1:((w.setCell ⟨B,0,none⟩ a).setCell ⟨B,1,none⟩ b).heap[B]? = some (.cells #[a,b,o2,o3,o4,o5,o6] t (0,0)):=set_at g0
 generalize (w.setCell ⟨B,0,none⟩ a).setCell ⟨B,1,none⟩ b = w1 at *
 have g2:(w1.setCell ⟨B,2,none⟩ c).heap[B]? = some (.cells #[a,b,c,o3,o4,o5,o6] t (0,0)):=set_at g1
 generalize w1.setCell ⟨B,2,none⟩ c = w2 at *
 have g3:(w2.setCell ⟨B,3,none⟩ d).heap[B]? = some (.cells #[a,b,c,d,o4,o5,o6] t (0,0)):=set_at g2
 generalize w2.setCell ⟨B,3,none⟩ d = w3 at *
 have g4:(w3.setCell ⟨B,4,none⟩ e).heap[B]? = some (.cells #[a,b,c,d,e,o5,o6] t (0,0)):=set_at g3
 generalize w3.setCell ⟨B,4,none⟩ e = w4 at *
 have g5:(w4.setCell ⟨B,5,none⟩ f).heap[B]? = some (.cells #[a,b,c,d,e,f,o6] t (0,0)):=set_at g4
 generalize w4.setCell ⟨B,5,none⟩ f = w5 at *
 exact set_at g5
structure KF (s:KT) (b0 b1 b2 b3:Int) (b4:Bool) (ni nk:Nat):Prop where
 x0:s.box.1 = b0
 x1:s.box.2.1 = b1
 x2:s.box.2.2.1 = b2
 x3:s.box.2.2.2 = b3
 lf:s.lf = b4
 its:s.its.length = ni
 kids:s.kids.length = nk
theorem kf (s:KT):∃ (b0 b1 b2 b3:Int) (b4:Bool) (ni nk:Nat),KF s b0 b1 b2 b3 b4 ni nk:=⟨_,_,_,_,_,_,_,rfl,rfl,rfl,rfl,rfl,rfl,rfl⟩
theorem kvo_of {s:KT} {b0 b1 b2 b3:Int} {b4:Bool} {ni nk:Nat} (h:KF s b0 b1 b2 b3 b4 ni nk) (ia ka:Option Addr):kvo s ia ka = .agg #[.int .i64 b0,.int .i64 b1,.int .i64 b2,.int .i64 b3,.bool b4,.slice ia ni ni,.slice ka nk nk]:=by
 obtain ⟨rfl,rfl,rfl,rfl,rfl,rfl,rfl⟩:=h
 rfl
theorem Cs.kf {w:World} {b o:Nat} {s:KT} {b0 b1 b2 b3:Int} {b4:Bool} {ni nk:Nat} {ia ka:Option Addr} (hf:KF s b0 b1 b2 b3 b4 ni nk) (h:Cs w b o (ck s ia s.its.length ka s.kids.length)):w.cell? ⟨b,o,none⟩ = some (.int .i64 b0) ∧ w.cell? ⟨b,o + 1,none⟩ = some (.int .i64 b1) ∧ w.cell? ⟨b,o + 2,none⟩ = some (.int .i64 b2) ∧ w.cell? ⟨b,o + 3,none⟩ = some (.int .i64 b3) ∧ w.cell? ⟨b,o + 4,none⟩ = some (.bool b4) ∧ w.cell? ⟨b,o + 5,none⟩ = some (.slice ia ni ni) ∧ w.cell? ⟨b,o + 6,none⟩ = some (.slice ka nk nk):=by
 obtain ⟨rfl,rfl,rfl,rfl,rfl,rfl,rfl⟩:=hf
 exact h.knot
def DP (lo:Nat) (w:World) (t:KT) (f:Nat) (b0 b1 b2 b3:Int) (b4:Bool) (ni nk:Nat) (ja jk:Option Addr):Prop:=∃ s mm,dpt 7 t 1 = dpt f s (8 - f) ∧ Kn lo mm w ja jk s ∧ KF s b0 b1 b2 b3 b4 ni nk
theorem dp_start {m lo:Nat} {w:World} {t:KT} {b0 b1 b2 b3:Int} {b4:Bool} {ni nk:Nat} {ia ka:Option Addr} (h:Kn lo m w ia ka t) (hf:KF t b0 b1 b2 b3 b4 ni nk):DP lo w t 7 b0 b1 b2 b3 b4 ni nk ia ka:=by
 refine ⟨t,m,?_,h,hf⟩
 rw [show 8 - 7 = 1 by decide]
theorem DP.deep {lo:Nat} {w:World} {t:KT} {b0 b1 b2 b3:Int} {ni nk:Nat} {ja jk:Option Addr} (h:DP lo w t 0 b0 b1 b2 b3 false ni nk ja jk) (hk:0 < nk):dpt 7 t 1 = 0:=by
 obtain ⟨s,mm,h1,h2,h3⟩:=h
 rw [h1];exact dpt_deep h3.lf (by rw [h3.kids];exact hk)
theorem DP.stop {lo:Nat} {w:World} {t:KT} {f:Nat} {b0 b1 b2 b3:Int} {b4:Bool} {ni nk:Nat} {ja jk:Option Addr} (h:DP lo w t f b0 b1 b2 b3 b4 ni nk ja jk) (hk:b4 = true ∨ nk = 0):dpt 7 t 1 = 8 - f:=by
 obtain ⟨s,mm,h1,h2,h3⟩:=h
 rw [h1];exact dpt_stop (by rw [h3.lf,h3.kids];exact hk)
theorem DP.next {lo:Nat} {w:World} {t:KT} {f:Nat} {b0 b1 b2 b3:Int} {ni nk:Nat} {ja jk:Option Addr} (h:DP lo w t (f + 1) b0 b1 b2 b3 false ni nk ja jk) (hf:f + 1 ≤ 7) (hk:0 < nk):∃ bk,jk = some ⟨bk,0,none⟩ ∧ bk < w.heap.size ∧ ∃ (c0 c1 c2 c3:Int) (c4:Bool) (mi mk:Nat) (ja' jk':Option Addr),(∀ w',Below w.heap.size w w' → w'.cell? ⟨bk,0,none⟩ = some (.int .i64 c0) ∧ w'.cell? ⟨bk,1,none⟩ = some (.int .i64 c1) ∧ w'.cell? ⟨bk,2,none⟩ = some (.int .i64 c2) ∧ w'.cell? ⟨bk,3,none⟩ = some (.int .i64 c3) ∧ w'.cell? ⟨bk,4,none⟩ = some (.bool c4) ∧ w'.cell? ⟨bk,5,none⟩ = some (.slice ja' mi mi) ∧ w'.cell? ⟨bk,6,none⟩ = some (.slice jk' mk mk)) ∧ DP lo w t f c0 c1 c2 c3 c4 mi mk ja' jk':=by
 obtain ⟨s,mm,h1,h2,h3⟩:=h
 cases mm with
 | zero => exact h2.elim
 | succ mm =>
  obtain ⟨bi,bk,e1,e2,_,_,_,h6,_,h8⟩:=h2
  have hk':0 < s.kids.length:=by rw [h3.kids];exact hk
  obtain ⟨ja',jk',q1,q2⟩:=h8 0 hk'
  obtain ⟨c0,c1,c2,c3,c4,mi,mk,hf'⟩:=kf s.kids[0]
  refine ⟨bk,e2,h6,c0,c1,c2,c3,c4,mi,mk,ja',jk',fun w' hb => ?_,s.kids[0],mm,?_,q2,hf'⟩
  ·have:=Cs.kf hf' (q1.below h6 hb)
   simp only [Nat.zero_mul,Nat.zero_add] at this
   exact this
  ·rw [h1,dpt_more h3.lf hk',show 8 - (f + 1) + 1 = 8 - f by omega]
theorem impl_depth (m lo:Nat) (t:KT) (ia ka:Option Addr) (w:World) (h:Kn lo m w ia ka t):Calls Tryz.prog 65 #[kvo t ia ka] w fun e w' => e = .returned (.int .i64 (dpt 7 t 1)) ∧ Below w.heap.size w w':=by
 obtain ⟨b0,b1,b2,b3,b4,ni,nk,hf⟩:=kf t
 rw [kvo_of hf]
 have HD:=hid (dp_start h hf)
 clear h hf
 generalize hr:dpt 7 t 1 = r
 have HR:=hid hr
 clear hr
 have gT:=hid (new_alloc w w.heap.size (.cells #[.int .i64 b0,.int .i64 b1,.int .i64 b2,.int .i64 b3,.bool b4,.slice ia ni ni,.slice ka nk nk] 35) rfl)
 have B0:=hid (balloc (Below.refl w.heap.size w) (.cells #[.int .i64 b0,.int .i64 b1,.int .i64 b2,.int .i64 b3,.bool b4,.slice ia ni ni,.slice ka nk nk] 35))
 go_enter Tryz.func65,Tryz.ntmps65
 go_wp2_with fail
 go_loopw [3] (fun t3 wr => ∃ (f d:Nat) (b0 b1 b2 b3:Int) (b4:Bool) (ni nk:Nat) (ja jk:Option Addr),t3 = .int .i64 (d:Int) ∧ d + f = 8 ∧ f ≤ 7 ∧ Hid (DP lo w t f b0 b1 b2 b3 b4 ni nk ja jk) ∧ wr.heap[w.heap.size]? = some (.cells #[.int .i64 b0,.int .i64 b1,.int .i64 b2,.int .i64 b3,.bool b4,.slice ja ni ni,.slice jk nk nk] 35 (0,0)) ∧ Below w.heap.size w wr) (fun t3 _ => 8 - (intOf t3).toNat)
 case atStart => exact ⟨7,1,b0,b1,b2,b3,b4,ni,nk,ia,ka,rfl,rfl,Nat.le_refl _,HD,gT.out,B0.out⟩
 case round =>
  clear gT B0 HD
  obtain ⟨f,d,c0,c1,c2,c3,c4,mi,mk,ja,jk,rfl,hdf,hf,HD,hgT,hB⟩:=hrel
  have gT:=hid hgT
  have B0:=hid hB
  clear hgT hB
  obtain ⟨a0,a1,a2,a3,a4,a5,a6,f0,f1,f2,f3,f4,f5,f6⟩:=cell7k gT.out
  cases c4
  ·by_cases hk:0 < mk
   ·have hkI:(0:Int) < (mk:Int):=by omega
    cases f with
    | zero =>
     have HQ:=hid (HR.out.symm.trans (HD.out.deep hk))
     have hd8:d = 8:=by omega
     subst hd8
     clear hdf hf
     go_wp2_with fail
     go_ret
     rw [HQ.out]
     exact ⟨rfl,B0.out⟩
    | succ f =>
     obtain ⟨bk,rfl,hbk,e0,e1,e2,e3,e4,ki,kk,ja',jk',hcs,hdp⟩:=HD.out.next hf hk
     obtain ⟨z0,z1,z2,z3,z4,z5,z6⟩:=hcs wr B0.out
     have HDP:=hid hdp
     have hne:¬ (d:Int) = 8:=by omega
     have HDF:=hid hdf
     have HF:=hid hf
     have hd7:d ≤ 7:=by omega
     have hwd:IntKind.i64.wrap ((d:Int) + 1) = ((d + 1:Nat):Int):=by rw [IntKind.wrap_i64];omega
     clear hcs hdp HD hdf hf hk hbk HR
     go_wp2_with fail
     go_roundw
     case rel =>
      have GT2:=hid (set7k gT.out (.int .i64 e0) (.int .i64 e1) (.int .i64 e2) (.int .i64 e3) (.bool e4) (.slice ja' ki ki) (.slice jk' kk kk))
      have HB2:Hid (Below w.heap.size w (((((((wr.setCell ⟨w.heap.size,0,none⟩ (.int .i64 e0)).setCell ⟨w.heap.size,1,none⟩ (.int .i64 e1)).setCell ⟨w.heap.size,2,none⟩ (.int .i64 e2)).setCell ⟨w.heap.size,3,none⟩ (.int .i64 e3)).setCell ⟨w.heap.size,4,none⟩ (.bool e4)).setCell ⟨w.heap.size,5,none⟩ (.slice ja' ki ki)).setCell ⟨w.heap.size,6,none⟩ (.slice jk' kk kk))):=hid (setL_below [.int .i64 e0,.int .i64 e1,.int .i64 e2,.int .i64 e3,.bool e4,.slice ja' ki ki,.slice jk' kk kk] w wr w.heap.size 0 _ B0.out (Nat.le_refl _))
      exact ⟨f,d + 1,e0,e1,e2,e3,e4,ki,kk,ja',jk',by go_num,by have:=HDF.out;omega,by have:=HF.out;omega,HDP,GT2.out,HB2.out⟩
     case measure => simp [intOf];omega
   ·have hkI:¬ (0:Int) < (mk:Int):=by omega
    have HQ:=hid (HR.out.symm.trans (HD.out.stop (.inr (by omega))))
    have hdd:8 - f = d:=by omega
    rw [hdd] at HQ
    clear hdd
    go_wp2_with fail
    go_ret
    rw [HQ.out]
    exact ⟨rfl,B0.out⟩
  ·have HQ:=hid (HR.out.symm.trans (HD.out.stop (.inl rfl)))
   have hdd:8 - f = d:=by omega
   rw [hdd] at HQ
   clear hdd
   go_wp2_with fail
   go_ret
   rw [HQ.out]
   exact ⟨rfl,B0.out⟩
end Go.Proofs.YtjahlofahjgdbaaGreat
