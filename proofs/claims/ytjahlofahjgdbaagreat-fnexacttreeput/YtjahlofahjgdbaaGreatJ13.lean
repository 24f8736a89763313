/- Texts of stores, joined: Jy, Jv, Jw, Jz. -/
import Derived.Test.YtjahlofahjgdbaaGreatJ12
set_option maxRecDepth 100000
set_option maxHeartbeats 1000000
set_option linter.unusedSimpArgs false
set_option linter.unusedVariables false
namespace Go.Proofs.YtjahlofahjgdbaaGreat
open Go.RowKit
theorem len_small (n:Nat) (hn:n ≤ 5) (w:World):Calls Tryz.prog 112 #[.int .u64 n] w fun e w' => (∃ k:Int,e = .returned (.int .i64 k)) ∧ w' = w:=by
 obtain rfl | rfl | rfl | rfl | rfl | rfl:n = 0 ∨ n = 1 ∨ n = 2 ∨ n = 3 ∨ n = 4 ∨ n = 5:=by omega
 all_goals
  go_enter Tryz.func112,Tryz.ntmps112
  go_wp2_with (go_at_call 142;go_in)
  go_ret
  exact ⟨⟨_,rfl⟩,rfl⟩
theorem pdq_items (n c:Nat) (a:Option Addr) (lim:Int) (hn:n ≤ 5) (w:World) (Q:Ending → World → Prop) (H:Calls Tryz.prog 153 #[.slice a n c,.int .i64 0,.int .i64 n,.func (.func 121) #[] #[]] w fun e w' => e = .returned (.tuple #[]) ∧ Q (.returned (.tuple #[])) w'):Calls Tryz.prog 143 #[.slice a n c,.int .i64 0,.int .i64 n,.int .i64 lim,.func (.func 121) #[] #[]] w Q:=by
 have h12:(n:Int) ≤ 12:=by omega
 have HH:=hid H
 clear H
 go_enter Tryz.func143,Tryz.ntmps143
 go_wp2_with fail
 go_loopw [1,2,3,10,11] (fun t1 t2 t3 t10 t11 wr => t1 = .int .i64 0 ∧ t2 = .int .i64 n ∧ wr = w) (fun _ _ _ _ _ _ => 0)
 case atStart => exact ⟨rfl,rfl,rfl⟩
 case round =>
  obtain ⟨rfl,rfl,rfl⟩:=hrel
  go_wp2_with fail
  refine HH.out.mono ?_
  rintro e v ⟨rfl,hq⟩
  go_wp2_with fail
  go_end0
  exact hq
theorem sortf_items (n c:Nat) (a:Option Addr) (hn:n ≤ 5) (w:World) (Q:Ending → World → Prop) (H:Calls Tryz.prog 153 #[.slice a n c,.int .i64 0,.int .i64 n,.func (.func 121) #[] #[]] w fun e w' => e = .returned (.tuple #[]) ∧ Q (.returned (.tuple #[])) w'):Calls Tryz.prog 120 #[.slice a n c,.func (.func 121) #[] #[]] w fun e w' => e = .returned (.tuple #[]) ∧ Q e w':=by
 have HH:=hid H
 have HL:=hid (len_small n hn w)
 have hcv:IntKind.u64.wrap (n:Int) = (n:Int):=by rw [IntKind.wrap_u64] <;> omega
 clear H
 go_enter Tryz.func120,Tryz.ntmps120
 go_wp2_with fail
 refine HL.out.mono ?_
 rintro e v ⟨⟨k,rfl⟩,hv⟩
 replace hv:=hv.symm
 subst hv
 go_wp2_with fail
 refine (pdq_items n c a k hn _ (fun e w' => e = .returned (.tuple #[]) ∧ Q e w') (HH.out.mono ?_)).mono ?_
 ·rintro e v ⟨rfl,hq⟩
  exact ⟨rfl,rfl,hq⟩
 rintro e v ⟨rfl,hq⟩
 go_wp2_with fail
 go_end0
 exact ⟨rfl,hq⟩
theorem ins_items0 (c:Nat) (a:Option Addr) (w:World) (f:Value):Calls Tryz.prog 153 #[.slice a 0 c,.int .i64 0,.int .i64 0,f] w fun e w' => e = .returned (.tuple #[]) ∧ w' = w:=by
 go_enter Tryz.func153,Tryz.ntmps153
 go_wp2_with fail
 go_loopw [8] (fun ti wr => ti = .int .i64 1 ∧ wr = w) (fun ti _ => 0)
 case atStart => exact ⟨rfl,rfl⟩
 case round =>
  obtain ⟨rfl,rfl⟩:=hrel
  go_wp2_with fail
  go_end0
  exact ⟨rfl,rfl⟩
theorem ins_knots0 (c:Nat) (a:Option Addr) (w:World) (f:Value):Calls Tryz.prog 161 #[.slice a 0 c,.int .i64 0,.int .i64 0,f] w fun e w' => e = .returned (.tuple #[]) ∧ w' = w:=by
 go_enter Tryz.func161,Tryz.ntmps161
 go_wp2_with fail
 go_loopw [8] (fun ti wr => ti = .int .i64 1 ∧ wr = w) (fun ti _ => 0)
 case atStart => exact ⟨rfl,rfl⟩
 case round =>
  obtain ⟨rfl,rfl⟩:=hrel
  go_wp2_with fail
  go_end0
  exact ⟨rfl,rfl⟩
theorem sorts_knots (n c:Nat) (a:Option Addr) (hn:n ≤ 5) (w:World) (Q:Ending → World → Prop) (H:Calls Tryz.prog 161 #[.slice a n c,.int .i64 0,.int .i64 n,.func (.func 126) #[] #[]] w fun e w' => e = .returned (.tuple #[]) ∧ Q (.returned (.tuple #[])) w'):Calls Tryz.prog 125 #[.slice a n c,.func (.func 126) #[] #[]] w fun e w' => e = .returned (.tuple #[]) ∧ Q e w':=by
 have HH:=hid H
 clear H
 have h20:¬ (20:Int) ≤ (n:Int):=by omega
 have h20':¬ (20:Int) < (n:Int):=by omega
 go_enter Tryz.func125,Tryz.ntmps125
 go_wp2_with (go_at_call 145;go_in)
 go_loopw [7,8] (fun t7 t8 wr => t7 = .int .i64 0 ∧ t8 = .int .i64 20 ∧ wr = w) (fun _ _ _ => 0)
 case atStart => exact ⟨rfl,rfl,rfl⟩
 case round =>
  obtain ⟨rfl,rfl,rfl⟩:=hrel
  go_wp2_with fail
  refine HH.out.mono ?_
  rintro e v ⟨rfl,hq⟩
  go_wp2_with fail
  go_loopw [6,7,8] (fun t6 t7 t8 wr' => t6 = .int .i64 20 ∧ wr' = v) (fun _ _ _ _ => 0)
  case atStart => exact ⟨rfl,rfl⟩
  case round =>
   obtain ⟨rfl,rfl⟩:=hrel
   go_wp2_with fail
   go_end0
   exact ⟨rfl,hq⟩
def swp2 {α:Type} (l:List α) (k:Nat):List α:=match l[k]?,l[k + 1]? with
 | some x,some y => (l.set k y).set (k + 1) x
 | _,_ => l
theorem swp2_at {α:Type} {l:List α} {k:Nat} (h:k + 1 < l.length):swp2 l k = (l.set k l[k + 1]).set (k + 1) (l[k]'(by omega)):=by
 unfold swp2
 rw [List.getElem?_eq_getElem h,List.getElem?_eq_getElem (show k < l.length by omega)]
theorem swp2_app {α:Type} (A:List α) (y x:α) (R:List α):swp2 (A ++ y :: x :: R) A.length = A ++ x :: y :: R:=by
 unfold swp2
 rw [two_at0,two_at1]
 show ((A ++ y :: x :: R).set A.length x).set (A.length + 1) y = _
 rw [List.set_comm _ _ (by omega)]
 exact two_set A y x R
def srtd {α:Type} (lt:α → α → Bool) (l:List α) (i:Nat):List α:=isort lt (l.take i) ++ l.drop i
def InvK {α:Type} (lt:α → α → Bool) (l:List α) (i k:Nat) (l':List α):Prop:=(∃ (hi:i < l.length) (A B:List α),l' = A ++ l[i] :: (B ++ l.drop (i + 1)) ∧ A.length = k ∧ Ins lt l i l[i] A B) ∨ (l' = srtd lt l (i + 1) ∧ k ≤ i)
theorem InvK.start {α:Type} {lt:α → α → Bool} {l:List α} {i:Nat} (hi:i < l.length):InvK lt l i i (srtd lt l i):=by
 refine .inl ⟨hi,isort lt (l.take i),[],?_,?_,Ins.start lt l i _⟩
 ·rw [isort_on hi];rfl
 ·rw [isort_len,List.length_take];omega
theorem InvK.perm {α:Type} {lt:α → α → Bool} {l l':List α} {i k:Nat} (h:InvK lt l i k l'):l'.Perm l:=by
 have hs:∀ i,(srtd lt l i).Perm l:=fun i => by
  unfold srtd
  have:=(isort_perm lt (l.take i)).append_right (l.drop i)
  rwa [List.take_append_drop] at this
 rcases h with ⟨hi,A,B,e,_,h⟩ | ⟨e,_⟩
 ·rw [e]
  have h1:(A ++ l[i] :: (B ++ l.drop (i + 1))).Perm ((A ++ B) ++ l.drop i):=by
   rw [List.append_assoc,← List.getElem_cons_drop hi]
   refine List.Perm.append_left A ?_
   exact List.perm_middle.symm
  rw [← h.1] at h1
  exact h1.trans (hs i)
 ·rw [e];exact hs _
theorem InvK.ended {α:Type} {lt:α → α → Bool} {l l':List α} {i k:Nat} (h:InvK lt l i k l') (hA:∀ (hk:0 < k) (h1:k < l'.length),lt l'[k] (l'[k - 1]'(by omega)) = false):l' = srtd lt l (i + 1):=by
 rcases h with ⟨hi,A,B,e,ek,h⟩ | ⟨e,_⟩
 ·subst e
  refine (isort_done hi h fun y hy => ?_)
  have hne:A ≠ []:=fun e => by rw [e] at hy;cases hy
  have hy':A = A.dropLast ++ [y]:=by
   have:=List.dropLast_concat_getLast hne
   rw [List.getLast?_eq_some_getLast hne] at hy
   injection hy with hy
   rw [← hy];exact this.symm
  have hpos:0 < A.length:=List.length_pos_iff.2 hne
  have:=hA (by omega) (by rw [List.length_append,List.length_cons];omega)
  subst ek
  rw [List.getElem_append_right (Nat.le_refl _),List.getElem_append_left (by omega)] at this
  simp only [Nat.sub_self,List.getElem_cons_zero] at this
  have e2:A[A.length - 1]'(by omega) = y:=by
   have h3:A.getLast? = A[A.length - 1]?:=List.getLast?_eq_getElem?
   rw [List.getElem?_eq_getElem (by omega)] at h3
   rw [hy] at h3
   injection h3 with h3
   exact h3.symm
  rw [e2] at this
  exact this
 ·exact e
theorem srtd_next {α:Type} {lt:α → α → Bool} (hs:Sw lt) {l:List α} {i k:Nat} (hi:i < l.length) (hk:k < i) (h1:k + 1 < (srtd lt l (i + 1)).length):lt (srtd lt l (i + 1))[k + 1] ((srtd lt l (i + 1))[k]'(by omega)) = false:=by
 have hl:(isort lt (l.take (i + 1))).length = i + 1:=by rw [isort_len,List.length_take];omega
 have:=srt_next (isort_srt hs (l.take (i + 1))) (k:=k) (by omega)
 have h3:∀ j (hj:j < i + 1) (h:j < (srtd lt l (i + 1)).length),(srtd lt l (i + 1))[j] = (isort lt (l.take (i + 1)))[j]'(by omega):=fun j hj h => List.getElem_append_left (by omega)
 rw [h3 (k + 1) (by omega) h1,h3 k (by omega) (by omega)]
 exact this
theorem InvK.no {α:Type} {lt:α → α → Bool} {l l':List α} {i k:Nat} (h:InvK lt l i (k + 1) l') (h1:k + 1 < l'.length) (hn:lt l'[k + 1] (l'[k]'(by omega)) = false):l' = srtd lt l (i + 1):=
 h.ended (fun _ _ => hn)
theorem InvK.no' {α:Type} {lt:α → α → Bool} {l l':List α} {i k:Nat} (h:InvK lt l i (k + 1) l') (hi:k ≤ i) (h1:k + 1 < l'.length) (hn:lt l'[k + 1] (l'[k]'(by omega)) = false):InvK lt l i k l':=
 .inr ⟨h.no h1 hn,hi⟩
theorem InvK.le {α:Type} {lt:α → α → Bool} {l l':List α} {i k:Nat} (h:InvK lt l i k l') (hi:i < l.length):k ≤ i:=by
 rcases h with ⟨hi',A,B,e,ek,h⟩ | ⟨e,h⟩
 ·have:=Ins.len (Nat.le_of_lt hi) h;omega
 ·exact h
theorem InvK.yes {α:Type} {lt:α → α → Bool} (hs:Sw lt) {l l':List α} {i k:Nat} (hi:i < l.length) (h:InvK lt l i (k + 1) l') (h1:k + 1 < l'.length) (hy:lt l'[k + 1] (l'[k]'(by omega)) = true):InvK lt l i k (swp2 l' k):=by
 rcases h with ⟨hi',A,B,e,ek,h⟩ | ⟨e,hk⟩
 ·subst e
  have hne:A ≠ []:=fun e => by rw [e] at ek;cases ek
  obtain ⟨A',y,rfl⟩:∃ A' y,A = A' ++ [y]:=⟨A.dropLast,A.getLast hne,(List.dropLast_concat_getLast hne).symm⟩
  have hk:A'.length = k:=by rw [List.length_append,List.length_singleton] at ek;omega
  subst hk
  have ea:A' ++ [y] ++ l[i] :: (B ++ l.drop (i + 1)) = A' ++ y :: l[i] :: (B ++ l.drop (i + 1)):=by rw [List.append_assoc];rfl
  have e0:(A' ++ [y] ++ l[i] :: (B ++ l.drop (i + 1)))[A'.length]'(by omega) = y:=by
   rw [List.getElem_eq_iff,ea];exact two_at0 _ _ _ _
  have e1:(A' ++ [y] ++ l[i] :: (B ++ l.drop (i + 1)))[A'.length + 1]'(by omega) = l[i]:=by
   rw [List.getElem_eq_iff,ea];exact two_at1 _ _ _ _
  rw [e0,e1] at hy
  refine .inl ⟨hi,A',y :: B,?_,rfl,Ins.on h hy⟩
  rw [ea,swp2_app];rfl
 ·subst e
  rw [srtd_next hs hi (by omega) h1] at hy
  cases hy
theorem InvK.nil {α:Type} {lt:α → α → Bool} {l l':List α} {i:Nat} (h:InvK lt l i 0 l'):l' = srtd lt l (i + 1):=h.ended (fun hk => absurd hk (by omega))
theorem srtd_all {α:Type} (lt:α → α → Bool) (l:List α) {n:Nat} (h:l.length ≤ n):srtd lt l n = isort lt l:=by
 unfold srtd
 rw [List.take_of_length_le h,List.drop_of_length_le h,List.append_nil]
theorem srtd_one {α:Type} (lt:α → α → Bool) (l:List α):srtd lt l 1 = l:=isort_one lt l
def KRow (w0:World) (lo n:Nat) (S:List Nat) (ts:List KT) (e:Ending) (w':World):Prop:=∃ (a:Option Addr) (c:Nat) (ps:List KP),e = .returned (.slice a ps.length c) ∧ ps.map (·.1) = ts ∧ w'.ownsRow w0.heap.size 35 7 (.slice a ps.length c) ps.length (flK ps) ∧ KOs lo n w' ps ∧ (∀ b ∈ ps.flatMap (·.2.2),b ∈ S ∨ w0.heap.size ≤ b) ∧ (∀ b ∈ hb a,b ∉ ps.flatMap (·.2.2)) ∧ Fr S w0 w'
theorem own_lit {w:World} {g lo n sz:Nat} {e:TypeId} {xs:List Value} (h:w.heap[g]? = some (.cells xs.toArray e (0,0))) (hl:xs.length = n * sz) (hlo:lo ≤ g) (hn:n ≤ 1048576):w.ownsRow lo e sz (.slice (some ⟨g,0,none⟩) n n) n xs:=
 ⟨hl,.inr ⟨g,n,_,rfl,hlo,h,Nat.le_refl _,by unfold maxLen;omega,by simp [hl],by simp [← hl]⟩⟩
theorem own_nilR (w:World) (lo:Nat) (e:TypeId) (sz:Nat):w.ownsRow lo e sz (.slice none 0 0) 0 []:=⟨by simp,.inl ⟨rfl,rfl⟩⟩
def P5 (t:KT):Prop:=t.fan ≤ 5 ∧ ((t.lf = true ∧ t.kids = [] ∧ t.ibs.all bkb = true) ∨ (t.lf = false ∧ t.its = [] ∧ t.kids.all (fun k => bkb k.box) = true))
def rb (t:KT):KT:=.mk (arS t) t.lf t.its t.kids
theorem KRow.one {lo n g:Nat} {w0 w1 w2:World} {h:Hd} {S:List Nat} {t:KT} (k:KO lo n w1 h S t) (hg:w2.heap[g]? = some (.cells (ckh t h).toArray 35 (0,0))) (hn:w0.heap.size ≤ g) (hgS:g ∉ S) (hb1:∀ b ∈ S,w2.heap[b]? = w1.heap[b]?) (hf:Fr S w0 w2) :
  KRow w0 lo n S [t] (.returned (.slice (some ⟨g,0,none⟩) 1 1)) w2:=by
 refine ⟨_,1,[(t,h,S)],rfl,rfl,?_,KOs.one (k.keep hb1),?_,?_,hf⟩
 ·have:=own_lit (lo:=w0.heap.size) (n:=1) (sz:=7) hg (ckp_len (t,h,S)) hn (by omega)
  rw [show flK [(t,h,S)] = ckh t h from List.append_nil _]
  exact this
 ·intro b hb'
  rw [List.flatMap_cons,List.flatMap_nil,List.append_nil] at hb'
  exact .inl hb'
 ·intro b hb' hc
  rw [List.flatMap_cons,List.flatMap_nil,List.append_nil] at hc
  have:b = g:=by simpa [hb] using hb'
  exact hgS (this ▸ hc)
theorem KRow.two {lo n g:Nat} {w0 w2:World} {S:List Nat} {p q:KP} (kp:KO lo n w2 p.2.1 p.2.2 p.1) (kq:KO lo n w2 q.2.1 q.2.2 q.1) (hpq:∀ b ∈ p.2.2,b ∉ q.2.2) (hg:w2.heap[g]? = some (.cells (ckh p.1 p.2.1 ++ ckh q.1 q.2.1).toArray 35 (0,0))) (hn:w0.heap.size ≤ g) (hgp:g ∉ p.2.2) (hgq:g ∉ q.2.2) (hp:∀ b ∈ p.2.2,b ∈ S ∨ w0.heap.size ≤ b) (hq:∀ b ∈ q.2.2,b ∈ S ∨ w0.heap.size ≤ b) (hf:Fr S w0 w2) :
  KRow w0 lo n S [p.1,q.1] (.returned (.slice (some ⟨g,0,none⟩) 2 2)) w2:=by
 have e:([p,q]:List KP).flatMap (·.2.2) = p.2.2 ++ q.2.2:=by simp
 refine ⟨_,2,[p,q],rfl,rfl,?_,KOs.app (ps:=[p]) (qs:=[q]) (KOs.one kp) (KOs.one kq) ?_,?_,?_,hf⟩
 ·have:=own_lit (lo:=w0.heap.size) (n:=2) (sz:=7) hg (by rw [List.length_append,ckp_len,ckp_len]) hn (by omega)
  rw [show flK [p,q] = ckh p.1 p.2.1 ++ ckh q.1 q.2.1 by simp [flK]]
  exact this
 ·intro b h1 h2
  rw [List.flatMap_cons,List.flatMap_nil,List.append_nil] at h1 h2
  exact hpq b h1 h2
 ·intro b hb'
  rw [e] at hb'
  rcases List.mem_append.1 hb' with h | h
  ·exact hp b h
  ·exact hq b h
 ·intro b hb' hc
  rw [e] at hc
  have:b = g:=by simpa [hb] using hb'
  subst this
  rcases List.mem_append.1 hc with h | h
  ·exact hgp h
  ·exact hgq h
theorem wp_wld {P:Program} {c:Code} {Q:Exit → Act → World → Prop} {a:Act} {W:World} (R:World → Prop) (h:R W) (k:∀ X,R X → c.wp P Q a X):c.wp P Q a W:=k W h
theorem cell5j {w:World} {p:Nat} {a b c d e:Value} {t:TypeId} (h:w.heap[p]? = some (.cells #[a,b,c,d,e] t (0,0))):w.cell? ⟨p,0,none⟩ = some a ∧ w.cell? ⟨p,1,none⟩ = some b ∧ w.cell? ⟨p,2,none⟩ = some c ∧ w.cell? ⟨p,3,none⟩ = some d ∧ w.cell? ⟨p,4,none⟩ = some e ∧ w.frozen? ⟨p,0,none⟩ = false ∧ w.frozen? ⟨p,1,none⟩ = false ∧ w.frozen? ⟨p,2,none⟩ = false ∧ w.frozen? ⟨p,3,none⟩ = false ∧ w.frozen? ⟨p,4,none⟩ = false:=by
 refine ⟨?_,?_,?_,?_,?_,?_,?_,?_,?_,?_⟩ <;> simp [World.cell?,World.frozen?,h]
theorem setL_all {t:TypeId}:∀ (vs:List Value) (pre post:List Value) (w:World) (b:Nat),w.heap[b]? = some (.cells (pre ++ post).toArray t (0,0)) → post.length = vs.length → (setL w b pre.length vs).heap[b]? = some (.cells (pre ++ vs).toArray t (0,0))
 | [],pre,post,w,b,h,hl => by
  have:post = []:=List.length_eq_zero_iff.1 hl
  subst this
  exact h
 | v :: r,pre,[],w,b,h,hl => by cases hl
 | v :: r,pre,p :: post,w,b,h,hl => by
  have h1:=set_at (k:=pre.length) (u:=v) h
  have e1:(pre ++ p :: post).toArray.setIfInBounds pre.length v = ((pre ++ [v]) ++ post).toArray:=by
   rw [List.setIfInBounds_toArray,List.set_append_right _ _ (Nat.le_refl _),Nat.sub_self,List.set_cons_zero,List.append_assoc];rfl
  rw [e1] at h1
  have h2:=setL_all r (pre ++ [v]) post (w.setCell ⟨b,pre.length,none⟩ v) b h1 (by simpa using hl)
  rw [List.length_append,List.length_singleton,List.append_assoc] at h2
  exact h2
theorem setL_new {t:TypeId} {w:World} {b:Nat} {xs:Array Value} (vs:List Value) (h:w.heap[b]? = some (.cells xs t (0,0))) (hl:xs.size = vs.length):(setL w b 0 vs).heap[b]? = some (.cells vs.toArray t (0,0)):=by
 have:=setL_all vs [] xs.toList w b (by simpa using h) (by simpa using hl)
 simpa using this
theorem fr_setN {S:List Nat} {w w':World} {g:Nat} (h:Fr S w w') (hg:g ∈ S ∨ w.heap.size ≤ g) (vs:List Value) (o:Nat):Fr S w (setL w' g o vs):=by
 have h1:Fr [g] w' (setL w' g o vs):=Fr.setL (Fr.refl [g] w') vs o
 refine h.trans h1 (fun k hk => ?_)
 rw [List.mem_singleton] at hk
 subst hk
 exact hg
theorem exec_build {P:Program} {f:Operand → Value} {o:Oper} {w:World} (t:TypeId) (k:Nat) (x:Operand) (ho:o.op = .build t #[(k,x)]) {v:Value} (hx:f x = v) {cells:Array Value} (h:P.built t [(k,v)] = some cells):(execOp f o).run P w = .ok (.value (.agg cells)) w:=by
 subst hx
 have hb:(Instr.build t (Array.map (fun (y:Nat × Operand) => (y.1,f y.2)) #[(k,x)])).run P w = .ok (.agg cells) w:=run_build w t _ cells (by simpa using h)
 unfold execOp
 simp only [ho,Sem.run_bind]
 rw [hb]
 rfl
def ClA (w:World) (e:TypeId) (sz n:Nat) (xs:List Value) (en:Ending) (w':World):Prop:=∃ a c,en = .returned (.slice a n c) ∧ w'.ownsRow w.heap.size e sz (.slice a n c) n xs ∧ Below w.heap.size w w'
theorem ClA.ret {w:World} {e:TypeId} {sz n:Nat} {xs:List Value}:∀ (en:Ending) (w':World),ClA w e sz n xs en w' → ∃ v,en = .returned v:=fun _ _ ⟨_,_,h,_⟩ => ⟨_,h⟩
def CutA (w:World) (e:TypeId) (sz n1 n2:Nat) (xs ys:List Value) (en:Ending) (w':World):Prop:=∃ a1 c1 a2 c2,en = .returned (.tuple #[.slice a1 n1 c1,.slice a2 n2 c2]) ∧ w'.ownsRow w.heap.size e sz (.slice a1 n1 c1) n1 xs ∧ w'.ownsRow w.heap.size e sz (.slice a2 n2 c2) n2 ys ∧ (∀ b ∈ hb a1,b ∉ hb a2) ∧ Below w.heap.size w w'
theorem cut_two {w v v':World} {e:TypeId} {sz n1 n2:Nat} {xs ys:List Value} {a1 a2:Option Addr} {c1 c2:Nat} (h1:v.ownsRow w.heap.size e sz (.slice a1 n1 c1) n1 xs) (hb1:Below w.heap.size w v) (h2:v'.ownsRow v.heap.size e sz (.slice a2 n2 c2) n2 ys) (hb2:Below v.heap.size v v'):CutA w e sz n1 n2 xs ys (.returned (.tuple #[.slice a1 n1 c1,.slice a2 n2 c2])) v':=by
 refine ⟨a1,c1,a2,c2,rfl,row_blk h1 (fun b hb' => hb2.block b (row_lt h1 b hb').2),?_,fun b hb' hc => ?_,btrans hb1 hb2⟩
 ·refine ⟨h2.1,?_⟩
  rcases h2.2 with q | ⟨g,cap,cur,e1,q1,q2⟩
  ·exact .inl q
  ·exact .inr ⟨g,cap,cur,e1,Nat.le_trans hb1.size q1,q2⟩
 ·have q1:=(row_lt h1 b hb').2
  have q2:=(row_lt h2 b hc).1
  omega
theorem cl_items {lo g c n:Nat} {l:List It} {w:World} (h:w.ownsRow lo 40 5 (.slice (some ⟨g,0,none⟩) n c) n (flI l)) (hl:l.length = n) (hn:n ≤ 1048576) (k c':Nat) (hk:k ≤ n):Calls Tryz.prog 78 #[.slice (some ⟨g,0,none⟩) k c'] w (ClA w 40 5 k (flI (l.take k))) ∧ Calls Tryz.prog 78 #[.slice (some ⟨g,k * 5,none⟩) (n - k) c'] w (ClA w 40 5 (n - k) (flI (l.drop k))):=by
 have hg:g < w.heap.size:=(row_lt h g (by simp [hb])).2
 have e1:(l.take k).length = k:=by rw [List.length_take];omega
 have e2:(l.drop k).length = n - k:=by rw [List.length_drop];omega
 constructor
 ·have:=clone_items g 0 c' (l.take k) w (by omega) hg (fun j hj => by
   rw [List.getElem_take,Nat.zero_add]
   exact row_itAt h j (by omega))
  rw [e1] at this
  exact this.mono (fun e w' ⟨g',c2,q1,q2,q3⟩ => ⟨_,c2,q1,by unfold ItG at q2;rw [e1] at q2;exact q2,q3⟩)
 ·have:=clone_items g (k * 5) c' (l.drop k) w (by omega) hg (fun j hj => by
   rw [List.getElem_drop,show k * 5 + j * 5 = (k + j) * 5 by omega]
   exact row_itAt h (k + j) (by omega))
  rw [e2] at this
  exact this.mono (fun e w' ⟨g',c2,q1,q2,q3⟩ => ⟨_,c2,q1,by unfold ItG at q2;rw [e2] at q2;exact q2,q3⟩)
theorem cl_knots {lo g c n:Nat} {l:List KP} {w:World} (h:w.ownsRow lo 35 7 (.slice (some ⟨g,0,none⟩) n c) n (flK l)) (hl:l.length = n) (hn:n ≤ 1048576) (k c':Nat) (hk:k ≤ n):Calls Tryz.prog 146 #[.slice (some ⟨g,0,none⟩) k c'] w (ClA w 35 7 k (flK (l.take k))) ∧ Calls Tryz.prog 146 #[.slice (some ⟨g,k * 7,none⟩) (n - k) c'] w (ClA w 35 7 (n - k) (flK (l.drop k))):=by
 have hg:g < w.heap.size:=(row_lt h g (by simp [hb])).2
 have e1:(l.take k).length = k:=by rw [List.length_take];omega
 have e2:(l.drop k).length = n - k:=by rw [List.length_drop];omega
 have hc:=fun i v (e:(flK l)[i]? = some v) => World.ownsRow.cells h (g:=g) rfl i v e
 constructor
 ·have:=clone_knots g 0 c' (l.take k) w (by omega) hg (fun i v e => by
   rw [show flK (l.take k) = (flK l).take (k * 7) from flat_take ckp_len l k,List.getElem?_take] at e
   split at e
   ·have:=hc i v e
    rwa [Addr.add_mid] at this
   ·cases e)
  rw [e1] at this
  exact this.mono (fun e w' ⟨g',c2,q1,q2,q3⟩ => ⟨_,c2,q1,q2,q3⟩)
 ·have:=clone_knots g (k * 7) c' (l.drop k) w (by omega) hg (fun i v e => by
   rw [show flK (l.drop k) = (flK l).drop (k * 7) from flat_drop ckp_len l k,List.getElem?_drop] at e
   have:=hc _ v e
   rwa [Addr.add_mid,Nat.zero_add] at this)
  rw [e2] at this
  exact this.mono (fun e w' ⟨g',c2,q1,q2,q3⟩ => ⟨_,c2,q1,q2,q3⟩)
theorem own_base {w:World} {B B' sz n k c:Nat} {e:TypeId} {a:Option Addr} {xs:List Value} (h:w.ownsRow B e sz (.slice a k c) n xs) (hB:B' ≤ B):w.ownsRow B' e sz (.slice a k c) n xs:=by
 refine ⟨h.1,?_⟩
 rcases h.2 with q | ⟨g,cap,cur,e1,q1,q2⟩
 ·exact .inl q
 ·exact .inr ⟨g,cap,cur,e1,Nat.le_trans hB q1,q2⟩
theorem cut5_items (lo g c:Nat) (l:List It) (w:World) (h:w.ownsRow lo 40 5 (.slice (some ⟨g,0,none⟩) 5 c) 5 (flI l)) (hl:l.length = 5):Calls Tryz.prog 127 #[.slice (some ⟨g,0,none⟩) 5 c] w (CutA w 40 5 3 2 (flI (l.take 3)) (flI (l.drop 3))):=by
 have hc5:5 ≤ c:=(row_caps h).1
 have hI3:(3:Int) ≤ (c:Int):=by omega
 have hI5:(5:Int) ≤ (c:Int):=by omega
 have hne3:¬ c = 3:=by omega
 have hc63:c ≤ 9223372036854775807:=(row_caps h).2
 have HC1:=hid (fun (W:World) (hb:Below w.heap.size w W) => (cl_items (row_blk h (fun b hb' => hb.block b (row_lt h b hb').2)) hl (by omega) 3 c (by omega)).1)
 have HC2:=hid (fun (W:World) (hb:Below w.heap.size w W) => (cl_items (row_blk h (fun b hb' => hb.block b (row_lt h b hb').2)) hl (by omega) 3 (c - 3) (by omega)).2)
 clear h
 go_enter Tryz.func127,Tryz.ntmps127
 go_upto_region 2 with fail
 refine wp_region_late (L:=[]) (S:=(fun _ => True)) (by kernel_rfl) ?_ (fun hHeld => ?_)
 ·trivial
 have hD:=bdrew (Below.refl w.heap.size w)
 generalize w.drew = V0 at *
 refine tkP 0 hHeld ?_
 try simp only [sq]
 refine tkP 1 hHeld ?_
 try simp only [sq]
 refine tkP 2 hHeld ?_
 try simp only [sq]
 refine tkP 4 hHeld ?_
 try simp only [sq]
 refine tkP 5 hHeld ?_
 try simp only [sq]
 refine tkP 6 hHeld ?_
 try simp only [sq]
 refine anyL_1 (i:=3) rfl (by kernel_rfl) rfl ?_
 refine wpo_call (HC1.out _ hD) ?_ (fun e w' hp => ?_) (fun v V1 hp => ?_)
 ·go_simp
 ·exact ClA.ret _ _ hp
 clear hHeld
 obtain ⟨a1,c1,e0,r1,hb1⟩:=hp
 injection e0 with e0
 subst e0
 refine ⟨trivial,fun hHeld => ?_⟩
 clear HC1
 try simp only [sq]
 refine anyL_1 (i:=7) rfl (by kernel_rfl) rfl ?_
 refine wpo_call (HC2.out _ (btrans hD hb1)) ?_ (fun e w' hp => ?_) (fun v V2 hp => ?_)
 ·go_simp
 ·exact ClA.ret _ _ hp
 clear hHeld
 obtain ⟨a2,c2,e0,r2,hb2⟩:=hp
 injection e0 with e0
 subst e0
 refine ⟨trivial,fun hHeld => ?_⟩
 try simp only [sq]
 refine tkP 8 hHeld ?_
 try simp only [sq]
 refine tkP 9 hHeld ?_
 try simp only [sq]
 refine anyL_done (by kernel_rfl) ?_ _
 go_wp2_with fail
 go_ret2
 exact cut_two (own_base r1 hD.size) (btrans hD hb1) r2 hb2
theorem cut5_knots (lo g c:Nat) (l:List KP) (w:World) (h:w.ownsRow lo 35 7 (.slice (some ⟨g,0,none⟩) 5 c) 5 (flK l)) (hl:l.length = 5):Calls Tryz.prog 128 #[.slice (some ⟨g,0,none⟩) 5 c] w (CutA w 35 7 3 2 (flK (l.take 3)) (flK (l.drop 3))):=by
 have hc5:5 ≤ c:=(row_caps h).1
 have hI3:(3:Int) ≤ (c:Int):=by omega
 have hI5:(5:Int) ≤ (c:Int):=by omega
 have hne3:¬ c = 3:=by omega
 have hc63:c ≤ 9223372036854775807:=(row_caps h).2
 have HC1:=hid (fun (W:World) (hb:Below w.heap.size w W) => (cl_knots (row_blk h (fun b hb' => hb.block b (row_lt h b hb').2)) hl (by omega) 3 c (by omega)).1)
 have HC2:=hid (fun (W:World) (hb:Below w.heap.size w W) => (cl_knots (row_blk h (fun b hb' => hb.block b (row_lt h b hb').2)) hl (by omega) 3 (c - 3) (by omega)).2)
 clear h
 go_enter Tryz.func128,Tryz.ntmps128
 go_upto_region 2 with fail
 refine wp_region_late (L:=[]) (S:=(fun _ => True)) (by kernel_rfl) ?_ (fun hHeld => ?_)
 ·trivial
 have hD:=bdrew (Below.refl w.heap.size w)
 generalize w.drew = V0 at *
 refine tkP 0 hHeld ?_
 try simp only [sq]
 refine tkP 1 hHeld ?_
 try simp only [sq]
 refine tkP 2 hHeld ?_
 try simp only [sq]
 refine tkP 4 hHeld ?_
 try simp only [sq]
 refine tkP 5 hHeld ?_
 try simp only [sq]
 refine tkP 6 hHeld ?_
 try simp only [sq]
 refine anyL_1 (i:=3) rfl (by kernel_rfl) rfl ?_
 refine wpo_call (HC1.out _ hD) ?_ (fun e w' hp => ?_) (fun v V1 hp => ?_)
 ·go_simp
 ·exact ClA.ret _ _ hp
 clear hHeld
 obtain ⟨a1,c1,e0,r1,hb1⟩:=hp
 injection e0 with e0
 subst e0
 refine ⟨trivial,fun hHeld => ?_⟩
 clear HC1
 try simp only [sq]
 refine anyL_1 (i:=7) rfl (by kernel_rfl) rfl ?_
 refine wpo_call (HC2.out _ (btrans hD hb1)) ?_ (fun e w' hp => ?_) (fun v V2 hp => ?_)
 ·go_simp
 ·exact ClA.ret _ _ hp
 clear hHeld
 obtain ⟨a2,c2,e0,r2,hb2⟩:=hp
 injection e0 with e0
 subst e0
 refine ⟨trivial,fun hHeld => ?_⟩
 try simp only [sq]
 refine tkP 8 hHeld ?_
 try simp only [sq]
 refine tkP 9 hHeld ?_
 try simp only [sq]
 refine anyL_done (by kernel_rfl) ?_ _
 go_wp2_with fail
 go_ret2
 exact cut_two (own_base r1 hD.size) (btrans hD hb1) r2 hb2
theorem cut0_items (lo c:Nat) (a:Option Addr) (w:World) (h:w.ownsRow lo 40 5 (.slice a 0 c) 0 []):Calls Tryz.prog 127 #[.slice a 0 c] w (CutA w 40 5 0 0 [] []):=by
 have hc63:c ≤ 9223372036854775807:=(row_caps h).2
 have hI0:(0:Int) ≤ (c:Int):=by omega
 rcases h.2 with ⟨q,_⟩ | ⟨g,c',cur,q,_⟩
 ·cases q
  clear h
  have HC1:=hid (fun (W:World) (hb:Below w.heap.size w W) => (clone_nil_items W).mono (fun e w' ⟨q1,q2⟩ => (⟨none,0,q1,own_nilR _ _ _ _,q2⟩:ClA W 40 5 0 [] e w')))
  have HC2:=HC1
  go_enter Tryz.func127,Tryz.ntmps127
  go_upto_region 2 with fail
  refine wp_region_late (L:=[]) (S:=(fun _ => True)) (by kernel_rfl) ?_ (fun hHeld => ?_)
  ·trivial
  have hD:=bdrew (Below.refl w.heap.size w)
  generalize w.drew = V0 at *
  refine tkP 0 hHeld ?_
  try simp only [sq]
  refine tkP 1 hHeld ?_
  try simp only [sq]
  refine tkP 2 hHeld ?_
  try simp only [sq]
  refine tkP 4 hHeld ?_
  try simp only [sq]
  refine tkP 5 hHeld ?_
  try simp only [sq]
  refine tkP 6 hHeld ?_
  try simp only [sq]
  refine anyL_1 (i:=3) rfl (by kernel_rfl) rfl ?_
  refine wpo_call (HC1.out _ hD) ?_ (fun e w' hp => ?_) (fun v V1 hp => ?_)
  ·go_simp
  ·exact ClA.ret _ _ hp
  clear hHeld
  obtain ⟨a1,c1,e0,r1,hb1⟩:=hp
  injection e0 with e0
  subst e0
  refine ⟨trivial,fun hHeld => ?_⟩
  clear HC1
  try simp only [sq]
  refine anyL_1 (i:=7) rfl (by kernel_rfl) rfl ?_
  refine wpo_call (HC2.out _ (btrans hD hb1)) ?_ (fun e w' hp => ?_) (fun v V2 hp => ?_)
  ·go_simp
  ·exact ClA.ret _ _ hp
  clear hHeld
  obtain ⟨a2,c2,e0,r2,hb2⟩:=hp
  injection e0 with e0
  subst e0
  refine ⟨trivial,fun hHeld => ?_⟩
  try simp only [sq]
  refine tkP 8 hHeld ?_
  try simp only [sq]
  refine tkP 9 hHeld ?_
  try simp only [sq]
  refine anyL_done (by kernel_rfl) ?_ _
  go_wp2_with fail
  go_ret2
  exact cut_two (own_base r1 hD.size) (btrans hD hb1) r2 hb2
 ·cases q
  have HC1:=hid (fun (W:World) (hb:Below w.heap.size w W) => (cl_items (l:=[]) (row_blk h (fun b hb' => hb.block b (row_lt h b hb').2)) rfl (by omega) 0 c (by omega)).1)
  have HC2:=hid (fun (W:World) (hb:Below w.heap.size w W) => (cl_items (l:=[]) (row_blk h (fun b hb' => hb.block b (row_lt h b hb').2)) rfl (by omega) 0 (c - 0) (by omega)).2)
  clear h
  go_enter Tryz.func127,Tryz.ntmps127
  go_upto_region 2 with fail
  refine wp_region_late (L:=[]) (S:=(fun _ => True)) (by kernel_rfl) ?_ (fun hHeld => ?_)
  ·trivial
  have hD:=bdrew (Below.refl w.heap.size w)
  generalize w.drew = V0 at *
  refine tkP 0 hHeld ?_
  try simp only [sq]
  refine tkP 1 hHeld ?_
  try simp only [sq]
  refine tkP 2 hHeld ?_
  try simp only [sq]
  refine tkP 4 hHeld ?_
  try simp only [sq]
  refine tkP 5 hHeld ?_
  try simp only [sq]
  refine tkP 6 hHeld ?_
  try simp only [sq]
  refine anyL_1 (i:=3) rfl (by kernel_rfl) rfl ?_
  refine wpo_call (HC1.out _ hD) ?_ (fun e w' hp => ?_) (fun v V1 hp => ?_)
  ·go_simp
  ·exact ClA.ret _ _ hp
  clear hHeld
  obtain ⟨a1,c1,e0,r1,hb1⟩:=hp
  injection e0 with e0
  subst e0
  refine ⟨trivial,fun hHeld => ?_⟩
  clear HC1
  try simp only [sq]
  refine anyL_1 (i:=7) rfl (by kernel_rfl) rfl ?_
  refine wpo_call (HC2.out _ (btrans hD hb1)) ?_ (fun e w' hp => ?_) (fun v V2 hp => ?_)
  ·go_simp
  ·exact ClA.ret _ _ hp
  clear hHeld
  obtain ⟨a2,c2,e0,r2,hb2⟩:=hp
  injection e0 with e0
  subst e0
  refine ⟨trivial,fun hHeld => ?_⟩
  try simp only [sq]
  refine tkP 8 hHeld ?_
  try simp only [sq]
  refine tkP 9 hHeld ?_
  try simp only [sq]
  refine anyL_done (by kernel_rfl) ?_ _
  go_wp2_with fail
  go_ret2
  exact cut_two (own_base r1 hD.size) (btrans hD hb1) r2 hb2
theorem cut0_knots (lo c:Nat) (a:Option Addr) (w:World) (h:w.ownsRow lo 35 7 (.slice a 0 c) 0 []):Calls Tryz.prog 128 #[.slice a 0 c] w (CutA w 35 7 0 0 [] []):=by
 have hc63:c ≤ 9223372036854775807:=(row_caps h).2
 have hI0:(0:Int) ≤ (c:Int):=by omega
 rcases h.2 with ⟨q,_⟩ | ⟨g,c',cur,q,_⟩
 ·cases q
  clear h
  have HC1:=hid (fun (W:World) (hb:Below w.heap.size w W) => (clone_nil_knots W).mono (fun e w' ⟨q1,q2⟩ => (⟨none,0,q1,own_nilR _ _ _ _,q2⟩:ClA W 35 7 0 [] e w')))
  have HC2:=HC1
  go_enter Tryz.func128,Tryz.ntmps128
  go_upto_region 2 with fail
  refine wp_region_late (L:=[]) (S:=(fun _ => True)) (by kernel_rfl) ?_ (fun hHeld => ?_)
  ·trivial
  have hD:=bdrew (Below.refl w.heap.size w)
  generalize w.drew = V0 at *
  refine tkP 0 hHeld ?_
  try simp only [sq]
  refine tkP 1 hHeld ?_
  try simp only [sq]
  refine tkP 2 hHeld ?_
  try simp only [sq]
  refine tkP 4 hHeld ?_
  try simp only [sq]
  refine tkP 5 hHeld ?_
  try simp only [sq]
  refine tkP 6 hHeld ?_
  try simp only [sq]
  refine anyL_1 (i:=3) rfl (by kernel_rfl) rfl ?_
  refine wpo_call (HC1.out _ hD) ?_ (fun e w' hp => ?_) (fun v V1 hp => ?_)
  ·go_simp
  ·exact ClA.ret _ _ hp
  clear hHeld
  obtain ⟨a1,c1,e0,r1,hb1⟩:=hp
  injection e0 with e0
  subst e0
  refine ⟨trivial,fun hHeld => ?_⟩
  clear HC1
  try simp only [sq]
  refine anyL_1 (i:=7) rfl (by kernel_rfl) rfl ?_
  refine wpo_call (HC2.out _ (btrans hD hb1)) ?_ (fun e w' hp => ?_) (fun v V2 hp => ?_)
  ·go_simp
  ·exact ClA.ret _ _ hp
  clear hHeld
  obtain ⟨a2,c2,e0,r2,hb2⟩:=hp
  injection e0 with e0
  subst e0
  refine ⟨trivial,fun hHeld => ?_⟩
  try simp only [sq]
  refine tkP 8 hHeld ?_
  try simp only [sq]
  refine tkP 9 hHeld ?_
  try simp only [sq]
  refine anyL_done (by kernel_rfl) ?_ _
  go_wp2_with fail
  go_ret2
  exact cut_two (own_base r1 hD.size) (btrans hD hb1) r2 hb2
 ·cases q
  have HC1:=hid (fun (W:World) (hb:Below w.heap.size w W) => (cl_knots (l:=[]) (row_blk h (fun b hb' => hb.block b (row_lt h b hb').2)) rfl (by omega) 0 c (by omega)).1)
  have HC2:=hid (fun (W:World) (hb:Below w.heap.size w W) => (cl_knots (l:=[]) (row_blk h (fun b hb' => hb.block b (row_lt h b hb').2)) rfl (by omega) 0 (c - 0) (by omega)).2)
  clear h
  go_enter Tryz.func128,Tryz.ntmps128
  go_upto_region 2 with fail
  refine wp_region_late (L:=[]) (S:=(fun _ => True)) (by kernel_rfl) ?_ (fun hHeld => ?_)
  ·trivial
  have hD:=bdrew (Below.refl w.heap.size w)
  generalize w.drew = V0 at *
  refine tkP 0 hHeld ?_
  try simp only [sq]
  refine tkP 1 hHeld ?_
  try simp only [sq]
  refine tkP 2 hHeld ?_
  try simp only [sq]
  refine tkP 4 hHeld ?_
  try simp only [sq]
  refine tkP 5 hHeld ?_
  try simp only [sq]
  refine tkP 6 hHeld ?_
  try simp only [sq]
  refine anyL_1 (i:=3) rfl (by kernel_rfl) rfl ?_
  refine wpo_call (HC1.out _ hD) ?_ (fun e w' hp => ?_) (fun v V1 hp => ?_)
  ·go_simp
  ·exact ClA.ret _ _ hp
  clear hHeld
  obtain ⟨a1,c1,e0,r1,hb1⟩:=hp
  injection e0 with e0
  subst e0
  refine ⟨trivial,fun hHeld => ?_⟩
  clear HC1
  try simp only [sq]
  refine anyL_1 (i:=7) rfl (by kernel_rfl) rfl ?_
  refine wpo_call (HC2.out _ (btrans hD hb1)) ?_ (fun e w' hp => ?_) (fun v V2 hp => ?_)
  ·go_simp
  ·exact ClA.ret _ _ hp
  clear hHeld
  obtain ⟨a2,c2,e0,r2,hb2⟩:=hp
  injection e0 with e0
  subst e0
  refine ⟨trivial,fun hHeld => ?_⟩
  try simp only [sq]
  refine tkP 8 hHeld ?_
  try simp only [sq]
  refine tkP 9 hHeld ?_
  try simp only [sq]
  refine anyL_done (by kernel_rfl) ?_ _
  go_wp2_with fail
  go_ret2
  exact cut_two (own_base r1 hD.size) (btrans hD hb1) r2 hb2
end Go.Proofs.YtjahlofahjgdbaaGreat
