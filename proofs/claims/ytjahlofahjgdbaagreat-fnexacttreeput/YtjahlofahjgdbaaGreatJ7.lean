/- Texts of stores, joined: Jd, Jk, Jl. -/
import Derived.Test.YtjahlofahjgdbaaGreatJ6
set_option linter.unusedSimpArgs false
set_option linter.unusedVariables false
namespace Go.Proofs.YtjahlofahjgdbaaGreat
open Go.RowKit
abbrev Hd:Type:=Option Addr × Nat × Option Addr × Nat
def ckh (t:KT) (h:Hd):List Value:=ck t h.1 h.2.1 h.2.2.1 h.2.2.2
def kvh (t:KT) (h:Hd):Value:=kv t h.1 h.2.1 h.2.2.1 h.2.2.2
abbrev KP:Type:=KT × Hd × List Nat
def flK (ps:List KP):List Value:=ps.flatMap fun p => ckh p.1 p.2.1
theorem flK_len:∀ ps:List KP,(flK ps).length = ps.length * 7
 | [] => rfl
 | p :: ps => by
  show (ckh p.1 p.2.1 ++ flK ps).length = _
  rw [List.length_append,flK_len ps]
  simp [ckh,ck];omega
theorem flK_app (ps qs:List KP):flK (ps ++ qs) = flK ps ++ flK qs:=List.flatMap_append
theorem flK_one (ps:List KP):∀ u ∈ flK ps,u.oneCell' = true:=by
 intro u hu
 obtain ⟨p,_,hx⟩:=List.mem_flatMap.1 hu
 simp only [ckh,ck,List.mem_cons,List.not_mem_nil,or_false] at hx
 rcases hx with rfl | rfl | rfl | rfl | rfl | rfl | rfl <;> rfl
theorem flK_cell {w:World} {b:Nat}:∀ (ps:List KP) (o:Nat),Cs w b o (flK ps) → ∀ j (h:j < ps.length),Cs w b (o + j * 7) (ckh ps[j].1 ps[j].2.1)
 | [],o,_,j,h => by cases h
 | p :: ps,o,H,0,_ => fun i v e0 => by
  have e':(ckh p.1 p.2.1)[i]? = some v:=e0
  have:=H i v (show (ckh p.1 p.2.1 ++ flK ps)[i]? = some v by
   rw [List.getElem?_append_left (List.getElem?_eq_some_iff.1 e').1];exact e')
  rwa [Nat.zero_mul,Nat.add_zero]
 | p :: ps,o,H,j + 1,h => by
  have:=flK_cell ps (o + 7) (fun i v e0 => by
   have:=H (i + 7) v (show (ckh p.1 p.2.1 ++ flK ps)[i + 7]? = some v by
    rw [List.getElem?_append_right (by simp [ckh,ck])]
    have hl:(ckh p.1 p.2.1).length = 7:=rfl
    rw [hl,Nat.add_sub_cancel];exact e0)
   rwa [show o + (i + 7) = o + 7 + i by omega] at this) j (by simpa using h)
  rw [show o + (j + 1) * 7 = o + 7 + j * 7 by omega]
  exact this
def hb (a:Option Addr):List Nat:=(a.map (·.block)).toList
def KO (lo:Nat):Nat → World → Hd → List Nat → KT → Prop
 | 0,_,_,_,_ => False
 | n + 1,w,h,S,t => ∃ ps:List KP,t.kids = ps.map (·.1) ∧ w.ownsRow lo 40 5 (.slice h.1 t.its.length h.2.1) t.its.length (flI t.its) ∧ w.ownsRow lo 35 7 (.slice h.2.2.1 ps.length h.2.2.2) ps.length (flK ps) ∧ S.Perm (hb h.1 ++ hb h.2.2.1 ++ ps.flatMap (·.2.2)) ∧ S.Nodup ∧ ∀ p ∈ ps,KO lo n w p.2.1 p.2.2 p.1
def KOs (lo n:Nat) (w:World) (ps:List KP):Prop:=(ps.flatMap (·.2.2)).Nodup ∧ ∀ p ∈ ps,KO lo n w p.2.1 p.2.2 p.1
theorem row_blk {w w':World} {B sz n k c:Nat} {e:TypeId} {a:Option Addr} {xs:List Value} (h:w.ownsRow B e sz (.slice a k c) n xs) (e':∀ b,b ∈ hb a → w'.heap[b]? = w.heap[b]?):w'.ownsRow B e sz (.slice a k c) n xs:=by
 refine ⟨h.1,?_⟩
 rcases h.2 with hn | ⟨g,c',cur,q0,q1,q2,q3⟩
 ·exact .inl hn
 ·refine .inr ⟨g,c',cur,q0,q1,(e' g ?_).trans q2,q3⟩
  cases q0
  simp [hb]
theorem row_lt {w:World} {B sz n k c:Nat} {e:TypeId} {a:Option Addr} {xs:List Value} (h:w.ownsRow B e sz (.slice a k c) n xs):∀ b ∈ hb a,B ≤ b ∧ b < w.heap.size:=by
 intro b hb'
 rcases h.2 with ⟨q,_⟩ | ⟨g,c',cur,q0,q1,q2,q3⟩
 ·cases q;simp [hb] at hb'
 ·cases q0
  have:b = g:=by simpa [hb] using hb'
  rw [this]
  exact ⟨q1,lt_of_heap q2⟩
theorem KO.keep {lo:Nat}:∀ {n:Nat} {w w':World} {h:Hd} {S:List Nat} {t:KT},KO lo n w h S t → (∀ b ∈ S,w'.heap[b]? = w.heap[b]?) → KO lo n w' h S t
 | 0,_,_,_,_,_,h,_ => h.elim
 | n + 1,w,w',h,S,t,⟨ps,l1,r1,r2,hS,hN,hk⟩,e => by
  refine ⟨ps,l1,row_blk r1 fun b hb' => e b (hS.mem_iff.2 ?_),row_blk r2 fun b hb' => e b (hS.mem_iff.2 ?_),hS,hN,fun p hp => (hk p hp).keep fun b hb' => e b (hS.mem_iff.2 ?_)⟩
  ·simp only [List.mem_append];exact .inl (.inl hb')
  ·simp only [List.mem_append];exact .inl (.inr hb')
  ·simp only [List.mem_append];exact .inr (List.mem_flatMap.2 ⟨p,hp,hb'⟩)
theorem KO.lt {lo:Nat}:∀ {n:Nat} {w:World} {h:Hd} {S:List Nat} {t:KT},KO lo n w h S t → ∀ b ∈ S,lo ≤ b ∧ b < w.heap.size
 | 0,_,_,_,_,h,_,_ => h.elim
 | n + 1,w,h,S,t,⟨ps,l1,r1,r2,hS,hN,hk⟩,b,hb' => by
  have hb':=hS.mem_iff.1 hb'
  simp only [List.mem_append] at hb'
  rcases hb' with (hb' | hb') | hb'
  ·exact row_lt r1 b hb'
  ·exact row_lt r2 b hb'
  ·obtain ⟨p,hp,hb'⟩:=List.mem_flatMap.1 hb'
   exact (hk p hp).lt b hb'
theorem KO.below {lo n:Nat} {w w':World} {h:Hd} {S:List Nat} {t:KT} (k:KO lo n w h S t) (H:Below w.heap.size w w'):KO lo n w' h S t:=k.keep fun b hb => H.block b (k.lt b hb).2
theorem KO.nodup {lo:Nat}:∀ {n:Nat} {w:World} {h:Hd} {S:List Nat} {t:KT},KO lo n w h S t → S.Nodup
 | 0,_,_,_,_,h => h.elim
 | n + 1,_,_,_,_,⟨_,_,_,_,_,hN,_⟩ => hN
theorem KO.more {lo:Nat}:∀ {n:Nat} {w:World} {h:Hd} {S:List Nat} {t:KT},KO lo n w h S t → KO lo (n + 1) w h S t
 | 0,_,_,_,_,h => h.elim
 | n + 1,_,_,_,_,⟨ps,l1,r1,r2,hS,hN,hk⟩ => ⟨ps,l1,r1,r2,hS,hN,fun p hp => (hk p hp).more⟩
theorem KO.kids {lo n:Nat} {w:World} {h:Hd} {S:List Nat} {t:KT} (k:KO lo (n + 1) w h S t):∃ ps:List KP,t.kids = ps.map (·.1) ∧ w.ownsRow lo 40 5 (.slice h.1 t.its.length h.2.1) t.its.length (flI t.its) ∧ w.ownsRow lo 35 7 (.slice h.2.2.1 ps.length h.2.2.2) ps.length (flK ps) ∧ S.Perm (hb h.1 ++ hb h.2.2.1 ++ ps.flatMap (·.2.2)) ∧ KOs lo n w ps:=by
 obtain ⟨ps,l1,r1,r2,hS,hN,hk⟩:=k
 refine ⟨ps,l1,r1,r2,hS,?_,hk⟩
 exact (List.nodup_append.1 (hS.nodup_iff.1 hN)).2.1
theorem KOs.keep {lo n:Nat} {w w':World} {ps:List KP} (h:KOs lo n w ps) (e:∀ b ∈ ps.flatMap (·.2.2),w'.heap[b]? = w.heap[b]?):KOs lo n w' ps:=
 ⟨h.1,fun p hp => (h.2 p hp).keep fun b hb' => e b (List.mem_flatMap.2 ⟨p,hp,hb'⟩)⟩
theorem KOs.perm {lo n:Nat} {w:World} {ps qs:List KP} (h:KOs lo n w ps) (e:qs.Perm ps):KOs lo n w qs:=
 ⟨(e.flatMap_right _).nodup_iff.2 h.1,fun p hp => h.2 p (e.mem_iff.1 hp)⟩
theorem sub_flat {α β:Type} {f:α → List β} {l m:List α} (h:l.Sublist m):(l.flatMap f).Sublist (m.flatMap f):=by
 induction h with
 | slnil => exact List.Sublist.refl _
 | cons a _ ih => rw [List.flatMap_cons];exact ih.trans (List.sublist_append_right _ _)
 | cons_cons a _ ih => rw [List.flatMap_cons,List.flatMap_cons];exact (List.Sublist.refl _).append ih
theorem KOs.sub {lo n:Nat} {w:World} {ps qs:List KP} (h:KOs lo n w ps) (e:qs.Sublist ps):KOs lo n w qs:=
 ⟨(sub_flat e).nodup h.1,fun p hp => h.2 p (e.mem hp)⟩
theorem KOs.app {lo n:Nat} {w:World} {ps qs:List KP} (h:KOs lo n w ps) (h':KOs lo n w qs) (hd:∀ b ∈ ps.flatMap (·.2.2),b ∉ qs.flatMap (·.2.2)):KOs lo n w (ps ++ qs):=by
 refine ⟨?_,fun p hp => ?_⟩
 ·rw [List.flatMap_append,List.nodup_append]
  exact ⟨h.1,h'.1,fun a ha b hb' e => hd a ha (e ▸ hb')⟩
 ·rcases List.mem_append.1 hp with hp | hp
  ·exact h.2 p hp
  ·exact h'.2 p hp
theorem row_cs {w:World} {B sz n k c:Nat} {e:TypeId} {a:Option Addr} {xs:List Value} (h:w.ownsRow B e sz (.slice a k c) n xs) (h0:0 < n):∃ g,a = some ⟨g,0,none⟩ ∧ g < w.heap.size ∧ Cs w g 0 xs:=by
 rcases h.2 with ⟨_,q⟩ | ⟨g,c',cur,q0,q1,q2,q3⟩
 ·omega
 ·cases q0
  refine ⟨g,rfl,lt_of_heap q2,fun i v e => ?_⟩
  have:=World.ownsRow.cells h (g:=g) rfl i v e
  have ha:(⟨g,0,none⟩:Addr).add i = ⟨g,0 + i,none⟩:=Addr.add_mid g 0 i
  rwa [ha] at this
theorem row_caps {w:World} {B sz n c:Nat} {e:TypeId} {a:Option Addr} {xs:List Value} (h:w.ownsRow B e sz (.slice a n c) n xs):n ≤ c ∧ c ≤ 9223372036854775807:=by
 rcases h.2 with ⟨q,q'⟩ | ⟨g,c',cur,q0,q1,q2,q3,q4,_⟩
 ·cases q;exact ⟨by omega,by omega⟩
 ·cases q0
  exact ⟨q3,by unfold maxLen at q4;omega⟩
theorem KO.knl {lo:Nat}:∀ {n:Nat} {w:World} {h:Hd} {S:List Nat} {t:KT},KO lo n w h S t → KnL n w h.1 h.2.1 h.2.2.1 h.2.2.2 t
 | 0,_,_,_,_,h => h.elim
 | n + 1,w,h,S,t,⟨ps,l1,r1,r2,hS,hN,hk⟩ => by
  have hl:t.kids.length = ps.length:=by rw [l1,List.length_map]
  refine ⟨?_,(row_caps r1).1,(row_caps r1).2,by rw [hl];exact (row_caps r2).1,(row_caps r2).2,?_⟩
  ·by_cases h0:0 < t.its.length
   ·obtain ⟨g,e,hg,hc⟩:=row_cs r1 h0
    exact .inr ⟨g,0,e,hg,cell_flI t.its 0 hc⟩
   ·exact .inl (List.length_eq_zero_iff.1 (by omega))
  ·by_cases h0:0 < ps.length
   ·obtain ⟨g,e,hg,hc⟩:=row_cs r2 h0
    refine .inr ⟨g,0,e,hg,fun j hj => ?_⟩
    have hj':j < ps.length:=by omega
    have ek:t.kids[j] = ps[j].1:=by simp [l1]
    rw [ek]
    exact ⟨_,_,_,_,flK_cell ps 0 hc j hj',(hk ps[j] (List.getElem_mem hj')).knl⟩
   ·exact .inl (List.length_eq_zero_iff.1 (by omega))
theorem Kn.knl {lo:Nat}:∀ {n:Nat} {w:World} {ia ka:Option Addr} {t:KT},Kn lo n w ia ka t → ksz n t ≤ 1048576 → KnL n w ia t.its.length ka t.kids.length t
 | 0,_,_,_,_,h,_ => h.elim
 | n + 1,w,ia,ka,t,⟨bi,bk,h1,h2,h3,h4,h5,h6,h7,h8⟩,hz => by
  have hz':t.its.length + t.kids.length + (t.kids.map (ksz n)).sum ≤ 1048576:=hz
  refine ⟨.inr ⟨bi,0,h1,h5.1,fun j hj => by rw [Nat.zero_add];exact h5.2.1 j hj⟩,Nat.le_refl _,by omega,Nat.le_refl _,by omega,.inr ⟨bk,0,h2,h6,fun j hj => ?_⟩⟩
  obtain ⟨ia',ka',k1,k2⟩:=h8 j hj
  refine ⟨ia',_,ka',_,by rw [Nat.zero_add];exact k1,k2.knl ?_⟩
  have hle:∀ (l:List Nat) (x:Nat),x ∈ l → x ≤ l.sum:=by
   intro l
   induction l with
   | nil => intro x hx;cases hx
   | cons y r ih =>
    intro x hx
    rw [List.sum_cons]
    rcases List.mem_cons.1 hx with e | e
    ·omega
    ·have:=ih x e;omega
  have:=hle (t.kids.map (ksz n)) (ksz n t.kids[j]) (List.mem_map_of_mem (List.getElem_mem hj))
  omega
structure Fr (S:List Nat) (w w':World):Prop where
 os:w'.os = w.os
 tape:w'.tape = w.tape
 output:w'.output = w.output
 size:w.heap.size ≤ w'.heap.size
 blk:∀ k,k < w.heap.size → k ∉ S → w'.heap[k]? = w.heap[k]?
theorem Fr.refl (S:List Nat) (w:World):Fr S w w:=⟨rfl,rfl,rfl,Nat.le_refl _,fun _ _ _ => rfl⟩
theorem Fr.trans {S S':List Nat} {a b c:World} (h:Fr S a b) (h':Fr S' b c) (hS:∀ k,k ∈ S' → k ∈ S ∨ a.heap.size ≤ k):Fr S a c:=
 ⟨h'.os.trans h.os,h'.tape.trans h.tape,h'.output.trans h.output,Nat.le_trans h.size h'.size,fun k hk hn => (h'.blk k (Nat.lt_of_lt_of_le hk h.size) (fun hc => by rcases hS k hc with e | e;exact hn e;omega)).trans (h.blk k hk hn)⟩
theorem Fr.of {w w':World} (h:Below w.heap.size w w') (S:List Nat):Fr S w w':=⟨h.os,h.tape,h.output,h.size,fun k hk _ => h.block k hk⟩
theorem Fr.below {n:Nat} {w w':World} {S:List Nat} (h:Fr S w w') (hn:n ≤ w.heap.size) (hS:∀ k ∈ S,n ≤ k):Below n w w':=
 ⟨h.os,h.tape,h.output,h.size,fun k hk => h.blk k (by omega) (fun hc => by have:=hS k hc;omega)⟩
theorem Fr.set {w:World} {S:List Nat} (a:Addr) (v:Value) (h:a.block ∈ S):Fr S w (w.setCell a v):=
 ⟨rfl,rfl,rfl,by simp [World.setCell],fun k hk hn => Below.heap_setCell _ _ _ _ (fun e => hn (e ▸ h))⟩
def setV:List Value → Nat → List Value → List Value
 | xs,_,[] => xs
 | xs,o,v :: r => setV (xs.set o v) (o + 1) r
theorem setV_eq:∀ (vs xs:List Value) (o:Nat),o + vs.length ≤ xs.length → setV xs o vs = xs.take o ++ vs ++ xs.drop (o + vs.length)
 | [],xs,o,h => by
  unfold setV
  simp
 | v :: r,xs,o,h => by
  simp only [List.length_cons] at h
  unfold setV
  rw [setV_eq r (xs.set o v) (o + 1) (by rw [List.length_set];omega)]
  rw [List.take_set,List.drop_set]
  have e1:(xs.take (o + 1)).set o v = xs.take o ++ [v]:=by
   apply List.ext_getElem?
   intro i
   rw [List.getElem?_set,List.getElem?_append,List.getElem?_take,List.getElem?_take,List.length_take,List.length_take]
   by_cases h1:o = i
   ·subst h1
    rw [if_pos rfl,if_pos (by omega),if_neg (by omega),show o - min o xs.length = 0 by omega]
    rfl
   ·rw [if_neg h1]
    by_cases h2:i < o
    ·rw [if_pos (by omega),if_pos (by omega),if_pos h2]
    ·rw [if_neg (by omega),if_neg (by omega)]
     rw [List.getElem?_eq_none (by simp only [List.length_singleton];omega)]
  rw [e1,if_pos (by omega)]
  simp only [List.length_cons,List.append_assoc,List.singleton_append]
  rw [show o + (r.length + 1) = o + 1 + r.length by omega]
theorem own_set0 {w:World} {base g c n k sz:Nat} {t:TypeId} {xs:List Value} (h:w.ownsRow base t sz (.slice (some ⟨g,0,none⟩) n c) n xs) (x:Value):(w.setCell ⟨g,k,none⟩ x).ownsRow base t sz (.slice (some ⟨g,0,none⟩) n c) n (xs.set k x):=by
 refine ⟨by rw [List.length_set];exact h.1,?_⟩
 rcases h.2 with ⟨q,_⟩ | ⟨g',c',cur,e,q1,q2,q3,q4,q5,q6⟩
 ·cases q
 ·cases e
  refine .inr ⟨g,c,_,rfl,q1,set_at q2,q3,q4,by simp;omega,?_⟩
  rw [Array.toList_setIfInBounds,List.take_set,q6]
theorem own_setV {base g c n sz:Nat} {t:TypeId}:∀ (vs:List Value) {w:World} {xs:List Value} {o:Nat},w.ownsRow base t sz (.slice (some ⟨g,0,none⟩) n c) n xs → (setL w g o vs).ownsRow base t sz (.slice (some ⟨g,0,none⟩) n c) n (setV xs o vs)
 | [],w,xs,o,h => h
 | v :: r,w,xs,o,h => own_setV r (own_set0 h v)
theorem own_setL {w:World} {base g c n o sz:Nat} {t:TypeId} {xs:List Value} (h:w.ownsRow base t sz (.slice (some ⟨g,0,none⟩) n c) n xs) (vs:List Value) (ho:o + vs.length ≤ n * sz):(setL w g o vs).ownsRow base t sz (.slice (some ⟨g,0,none⟩) n c) n (xs.take o ++ vs ++ xs.drop (o + vs.length)):=by
 rw [← setV_eq vs xs o (by rw [h.1];exact ho)]
 exact own_setV vs h
theorem take_lenA {α:Type}:∀ (a b:List α) (k:Nat),(a ++ b).take (a.length + k) = a ++ b.take k
 | [],b,k => by simp
 | x :: a,b,k => by rw [List.cons_append,List.length_cons,show a.length + 1 + k = a.length + k + 1 by omega,List.take_succ_cons,take_lenA a b k,List.cons_append]
theorem drop_lenA {α:Type}:∀ (a b:List α) (k:Nat),(a ++ b).drop (a.length + k) = b.drop k
 | [],b,k => by simp
 | x :: a,b,k => by rw [List.cons_append,List.length_cons,show a.length + 1 + k = a.length + k + 1 by omega,List.drop_succ_cons,drop_lenA a b k]
theorem flat_set {α:Type} {f:α → List Value} {m:Nat} (hf:∀ a,(f a).length = m):∀ (l:List α) (j:Nat) (x:α),j < l.length → (l.set j x).flatMap f = (l.flatMap f).take (j * m) ++ f x ++ (l.flatMap f).drop (j * m + m)
 | [],j,x,h => by cases h
 | a :: r,0,x,_ => by
  rw [List.set_cons_zero,List.flatMap_cons,List.flatMap_cons,Nat.zero_mul,List.take_zero,List.nil_append,Nat.zero_add,show m = (f a).length + 0 by rw [hf];rfl,drop_lenA,List.drop_zero]
 | a :: r,j + 1,x,h => by
  rw [List.set_cons_succ,List.flatMap_cons,List.flatMap_cons,flat_set hf r j x (by simpa using h)]
  rw [show (j + 1) * m = (f a).length + j * m by rw [hf,Nat.add_mul];omega,take_lenA,show (f a).length + j * m + m = (f a).length + (j * m + m) by omega,drop_lenA]
  simp only [List.append_assoc]
theorem flat_take {α:Type} {f:α → List Value} {m:Nat} (hf:∀ a,(f a).length = m):∀ (l:List α) (j:Nat),(l.take j).flatMap f = (l.flatMap f).take (j * m)
 | [],j => by simp
 | a :: r,0 => by simp
 | a :: r,j + 1 => by
  rw [List.take_succ_cons,List.flatMap_cons,List.flatMap_cons,flat_take hf r j,show (j + 1) * m = (f a).length + j * m by rw [hf,Nat.add_mul];omega,take_lenA]
theorem flat_drop {α:Type} {f:α → List Value} {m:Nat} (hf:∀ a,(f a).length = m):∀ (l:List α) (j:Nat),(l.drop j).flatMap f = (l.flatMap f).drop (j * m)
 | [],j => by simp
 | a :: r,0 => by simp
 | a :: r,j + 1 => by
  rw [List.drop_succ_cons,List.flatMap_cons,flat_drop hf r j,show (j + 1) * m = (f a).length + j * m by rw [hf,Nat.add_mul];omega,drop_lenA]
theorem ci_len (x:It):(ci x).length = 5:=rfl
theorem ckp_len (p:KP):(ckh p.1 p.2.1).length = 7:=rfl
theorem flI_set (l:List It) (j:Nat) (x:It) (h:j < l.length):flI (l.set j x) = (flI l).take (j * 5) ++ ci x ++ (flI l).drop (j * 5 + 5):=flat_set ci_len l j x h
theorem flK_set (l:List KP) (j:Nat) (x:KP) (h:j < l.length):flK (l.set j x) = (flK l).take (j * 7) ++ ckh x.1 x.2.1 ++ (flK l).drop (j * 7 + 7):=flat_set ckp_len l j x h
theorem row_setI {w:World} {B g c n j:Nat} {l:List It} (h:w.ownsRow B 40 5 (.slice (some ⟨g,0,none⟩) n c) n (flI l)) (hn:l.length = n) (hj:j < n) (x:It):(setL w g (j * 5) (ci x)).ownsRow B 40 5 (.slice (some ⟨g,0,none⟩) n c) n (flI (l.set j x)):=by
 rw [flI_set l j x (by omega)]
 exact own_setL h (ci x) (by rw [ci_len];omega)
theorem row_setK {w:World} {B g c n j:Nat} {l:List KP} (h:w.ownsRow B 35 7 (.slice (some ⟨g,0,none⟩) n c) n (flK l)) (hn:l.length = n) (hj:j < n) (x:KP):(setL w g (j * 7) (ckh x.1 x.2.1)).ownsRow B 35 7 (.slice (some ⟨g,0,none⟩) n c) n (flK (l.set j x)):=by
 rw [flK_set l j x (by omega)]
 exact own_setL h (ckh x.1 x.2.1) (by rw [ckp_len];omega)
theorem row_there {w:World} {B g c n sz:Nat} {e:TypeId} {xs:List Value} (h:w.ownsRow B e sz (.slice (some ⟨g,0,none⟩) n c) n xs):w.there g 0 (n * sz):=by
 rcases h.2 with ⟨q,_⟩ | ⟨g',c',cur,e',q1,q2,q3,q4,q5,q6⟩
 ·cases q
 ·cases e'
  intro j hj
  have hc:j < cur.size:=by
   have:n * sz ≤ c * sz:=Nat.mul_le_mul_right _ q3
   omega
  refine ⟨?_,?_⟩
  ·simp [World.cell?,q2,Nat.zero_add,Array.getElem?_eq_getElem hc]
  ·simp [World.frozen?,q2]
theorem row_at {w:World} {B g c n sz:Nat} {e:TypeId} {xs:List Value} (h:w.ownsRow B e sz (.slice (some ⟨g,0,none⟩) n c) n xs):Cs w g 0 xs:=by
 intro i v e
 have:=World.ownsRow.cells h (g:=g) rfl i v e
 have ha:(⟨g,0,none⟩:Addr).add i = ⟨g,0 + i,none⟩:=Addr.add_mid g 0 i
 rwa [ha] at this
theorem row_itAt {w:World} {B g c n:Nat} {l:List It} (h:w.ownsRow B 40 5 (.slice (some ⟨g,0,none⟩) n c) n (flI l)) (j:Nat) (hj:j < l.length):Cs w g (j * 5) (ci l[j]):=by
 have:=cell_flI l 0 (row_at h) j hj
 rwa [Nat.zero_add] at this
theorem row_knAt {w:World} {B g c n:Nat} {l:List KP} (h:w.ownsRow B 35 7 (.slice (some ⟨g,0,none⟩) n c) n (flK l)) (j:Nat) (hj:j < l.length):Cs w g (j * 7) (ckh l[j].1 l[j].2.1):=by
 have:=flK_cell l 0 (row_at h) j hj
 rwa [Nat.zero_add] at this
theorem row_some {w:World} {B n k c sz:Nat} {e:TypeId} {a:Option Addr} {xs:List Value} (h:w.ownsRow B e sz (.slice a k c) n xs) (h0:0 < n):∃ g,a = some ⟨g,0,none⟩ ∧ B ≤ g ∧ g < w.heap.size ∧ k = n:=by
 rcases h.2 with ⟨_,q⟩ | ⟨g,c',cur,q0,q1,q2,q3⟩
 ·omega
 ·cases q0
  exact ⟨g,rfl,q1,lt_of_heap q2,rfl⟩
theorem row_lo {w:World} {B B' n sz:Nat} {e:TypeId} {v:Value} {xs:List Value} (h:w.ownsRow B e sz v n xs) (hb:B' ≤ B):w.ownsRow B' e sz v n xs:=by
 refine ⟨h.1,?_⟩
 rcases h.2 with hn | ⟨g,c',cur,q0,q1,q2⟩
 ·exact .inl hn
 ·exact .inr ⟨g,c',cur,q0,Nat.le_trans hb q1,q2⟩
theorem KO.lo {lo lo':Nat} (hl:lo' ≤ lo):∀ {n:Nat} {w:World} {h:Hd} {S:List Nat} {t:KT},KO lo n w h S t → KO lo' n w h S t
 | 0,_,_,_,_,h => h.elim
 | n + 1,_,_,_,_,⟨ps,l1,r1,r2,hS,hN,hk⟩ => ⟨ps,l1,row_lo r1 hl,row_lo r2 hl,hS,hN,fun p hp => (hk p hp).lo hl⟩
theorem KO.le {lo n m:Nat} {w:World} {h:Hd} {S:List Nat} {t:KT} (k:KO lo n w h S t) (hm:n ≤ m):KO lo m w h S t:=by
 obtain ⟨j,rfl⟩:=Nat.le.dest hm
 clear hm
 induction j with
 | zero => exact k
 | succ j ih => exact ih.more
theorem KOs.nil (lo n:Nat) (w:World):KOs lo n w []:=⟨List.nodup_nil,fun p hp => by cases hp⟩
theorem KOs.one {lo n:Nat} {w:World} {p:KP} (h:KO lo n w p.2.1 p.2.2 p.1):KOs lo n w [p]:=
 ⟨by simpa using h.nodup,fun q hq => by rw [List.mem_singleton] at hq;rw [hq];exact h⟩
theorem KO.mk' {lo n:Nat} {w:World} {h:Hd} {t:KT} {ps:List KP} (l1:t.kids = ps.map (·.1)) (r1:w.ownsRow lo 40 5 (.slice h.1 t.its.length h.2.1) t.its.length (flI t.its)) (r2:w.ownsRow lo 35 7 (.slice h.2.2.1 ps.length h.2.2.2) ps.length (flK ps)) (hk:KOs lo n w ps) (d1:∀ b ∈ hb h.1,b ∉ hb h.2.2.1 ∧ b ∉ ps.flatMap (·.2.2)) (d2:∀ b ∈ hb h.2.2.1,b ∉ ps.flatMap (·.2.2)):KO lo (n + 1) w h (hb h.1 ++ hb h.2.2.1 ++ ps.flatMap (·.2.2)) t:=by
 refine ⟨ps,l1,r1,r2,List.Perm.refl _,?_,hk.2⟩
 have n1:∀ a:Option Addr,(hb a).Nodup:=fun a => by cases a <;> simp [hb]
 rw [List.nodup_append,List.nodup_append]
 refine ⟨⟨n1 _,n1 _,fun a ha b hb' e => (d1 a ha).1 (e ▸ hb')⟩,hk.1,fun a ha b hb' e => ?_⟩
 rcases List.mem_append.1 ha with ha | ha
 ·exact (d1 a ha).2 (e ▸ hb')
 ·exact d2 a ha (e ▸ hb')
theorem row_nilI (w:World) (lo c:Nat) (hc:c = 0):w.ownsRow lo 40 5 (.slice none 0 c) 0 (flI []):=by subst hc;exact ⟨by simp [flI],.inl ⟨rfl,rfl⟩⟩
theorem row_nilK (w:World) (lo c:Nat) (hc:c = 0):w.ownsRow lo 35 7 (.slice none 0 c) 0 (flK []):=by subst hc;exact ⟨by simp [flK],.inl ⟨rfl,rfl⟩⟩
def SrcA (w:World) (b:Option Addr) (m:Nat) (news:List Value):Prop:=(m = 0 ∧ news = []) ∨ ∃ ad,b = some ad ∧ ∀ j u,news[j]? = some u → w.cell? (ad.add j) = some u
theorem run_app {P:Program} (w:World) (base:Nat) (t ty e:TypeId) (i:TypeInfo) (z:Value) (size bytes:Nat) (ht:P.underlying t = some (.slice e)) (hi:P.info? e = some i) (hz:i.zero = some z)
  (hsize:i.size = size) (hby:i.bytes = bytes) (hzs:z.cells.size = size) (hsz:0 < size)
  (a:Option Addr) (n cap:Nat) (xs:List Value) (hown:w.ownsRow base e size (.slice a n cap) n xs)
  (b:Option Addr) (m c:Nat) (news:List Value) (hsrc:SrcA w b m news) (hl:news.length = m * size) (h1:∀ u ∈ news,u.oneCell' = true)
  (h63:n + m ≤ maxLen) (hbytes:(n + m) * bytes ≤ 140737488355328) (hbase:base ≤ w.heap.size) :
  ∃ a' c' w',(Builtin.append_ #[t,t] ty #[.slice a n cap,.slice b m c]).run P w = .ok (.slice a' (n + m) c') w' ∧ w'.ownsRow base e size (.slice a' (n + m) c') (n + m) (xs ++ news) ∧ w.grownBy w' (Value.ownBlock (.slice a n cap)) ∧ ∀ k ∈ hb a',k ∈ hb a ∨ k = w.heap.size:=by
 have nothing:m = 0 → news = [] → ∃ a' c' w',(Builtin.append_ #[t,t] ty #[.slice a n cap,.slice b m c]).run P w = .ok (.slice a' (n + m) c') w' ∧ w'.ownsRow base e size (.slice a' (n + m) c') (n + m) (xs ++ news) ∧ w.grownBy w' (Value.ownBlock (.slice a n cap)) ∧ ∀ k ∈ hb a',k ∈ hb a ∨ k = w.heap.size:=fun e1 e2 => by
  subst e1 e2
  have hc:=(row_caps hown).1
  refine ⟨a,cap,w,?_,by rw [List.append_nil];exact hown,⟨rfl,rfl,rfl,Nat.le_refl _,fun _ _ _ => rfl⟩,fun k hk => .inl hk⟩
  cases a <;> cases b <;> simp [Builtin.append_,run_underlying ht,sizeOf,typeInfo,hi,Builtin.lenOf,Builtin.firstCells,loadCells,loadCellsFrom,hc,storeCells]
 rcases hsrc with ⟨e1,e2⟩ | ⟨ad,rfl,hnews⟩
 ·exact nothing e1 e2
 ·obtain ⟨v',w',hr,h2,h3,h4,h5⟩:=run_append_own_at (P:=P) w base t ty e i z size bytes ht hi hz hsize hby hzs hsz _ n xs hown ad m c news hl hnews h1 h63 hbytes hbase
  obtain ⟨a',c',rfl⟩:∃ a' c',v' = .slice a' (n + m) c':=by
   rcases h2.2 with ⟨q,q'⟩ | ⟨g,cap,cur,e,_⟩
   ·exact ⟨none,0,by rw [q,q']⟩
   ·exact ⟨_,_,e⟩
  refine ⟨a',c',w',hr,h2,h3,fun k hk => ?_⟩
  have hk':Value.ownBlock (.slice a' (n + m) c') = some k:=by
   cases a' with
   | none => simp [hb] at hk
   | some x =>
    have:k = x.block:=by simpa [hb] using hk
    rw [this];rfl
  rcases h5 with h5 | h5
  ·left
   rw [h5] at hk'
   cases a with
   | none => cases hk'
   | some x =>
    have:x.block = k:=by simpa [Value.ownBlock] using hk'
    simp [hb,this]
  ·right
   rw [h5] at hk'
   injection hk' with e
   exact e.symm
theorem step_app {P:Program} {w:World} {ops:Array Oper} {o:Oper} {a:Act} {K:Act → World → Prop} {Q:Exit → Act → World → Prop} {E:Prop} (hgd:o.guard = none) (s x:Operand) (t:TypeId)
  (ho:o.op = .call { callee:=.builtin .append,args:=#[s,x],argTypes:=#[t,t] })
  (base:Nat) (e:TypeId) (i:TypeInfo) (z:Value) (size bytes:Nat) (ht:P.underlying t = some (.slice e)) (hi:P.info? e = some i) (hz:i.zero = some z)
  (hsize:i.size = size) (hby:i.bytes = bytes) (hzs:z.cells.size = size) (hsz:0 < size)
  (a0:Option Addr) (n cap:Nat) (xs:List Value) (hs:a.eval s = .slice a0 n cap) (hown:w.ownsRow base e size (.slice a0 n cap) n xs)
  (b:Option Addr) (m c:Nat) (news:List Value) (hx:a.eval x = .slice b m c) (hsrc:SrcA w b m news) (hl:news.length = m * size) (h1:∀ u ∈ news,u.oneCell' = true)
  (h63:n + m ≤ maxLen) (hbytes:(n + m) * bytes ≤ 140737488355328) (hbase:base ≤ w.heap.size)
  (h:∀ a' c' w',w'.ownsRow base e size (.slice a' (n + m) c') (n + m) (xs ++ news) → w.grownBy w' (Value.ownBlock (.slice a0 n cap)) → (∀ k ∈ hb a',k ∈ hb a0 ∨ k = w.heap.size) → K (a.put o.dst (.slice a' (n + m) c')) w') :
  if Region.wanted o (yielded ops a.tmps) = true then Oper.wp P o a w K Q else E:=by
 have hw:Region.wanted o (yielded ops a.tmps) = true:=by simp [Region.wanted,hgd]
 rw [if_pos hw]
 obtain ⟨a',c',w',hr,h2,h3,h4⟩:=run_app (P:=P) w base t o.type e i z size bytes ht hi hz hsize hby hzs hsz a0 n cap xs hown b m c news hsrc hl h1 h63 hbytes hbase
 unfold Oper.wp execOp
 simp only [ho,resolve,invoke,builtin,Sem.run_bind,Sem.run_pure,Result.andThen_ok,List.map_toArray,List.map_cons,List.map_nil,hs,hx,hr]
 exact h a' c' w' h2 h3 h4
theorem wpList_app {P:Program} {w:World} {ops:Array Oper} {rest:List Oper} {o:Oper} {a:Act} {Q:Exit → Act → World → Prop} (hgd:o.guard = none) (s x:Operand) (t:TypeId)
  (ho:o.op = .call { callee:=.builtin .append,args:=#[s,x],argTypes:=#[t,t] })
  (base:Nat) (e:TypeId) (i:TypeInfo) (z:Value) (size bytes:Nat) (ht:P.underlying t = some (.slice e)) (hi:P.info? e = some i) (hz:i.zero = some z)
  (hsize:i.size = size) (hby:i.bytes = bytes) (hzs:z.cells.size = size) (hsz:0 < size)
  (a0:Option Addr) (n cap:Nat) (xs:List Value) (hs:a.eval s = .slice a0 n cap) (hown:w.ownsRow base e size (.slice a0 n cap) n xs)
  (b:Option Addr) (m c:Nat) (news:List Value) (hx:a.eval x = .slice b m c) (hsrc:SrcA w b m news) (hl:news.length = m * size) (h1:∀ u ∈ news,u.oneCell' = true)
  (h63:n + m ≤ maxLen) (hbytes:(n + m) * bytes ≤ 140737488355328) (hbase:base ≤ w.heap.size)
  (h:∀ a' c' w',w'.ownsRow base e size (.slice a' (n + m) c') (n + m) (xs ++ news) → w.grownBy w' (Value.ownBlock (.slice a0 n cap)) → (∀ k ∈ hb a',k ∈ hb a0 ∨ k = w.heap.size) → wpList P ops Q rest (a.put o.dst (.slice a' (n + m) c')) w'):wpList P ops Q (o :: rest) a w:=by
 refine wpList_plain hgd fun K hK => ?_
 obtain ⟨a',c',w',hr,h2,h3,h4⟩:=run_app (P:=P) w base t o.type e i z size bytes ht hi hz hsize hby hzs hsz a0 n cap xs hown b m c news hsrc hl h1 h63 hbytes hbase
 unfold Oper.wp execOp
 simp only [ho,resolve,invoke,builtin,Sem.run_bind,Sem.run_pure,Result.andThen_ok,List.map_toArray,List.map_cons,List.map_nil,hs,hx,hr]
 exact hK _ _ (h a' c' w' h2 h3 h4)
theorem hb_own {a:Option Addr} {n c k:Nat} (h:k ∉ hb a):some k ≠ Value.ownBlock (.slice a n c):=by
 cases a with
 | none => intro e;cases e
 | some x =>
  intro e
  have:k = x.block:=by simpa [Value.ownBlock] using e
  exact h (by simp [hb,this])
theorem app_blk {w w':World} {a:Option Addr} {n c k:Nat} (hg:w.grownBy w' (Value.ownBlock (.slice a n c))) (hk:k < w.heap.size) (h:k ∉ hb a):w'.heap[k]? = w.heap[k]?:=hg.block k hk (hb_own h)
theorem app_fr {w w':World} {a:Option Addr} {n c:Nat} (hg:w.grownBy w' (Value.ownBlock (.slice a n c))):Fr (hb a) w w':=⟨hg.os,hg.tape,hg.output,hg.size,fun k hk h => app_blk hg hk h⟩
theorem Fr.mono {S S':List Nat} {w w':World} (h:Fr S w w') (hS:∀ k ∈ S,k ∈ S' ∨ w.heap.size ≤ k):Fr S' w w':=
 ⟨h.os,h.tape,h.output,h.size,fun k hk hn => h.blk k hk (fun hc => by rcases hS k hc with e | e;exact hn e;omega)⟩
theorem src_own {w:World} {B sz n k c:Nat} {e:TypeId} {a:Option Addr} {xs:List Value} (h:w.ownsRow B e sz (.slice a k c) n xs):SrcA w a n xs:=by
 rcases h.2 with ⟨q,q'⟩ | ⟨g,c',cur,q0,q1⟩
 ·subst q'
  exact .inl ⟨rfl,List.eq_nil_of_length_eq_zero (by rw [h.1];simp)⟩
 ·cases q0
  exact .inr ⟨_,rfl,fun j u e => World.ownsRow.cells h (g:=g) rfl j u e⟩
theorem src_items {w:World} {a:Option Addr} {l:List It} (h:ItL w a l):SrcA w a l.length (flI l):=by
 rcases h with h | ⟨b,off,rfl,hb,h⟩
 ·subst h;exact .inl ⟨rfl,rfl⟩
 ·refine .inr ⟨_,rfl,fun j u e => ?_⟩
  rw [Addr.add_mid b off j]
  exact flI_cell l off h j u e
def KOp (lo n:Nat) (w:World) (h:Hd) (S:List Nat) (t:KT) (ps:List KP):Prop:=t.kids = ps.map (·.1) ∧ w.ownsRow lo 40 5 (.slice h.1 t.its.length h.2.1) t.its.length (flI t.its) ∧ w.ownsRow lo 35 7 (.slice h.2.2.1 ps.length h.2.2.2) ps.length (flK ps) ∧ S.Perm (hb h.1 ++ hb h.2.2.1 ++ ps.flatMap (·.2.2)) ∧ S.Nodup ∧ ∀ p ∈ ps,KO lo n w p.2.1 p.2.2 p.1
theorem KO.op {lo n:Nat} {w:World} {h:Hd} {S:List Nat} {t:KT} (k:KO lo (n + 1) w h S t):∃ ps,KOp lo n w h S t ps:=k
theorem KOp.ko {lo n:Nat} {w:World} {h:Hd} {S:List Nat} {t:KT} {ps:List KP} (k:KOp lo n w h S t ps):KO lo (n + 1) w h S t:=⟨ps,k⟩
theorem KOp.len {lo n:Nat} {w:World} {h:Hd} {S:List Nat} {t:KT} {ps:List KP} (k:KOp lo n w h S t ps):t.kids.length = ps.length:=by rw [k.1,List.length_map]
theorem KOp.parts {lo n:Nat} {w:World} {h:Hd} {S:List Nat} {t:KT} {ps:List KP} (k:KOp lo n w h S t ps):(∀ b ∈ hb h.1,b ∈ S) ∧ (∀ b ∈ hb h.2.2.1,b ∈ S) ∧ (∀ b ∈ ps.flatMap (·.2.2),b ∈ S) ∧ (∀ b ∈ hb h.1,b ∉ hb h.2.2.1 ∧ b ∉ ps.flatMap (·.2.2)) ∧ (∀ b ∈ hb h.2.2.1,b ∉ ps.flatMap (·.2.2)) ∧ KOs lo n w ps:=by
 obtain ⟨l1,r1,r2,hS,hN,hk⟩:=k
 have hN2:=hS.nodup_iff.1 hN
 rw [List.nodup_append,List.nodup_append] at hN2
 obtain ⟨⟨_,_,d1⟩,n3,d2⟩:=hN2
 refine ⟨fun b h' => hS.mem_iff.2 (by simp only [List.mem_append];exact .inl (.inl h')),fun b h' => hS.mem_iff.2 (by simp only [List.mem_append];exact .inl (.inr h')),fun b h' => hS.mem_iff.2 (by simp only [List.mem_append];exact .inr h'),fun b h' => ⟨fun hc => d1 b h' b hc rfl,fun hc => d2 b (List.mem_append_left _ h') b hc rfl⟩,fun b h' hc => d2 b (List.mem_append_right _ h') b hc rfl,n3,hk⟩
theorem KO.leafy {lo n:Nat} {w:World} {a:Option Addr} {c:Nat} {l:List It} (b:Bx) (lf:Bool) (h:w.ownsRow lo 40 5 (.slice a l.length c) l.length (flI l)):KO lo (n + 1) w (a,c,none,0) (hb a) (.mk b lf l []):=by
 have:=KO.mk' (lo:=lo) (n:=n) (w:=w) (h:=(a,c,none,0)) (t:=.mk b lf l []) (ps:=[]) rfl h (row_nilK w lo 0 rfl) (KOs.nil lo n w) (fun b _ => ⟨by simp [hb],by simp⟩) (fun b h => by simp [hb] at h)
 simpa [hb] using this
theorem KOp.addKid {lo n:Nat} {w w':World} {h:Hd} {S:List Nat} {t:KT} {ps:List KP} {q:KP} {a':Option Addr} {c' m:Nat} (k:KOp lo n w h S t ps) (hq:KO lo n w q.2.1 q.2.2 q.1) (hd:∀ b ∈ q.2.2,b ∉ S)
  (hm:m = ps.length) (hown:w'.ownsRow lo 35 7 (.slice a' (m + 1) c') (m + 1) (flK ps ++ ckh q.1 q.2.1)) (hg:w.grownBy w' (Value.ownBlock (.slice h.2.2.1 m h.2.2.2))) (ha:∀ b ∈ hb a',b ∈ hb h.2.2.1 ∨ b = w.heap.size) :
  ∃ S',KO lo (n + 1) w' (h.1,h.2.1,a',c') S' (.mk t.box t.lf t.its (t.kids ++ [q.1])) ∧ ∀ b ∈ S',b ∈ S ∨ b ∈ q.2.2 ∨ b = w.heap.size:=by
 obtain ⟨mI,mK,mP,d1,d2,hks⟩:=k.parts
 have hSl:∀ b ∈ S,b < w.heap.size:=fun b hb => (k.ko.lt b hb).2
 have hql:=hq.lt
 obtain ⟨l1,r1,r2,hS,hN,hk⟩:=k
 subst hm
 have hfar:∀ b,b < w.heap.size → b ∉ hb h.2.2.1 → w'.heap[b]? = w.heap[b]?:=fun b h1 h2 => app_blk hg h1 h2
 have hn7:(ps ++ [q]).length = ps.length + 1:=by rw [List.length_append,List.length_singleton]
 refine ⟨_,KO.mk' (ps:=ps ++ [q]) ?_ ?_ ?_ ?_ ?_ ?_,?_⟩
 ·show t.kids ++ [q.1] = (ps ++ [q]).map (·.1)
  rw [List.map_append,l1];rfl
 ·exact row_blk r1 (fun b hb' => hfar b (hSl b (mI b hb')) (d1 b hb').1)
 ·rw [hn7,flK_app]
  rw [show flK [q] = ckh q.1 q.2.1 from List.append_nil _]
  exact hown
 ·refine KOs.app (hks.keep ?_) (KOs.one (hq.keep ?_)) ?_
  ·exact fun b hb' => hfar b (hSl b (mP b hb')) (fun hc => d2 b hc hb')
  ·exact fun b hb' => hfar b (hql b hb').2 (fun hc => hd b hb' (mK b hc))
  ·intro b hb' hc
   rw [List.flatMap_cons,List.flatMap_nil,List.append_nil] at hc
   exact hd b hc (mP b hb')
 ·intro b hb'
  refine ⟨fun hc => ?_,fun hc => ?_⟩
  ·rcases ha b hc with e | e
   ·exact (d1 b hb').1 e
   ·have:=hSl b (mI b hb');omega
  ·rw [List.flatMap_append] at hc
   rcases List.mem_append.1 hc with hc | hc
   ·exact (d1 b hb').2 hc
   ·rw [List.flatMap_cons,List.flatMap_nil,List.append_nil] at hc
    exact hd b hc (mI b hb')
 ·intro b hb' hc
  rw [List.flatMap_append] at hc
  rcases List.mem_append.1 hc with hc | hc
  ·rcases ha b hb' with e | e
   ·exact d2 b e hc
   ·have:=hSl b (mP b hc);omega
  ·rw [List.flatMap_cons,List.flatMap_nil,List.append_nil] at hc
   rcases ha b hb' with e | e
   ·exact hd b hc (mK b e)
   ·have:=(hql b hc).2;omega
 ·intro b hb'
  rw [List.flatMap_append] at hb'
  simp only [List.mem_append] at hb'
  rcases hb' with (hb' | hb') | (hb' | hb')
  ·exact .inl (mI b hb')
  ·rcases ha b hb' with e | e
   ·exact .inl (mK b e)
   ·exact .inr (.inr e)
  ·exact .inl (mP b hb')
  ·rw [List.flatMap_cons,List.flatMap_nil,List.append_nil] at hb'
   exact .inr (.inl hb')
end Go.Proofs.YtjahlofahjgdbaaGreat
