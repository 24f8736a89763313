import Derived.Test.YtjahlofahjgdbaaGreatJ8
set_option linter.unusedSimpArgs false
set_option linter.unusedVariables false
namespace Go.Proofs.YtjahlofahjgdbaaGreat
open Go.RowKit
theorem itm_leaf (n:Nat) (l:List It):itm n (knotL l) = l:=by
 cases n with
 | zero => rfl
 | succ n => show l ++ List.flatMap (itm n) [] = l;simp
theorem itm_leaf' {n:Nat} {t:KT} (hk:t.kids = []):itm n t = t.its:=by
 cases n with
 | zero => rfl
 | succ n => show t.its ++ t.kids.flatMap (itm n) = t.its;rw [hk];simp
theorem itm_knotK (n:Nat) (ks:List KT):itm (n + 1) (knotK ks) = ks.flatMap (itm n):=by
 show [] ++ ks.flatMap (itm n) = _
 rw [List.nil_append]
theorem itm_more:∀ {n d:Nat} {top:Bool} {t:KT},gd (d + 1) top t = true → d ≤ n → itm (n + 1) t = itm n t
 | n,d,top,t,h,hd => by
  obtain ⟨h1,h2,h3,h5⟩:=gd_parts h
  rcases h5 with ⟨hl,hk,h0,ha⟩ | ⟨hl,hi,hk,ha⟩
  ·rw [itm_leaf' hk,itm_leaf' hk]
  ·rw [List.all_eq_true] at ha
   cases d with
   | zero =>
    have:=ha _ (List.getElem_mem (show 0 < t.kids.length by omega))
    cases this
   | succ d =>
    cases n with
    | zero => omega
    | succ n =>
     show t.its ++ t.kids.flatMap (itm (n + 1)) = t.its ++ t.kids.flatMap (itm n)
     congr 1
     have hm:t.kids.map (itm (n + 1)) = t.kids.map (itm n):=List.map_congr_left (fun x hx => itm_more (n:=n) (ha x hx) (by omega))
     rw [List.flatMap_def,List.flatMap_def,hm]
 termination_by n => n
theorem itm_dn {d n:Nat} {top:Bool} {t:KT} (h:g5 d top t) (hd:d ≤ n):((dn t).flatMap (itm n)).Perm (itm n t):=by
 unfold dn
 by_cases h4:t.fan ≤ 4
 ·rw [if_pos h4];simp
 ·rw [if_neg h4]
  obtain ⟨h1,h2,h3,h5⟩:=h
  rcases h5 with ⟨hl,hk,h0,ha⟩ | ⟨hl,hi,hk,ha⟩
  ·rw [hl,if_pos rfl]
   rw [List.flatMap_cons,List.flatMap_cons,List.flatMap_nil,List.append_nil,itm_leaf,itm_leaf,List.take_append_drop,itm_leaf' hk]
   exact isort_perm befI t.its
  ·rw [hl,if_neg (by simp)]
   cases n with
   | zero =>
    obtain rfl:d = 0:=by omega
    rw [List.all_eq_true] at ha
    have:=ha _ (List.getElem_mem (show 0 < t.kids.length by omega))
    cases this
   | succ n =>
    rw [List.flatMap_cons,List.flatMap_cons,List.flatMap_nil,List.append_nil,itm_knotK,itm_knotK,← List.flatMap_append,List.take_append_drop]
    show ((isort befK t.kids).flatMap (itm n)).Perm (t.its ++ t.kids.flatMap (itm n))
    rw [hi,List.nil_append]
    exact (isort_perm befK t.kids).flatMap_right _
theorem itm_putI {it:It} (hb:bkb it.2 = true):∀ (m n d:Nat) (top:Bool) (t:KT),gd (d + 1) top t = true → d < m → d ≤ n → (itm n (putI m t it)).Perm (it :: itm n t)
 | 0,n,d,top,t,h,hd,hn => by omega
 | m + 1,n,d,top,t,h,hd,hn => by
  obtain ⟨h1,h2,h3,h5⟩:=gd_parts h
  rcases h5 with ⟨hl,hk,h0,ha⟩ | ⟨hl,hi,hk,ha⟩
  ·have e:putI (m + 1) t it = knotL (t.its ++ [it]):=by rw [putI,if_pos hl]
   rw [e,itm_leaf,itm_leaf' hk]
   exact List.perm_append_comm
  ·have hi':=kidF_lt it.2 t.kids (by omega)
   have e:putI (m + 1) t it = knotK (t.kids.take (kidF it.2 t.kids) ++ dn (putI m t.kids[kidF it.2 t.kids] it) ++ t.kids.drop (kidF it.2 t.kids + 1)):=by
    rw [putI,if_neg (by rw [hl];simp),List.getElem?_eq_getElem hi']
   rw [e]
   generalize kidF it.2 t.kids = i at *
   rw [List.all_eq_true] at ha
   have hg:=ha _ (List.getElem_mem hi')
   cases d with
   | zero => cases hg
   | succ d =>
    cases n with
    | zero => omega
    | succ n =>
     have ih:=itm_putI hb m n d false t.kids[i] hg (by omega) (by omega)
     have hp:=itm_dn (putI_g5 hb m d false t.kids[i] hg (by omega)).1 (show d ≤ n by omega)
     rw [itm_knotK]
     show (List.flatMap (itm n) _).Perm (it :: (t.its ++ t.kids.flatMap (itm n)))
     rw [hi,List.nil_append,List.flatMap_append,List.flatMap_append]
     have e2:t.kids.flatMap (itm n) = (t.kids.take i).flatMap (itm n) ++ (itm n t.kids[i] ++ (t.kids.drop (i + 1)).flatMap (itm n)):=by
      conv => lhs;rw [← List.take_append_drop i t.kids,List.drop_eq_getElem_cons hi']
      rw [List.flatMap_append,List.flatMap_cons]
     rw [e2,List.append_assoc]
     refine (((hp.trans ih).append_right _).append_left _).trans ?_
     rw [List.cons_append]
     exact List.perm_middle
theorem itm_putT {it:It} {d n:Nat} {t:KT} (hb:bkb it.2 = true) (h:gd (d + 1) true t = true) (hd:d < 20) (hn:d + 1 ≤ n):(itm n (putT t it)).Perm (it :: itm n t):=by
 obtain ⟨hg,_⟩:=putI_g5 hb 20 d true t h hd
 unfold putT
 rcases dn_gd hg with ⟨_,e1,e2⟩ | ⟨a,b,e1,e2,e3⟩
 ·rw [e1];exact itm_putI hb 20 n d true t h hd (by omega)
 ·cases n with
  | zero => omega
  | succ n =>
   have h1:=itm_dn hg (show d ≤ n by omega)
   have h2:=itm_putI hb 20 n d true t h hd (by omega)
   rw [e1] at h1 ⊢
   show (itm (n + 1) (knotK [a,b])).Perm _
   rw [itm_knotK]
   refine (h1.trans h2).trans ?_
   rw [itm_more h (show d ≤ n by omega)]
def cpy:Nat → KT → KT
 | 0,t => .mk t.box t.lf t.its []
 | n + 1,t => .mk t.box t.lf t.its (t.kids.map (cpy n))
theorem cpy_gd:∀ (n d:Nat) (top:Bool) (t:KT),gd d top t = true → d ≤ n + 1 → cpy n t = t
 | n,0,top,t,h,hd => by cases h
 | 0,d + 1,top,t,h,hd => by
  obtain ⟨h1,h2,h3,h5⟩:=gd_parts h
  obtain rfl:d = 0:=by omega
  rcases h5 with ⟨hl,hk,h0,ha⟩ | ⟨hl,hi,hk,ha⟩
  ·obtain ⟨b,l,i,k⟩:=t
   simp only [KT.kids] at hk
   subst hk;rfl
  ·rw [List.all_eq_true] at ha
   have:=ha _ (List.getElem_mem (show 0 < t.kids.length by omega))
   cases this
 | n + 1,d + 1,top,t,h,hd => by
  obtain ⟨h1,h2,h3,h5⟩:=gd_parts h
  obtain ⟨b,l,i,k⟩:=t
  show KT.mk b l i (k.map (cpy n)) = _
  congr 1
  rcases h5 with ⟨hl,hk,h0,ha⟩ | ⟨hl,hi,hk,ha⟩
  ·simp only [KT.kids] at hk
   subst hk;rfl
  ·rw [List.all_eq_true] at ha
   exact (List.map_congr_left (fun x hx => cpy_gd n d false x (ha x hx) (by omega))).trans (List.map_id _)
def puts (t:KT) (it:It):Bool:=tokS t && bkb it.2 && !((itm 20 t).map (·.1)).contains it.1 && decide ((itm 20 t).length < 400)
def putA (t:KT) (it:It):KT:=if puts t it then putT t it else cpy 20 t
def cutT (t:KT) (id:Int):KT:=((itm 20 t).filter (fun x => decide (x.1 ≠ id))).foldl putT (knotL [])
def cuts (t:KT) (id:Int):Bool:=tokS t && ((itm 20 t).map (·.1)).contains id
def cutA (t:KT) (id:Int):KT:=if cuts t id then cutT t id else cpy 20 t
theorem tok_of {d:Nat} {t:KT} (h:gd d true t = true) (hd:d ≤ 20) (hn:((itm 20 t).map (·.1)).Nodup) (hl:(itm 20 t).length ≤ 400):tokS t = true:=by
 unfold tokS
 rw [knh_gd 20 d true t h hd]
 simp only [Bool.and_eq_true,decide_eq_true_eq]
 exact ⟨⟨by omega,hn⟩,hl⟩
theorem tok_putT {it:It} {t:KT} (h:tokS t = true) (hb:bkb it.2 = true) (hn:it.1 ∉ (itm 20 t).map (·.1)) (hl:(itm 20 t).length < 400):tokS (putT t it) = true ∧ (itm 20 (putT t it)).Perm (it :: itm 20 t):=by
 obtain ⟨d,hg,h8,_,_⟩:=tok_gd h
 unfold tokS at h
 simp only [Bool.and_eq_true,decide_eq_true_eq] at h
 obtain ⟨⟨_,hnd⟩,_⟩:=h
 cases d with
 | zero => cases hg
 | succ d =>
  have hp:=itm_putT (n:=20) hb hg (by omega) (by omega)
  have h1:((itm 20 (putT t it)).map (·.1)).Nodup:=(hp.map (·.1)).nodup_iff.2 (by rw [List.map_cons,List.nodup_cons];exact ⟨hn,hnd⟩)
  have h2:(itm 20 (putT t it)).length ≤ 400:=by rw [hp.length_eq,List.length_cons];omega
  refine ⟨?_,hp⟩
  rcases putT_gd hb hg (by omega) with e | e
  ·exact tok_of e (by omega) h1 h2
  ·exact tok_of e (by omega) h1 h2
theorem itm_ok:∀ (n d:Nat) (top:Bool) (t:KT),gd d top t = true → (itm n t).all (fun x => bkb x.2) = true
 | n,0,top,t,h => by cases h
 | n,d + 1,top,t,h => by
  obtain ⟨h1,h2,h3,h5⟩:=gd_parts h
  rcases h5 with ⟨hl,hk,h0,ha⟩ | ⟨hl,hi,hk,ha⟩
  ·rw [itm_leaf' hk]
   unfold KT.ibs at ha
   rw [List.all_map] at ha
   exact ha
  ·cases n with
   | zero => show (t.its).all _ = true;rw [hi];rfl
   | succ n =>
    show (t.its ++ t.kids.flatMap (itm n)).all _ = true
    rw [hi,List.nil_append,List.all_flatMap,List.all_eq_true]
    rw [List.all_eq_true] at ha
    exact fun x hx => itm_ok n d false x (ha x hx)
theorem tok_puts:∀ (l:List It) (t:KT),tokS t = true → l.all (fun x => bkb x.2) = true → ((l ++ itm 20 t).map (·.1)).Nodup → l.length + (itm 20 t).length ≤ 400 → tokS (l.foldl putT t) = true ∧ (itm 20 (l.foldl putT t)).Perm (l ++ itm 20 t)
 | [],t,h,_,_,_ => ⟨h,List.Perm.refl _⟩
 | x :: r,t,h,ha,hn,hl => by
  rw [List.all_cons,Bool.and_eq_true] at ha
  rw [List.cons_append,List.map_cons,List.nodup_cons] at hn
  rw [List.length_cons] at hl
  have hx:x.1 ∉ (itm 20 t).map (·.1):=fun hc => hn.1 (by rw [List.map_append];exact List.mem_append_right _ hc)
  obtain ⟨h1,h2⟩:=tok_putT h ha.1 hx (by omega)
  have hp:(r ++ itm 20 (putT t x)).Perm (x :: (r ++ itm 20 t)):=(h2.append_left r).trans List.perm_middle
  have hn':((r ++ itm 20 (putT t x)).map (·.1)).Nodup:=(hp.map (·.1)).nodup_iff.2 (by rw [List.map_cons,List.nodup_cons];exact hn)
  obtain ⟨h3,h4⟩:=tok_puts r (putT t x) h1 ha.2 hn' (by rw [h2.length_eq,List.length_cons];omega)
  exact ⟨h3,h4.trans hp⟩
theorem tok_leaf:tokS (knotL []) = true:=by
 refine tok_of (d:=1) (gd_of (knotL_g5 (by simp) (.inl rfl) rfl) (by show (0:Nat) ≤ 4;omega)) (by omega) ?_ ?_
 ·rw [itm_leaf];exact List.nodup_nil
 ·rw [itm_leaf];simp
theorem tok_cutT {t:KT} (id:Int) (h:tokS t = true):tokS (cutT t id) = true ∧ (itm 20 (cutT t id)).Perm ((itm 20 t).filter (fun x => decide (x.1 ≠ id))):=by
 obtain ⟨d,hg,_,_,_⟩:=tok_gd h
 unfold tokS at h
 simp only [Bool.and_eq_true,decide_eq_true_eq] at h
 obtain ⟨⟨_,hnd⟩,hle⟩:=h
 have ha:=itm_ok 20 d true t hg
 rw [List.all_eq_true] at ha
 have hsub:((itm 20 t).filter (fun x => decide (x.1 ≠ id))).Sublist (itm 20 t):=List.filter_sublist
 have:=tok_puts ((itm 20 t).filter (fun x => decide (x.1 ≠ id))) (knotL []) tok_leaf (by rw [List.all_eq_true];exact fun x hx => ha x (hsub.mem hx)) (by rw [itm_leaf,List.append_nil];exact (hsub.map _).nodup hnd) (by rw [itm_leaf];have:=hsub.length_le;simp only [List.length_nil];omega)
 rw [itm_leaf,List.append_nil] at this
 exact this
end Go.Proofs.YtjahlofahjgdbaaGreat
