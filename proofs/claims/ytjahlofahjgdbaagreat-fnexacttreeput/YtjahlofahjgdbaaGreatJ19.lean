/- Texts of stores, joined: Kn, Fi, Ko. -/
import Derived.Test.YtjahlofahjgdbaaGreatKd
set_option maxRecDepth 100000
set_option maxHeartbeats 2000000
set_option linter.unusedSimpArgs false
set_option linter.unusedVariables false
namespace Go.Proofs.YtjahlofahjgdbaaGreat
open Go.RowKit
def SpR (w:World) (g n:Nat):List Value:=match w.heap[g]? with
 | some (.cells cur _ _) => cur.toList.drop (n * 7)
 | _ => []
theorem row_BK {w:World} {lo g n c:Nat} {ps:List KP} (h:w.ownsRow lo 35 7 (.slice (some ⟨g,0,none⟩) n c) n (flK ps)) (hl:ps.length = n) {i:Nat} (hi:i < ps.length):BK w g (i * 7) (flK (ps.take i)) (flK (ps.drop (i + 1)) ++ SpR w g n) (ckh ps[i].1 ps[i].2.1):=by
 rcases h.2 with ⟨e,_⟩ | ⟨g',c',cur,e,q1,q2,q3,q4,q5,q6⟩
 ·cases e
 ·cases e
  have hsp:SpR w g n = cur.toList.drop (n * 7):=by simp only [SpR,q2]
  have hA:(flK (ps.take i)).length = i * 7:=by rw [flK_len,List.length_take];congr 1;omega
  refine ⟨?_,hA⟩
  rw [q2,hsp]
  have e1:flK ps = flK (ps.take i) ++ (ckh ps[i].1 ps[i].2.1 ++ flK (ps.drop (i + 1))):=by
   rw [show ckh ps[i].1 ps[i].2.1 ++ flK (ps.drop (i + 1)) = flK (ps[i] :: ps.drop (i + 1)) from rfl,List.getElem_cons_drop hi,← flK_app,List.take_append_drop]
  have e2:cur.toList = flK ps ++ cur.toList.drop (n * 7):=by
   conv => lhs;rw [← List.take_append_drop (n * 7) cur.toList,q6]
  congr 2
  apply Array.toList_inj.1
  show cur.toList = flK (ps.take i) ++ (ckh ps[i].1 ps[i].2.1 ++ (flK (ps.drop (i + 1)) ++ cur.toList.drop (n * 7)))
  conv => lhs;rw [e2,e1]
  simp only [List.append_assoc]
theorem BK_row {w w':World} {lo g n c:Nat} {ps:List KP} (h:w.ownsRow lo 35 7 (.slice (some ⟨g,0,none⟩) n c) n (flK ps)) (hl:ps.length = n) {i:Nat} (hi:i < ps.length) (q:KP) (hB:BK w' g (i * 7) (flK (ps.take i)) (flK (ps.drop (i + 1)) ++ SpR w g n) (ckh q.1 q.2.1)):w'.ownsRow lo 35 7 (.slice (some ⟨g,0,none⟩) n c) n (flK (ps.take i ++ [q] ++ ps.drop (i + 1))):=by
 rcases h.2 with ⟨e,_⟩ | ⟨g',c',cur,e,q1,q2,q3,q4,q5,q6⟩
 ·cases e
 ·cases e
  have hsp:SpR w g n = cur.toList.drop (n * 7):=by simp only [SpR,q2]
  have e0:flK (ps.take i ++ [q] ++ ps.drop (i + 1)) = flK (ps.take i) ++ ckh q.1 q.2.1 ++ flK (ps.drop (i + 1)):=by
   rw [flK_app,flK_app]
   show flK (ps.take i) ++ (ckh q.1 q.2.1 ++ []) ++ _ = _
   rw [List.append_nil]
  have hlen:(flK (ps.take i ++ [q] ++ ps.drop (i + 1))).length = n * 7:=by
   rw [flK_len]
   simp only [List.length_append,List.length_take,List.length_drop,List.length_singleton]
   congr 1
   omega
  have hB1:=hB.1
  rw [hsp] at hB1
  refine ⟨hlen,.inr ⟨g,c,_,rfl,q1,hB1,q3,q4,?_,?_⟩⟩
  ·have hd:(cur.toList.drop (n * 7)).length = (c - n) * 7:=by rw [List.length_drop,Array.length_toList,q5];omega
   rw [List.size_toArray]
   have hlen2:=hlen
   rw [e0] at hlen2
   simp only [List.length_append] at hlen2 ⊢
   rw [hd]
   omega
  ·show (flK (ps.take i) ++ (ckh q.1 q.2.1 ++ (flK (ps.drop (i + 1)) ++ cur.toList.drop (n * 7)))).take (n * 7) = _
   rw [e0]
   rw [e0] at hlen
   rw [← hlen,← List.append_assoc,← List.append_assoc]
   exact List.take_left' rfl
theorem insert_any (lo g c n i vb:Nat) (ps:List KP) (q:KP) (w:World) (h:w.ownsRow lo 35 7 (.slice (some ⟨g,0,none⟩) n c) n (flK ps)) (hl:ps.length = n) (hi:i ≤ n) (hn:n ≤ 1048576) (hlo:lo ≤ w.heap.size) (hv:w.heap[vb]? = some (.cells (ckh q.1 q.2.1).toArray 35 (0,0))) (hne:vb ≠ g):Calls Tryz.prog 108 #[.slice (some ⟨g,0,none⟩) n c,.int .i64 i,.slice (some ⟨vb,0,none⟩) 1 1] w fun e w' => ∃ a' c',e = .returned (.slice a' (n + 1) c') ∧ w'.ownsRow lo 35 7 (.slice a' (n + 1) c') (n + 1) (flK (ps.take i ++ [q] ++ ps.drop i)) ∧ Fr [g] w w' ∧ ∀ x ∈ hb a',x = g ∨ x = w.heap.size:=by
 have e0:ps.take i ++ [q] ++ ps.drop i = ps.take i ++ q :: ps.drop i:=by rw [List.append_assoc];rfl
 rw [e0]
 by_cases hlt:i < n
 ·by_cases hroom:n + 1 ≤ c
  ·refine (insert_shift lo g c n i vb ps q w h hl hlt hn hroom hv hne).mono ?_
   rintro e w' ⟨rfl,h1,h2⟩
   exact ⟨_,_,rfl,h1,h2,fun x hx => .inl (by simpa [hb] using hx)⟩
  ·refine (insert_grow lo g c n i vb ps q w h hl hlt hn (by omega) hlo hv).mono ?_
   rintro e w' ⟨c',rfl,h1,h2⟩
   exact ⟨_,_,rfl,h1,h2.mono (fun k hk => by cases hk),fun x hx => .inr (by simpa [hb] using hx)⟩
 ·have hin:i = n:=by omega
  subst hin
  refine (insert_end lo g c i vb ps q w h hn hlo hv).mono ?_
  rintro e w' ⟨a',c',rfl,h1,h2,h3⟩
  have et:ps.take i = ps:=List.take_of_length_le (by omega)
  have ed:ps.drop i = []:=List.drop_eq_nil_of_le (by omega)
  rw [et,ed]
  have e2:flK (ps ++ [q]) = flK ps ++ ckh q.1 q.2.1:=by
   rw [flK_app]
   show flK ps ++ (ckh q.1 q.2.1 ++ []) = _
   rw [List.append_nil]
  rw [e2]
  exact ⟨a',c',rfl,h1,(app_fr h2).mono (fun k hk => .inl hk),fun x hx => by
   rcases h3 x hx with e | e
   ·exact .inl (by simpa [hb] using e)
   ·exact .inr e⟩
theorem impl_count (t:KT) (ia:Option Addr) (ic:Nat) (ka:Option Addr) (kc least:Nat) (w:World):Calls Tryz.prog 88 #[kv t ia ic ka kc,.int .i64 least] w fun e w' => e = .returned (.bool (cnt t least)) ∧ Below w.heap.size w w':=by
 have hcn:cnt t least = (decide (least ≤ t.fan) && decide (t.fan ≤ 4) && decide ((if t.lf then t.kids.length else t.its.length) = 0)):=rfl
 rw [hcn]
 unfold kv KT.fan
 clear hcn
 generalize t.box.1 = b0 at *
 generalize t.box.2.1 = b1 at *
 generalize t.box.2.2.1 = b2 at *
 generalize t.box.2.2.2 = b3 at *
 generalize t.its.length = ni at *
 generalize t.kids.length = nk at *
 cases hl:t.lf
 ·have hb0:=balloc (Below.refl w.heap.size w) (.cells #[.int .i64 b0,.int .i64 b1,.int .i64 b2,.int .i64 b3,.bool false,.slice ia ni ic,.slice ka nk kc] 35)
  simp only [if_neg Bool.false_ne_true]
  by_cases h1:least ≤ nk
  ·by_cases h2:nk ≤ 4
   ·by_cases h3:ni = 0
    ·have c1:(least:Int) ≤ (nk:Int):=by omega
     have c2:(nk:Int) ≤ 4:=by omega
     subst h3
     rw [decide_eq_true h1,decide_eq_true h2]
     go_enter Tryz.func88,Tryz.ntmps88
     go_wp2_with fail
     go_quiet (fail)
     go_wp2_with fail
     go_ret
     exact ⟨rfl,⟨hb0.os,hb0.tape,hb0.output,hb0.size,hb0.block⟩⟩
    ·have c1:(least:Int) ≤ (nk:Int):=by omega
     have c2:(nk:Int) ≤ 4:=by omega
     have c3:¬ (ni:Int) = 0:=by omega
     have c4:((ni:Int) == 0) = false:=by rw [beq_eq_false_iff_ne];exact c3
     rw [decide_eq_true h1,decide_eq_true h2,decide_eq_false h3]
     go_enter Tryz.func88,Tryz.ntmps88
     go_wp2_with fail
     go_quiet (fail)
     go_wp2_with fail
     go_ret
     exact ⟨rfl,⟨hb0.os,hb0.tape,hb0.output,hb0.size,hb0.block⟩⟩
   ·have c1:(least:Int) ≤ (nk:Int):=by omega
    have c2:¬ (nk:Int) ≤ 4:=by omega
    rw [decide_eq_true h1,decide_eq_false h2]
    go_enter Tryz.func88,Tryz.ntmps88
    go_wp2_with fail
    go_quiet (fail)
    go_wp2_with fail
    go_ret
    exact ⟨rfl,⟨hb0.os,hb0.tape,hb0.output,hb0.size,hb0.block⟩⟩
  ·have c1:¬ (least:Int) ≤ (nk:Int):=by omega
   rw [decide_eq_false h1]
   go_enter Tryz.func88,Tryz.ntmps88
   go_wp2_with fail
   go_quiet (fail)
   go_wp2_with fail
   go_ret
   exact ⟨rfl,⟨hb0.os,hb0.tape,hb0.output,hb0.size,hb0.block⟩⟩
 ·have hb0:=balloc (Below.refl w.heap.size w) (.cells #[.int .i64 b0,.int .i64 b1,.int .i64 b2,.int .i64 b3,.bool true,.slice ia ni ic,.slice ka nk kc] 35)
  simp only [if_true]
  by_cases h1:least ≤ ni
  ·by_cases h2:ni ≤ 4
   ·by_cases h3:nk = 0
    ·have c1:(least:Int) ≤ (ni:Int):=by omega
     have c2:(ni:Int) ≤ 4:=by omega
     subst h3
     rw [decide_eq_true h1,decide_eq_true h2]
     go_enter Tryz.func88,Tryz.ntmps88
     go_wp2_with fail
     go_quiet (fail)
     go_wp2_with fail
     go_ret
     exact ⟨rfl,⟨hb0.os,hb0.tape,hb0.output,hb0.size,hb0.block⟩⟩
    ·have c1:(least:Int) ≤ (ni:Int):=by omega
     have c2:(ni:Int) ≤ 4:=by omega
     have c3:¬ (nk:Int) = 0:=by omega
     have c4:((nk:Int) == 0) = false:=by rw [beq_eq_false_iff_ne];exact c3
     rw [decide_eq_true h1,decide_eq_true h2,decide_eq_false h3]
     go_enter Tryz.func88,Tryz.ntmps88
     go_wp2_with fail
     go_quiet (fail)
     go_wp2_with fail
     go_ret
     exact ⟨rfl,⟨hb0.os,hb0.tape,hb0.output,hb0.size,hb0.block⟩⟩
   ·have c1:(least:Int) ≤ (ni:Int):=by omega
    have c2:¬ (ni:Int) ≤ 4:=by omega
    rw [decide_eq_true h1,decide_eq_false h2]
    go_enter Tryz.func88,Tryz.ntmps88
    go_wp2_with fail
    go_quiet (fail)
    go_wp2_with fail
    go_ret
    exact ⟨rfl,⟨hb0.os,hb0.tape,hb0.output,hb0.size,hb0.block⟩⟩
  ·have c1:¬ (least:Int) ≤ (ni:Int):=by omega
   rw [decide_eq_false h1]
   go_enter Tryz.func88,Tryz.ntmps88
   go_wp2_with fail
   go_quiet (fail)
   go_wp2_with fail
   go_ret
   exact ⟨rfl,⟨hb0.os,hb0.tape,hb0.output,hb0.size,hb0.block⟩⟩
theorem jns_okA {l:List Bx} (h:l.all bkb = true):bkb (jns l) = true:=by
 cases l with
 | nil => decide
 | cons a r => exact jns_ok (by simp) h
theorem gd_boxA {d:Nat} {tp:Bool} {t:KT} (h:gd (d + 1) tp t = true):bkb t.box = true:=by
 obtain ⟨_,_,h3,h4⟩:=gd_parts h
 rw [h3]
 unfold arS
 rcases h4 with ⟨hl,hk,_,ha⟩ | ⟨hl,hi,hk,ha⟩
 ·rw [hk]
  exact jns_okA ha
 ·rw [if_neg (by rw [List.isEmpty_iff];intro e;rw [e] at hk;exact absurd hk (by simp))]
  refine jns_okA ?_
  unfold KT.kbs
  rw [List.all_map,List.all_eq_true]
  intro k hk'
  rw [List.all_eq_true] at ha
  exact gd_box d k (ha k hk')
theorem cnt_g5 {d:Nat} {tp:Bool} {t:KT} (h:g5 d tp t):cnt t 0 = decide (t.fan ≤ 4):=by
 obtain ⟨_,_,_,h4⟩:=h
 unfold cnt
 rcases h4 with ⟨hl,hk,_,_⟩ | ⟨hl,hi,_,_⟩
 ·rw [hl,hk];simp
 ·rw [hl,hi];simp
theorem split_any (lo n0 b o d:Nat) (tp:Bool) (P R:List Value) (t:KT) (h:Hd) (S:List Nat) (w:World) (hg:g5 d tp t) (hf:¬ t.fan ≤ 4) (k:KO lo (n0 + 1) w h S t) (hlo:lo ≤ w.heap.size) (hB:BK w b o P R (ckh t h)) (hbS:b ∉ S):∃ t1 t2,dn t = [t1,t2] ∧ gd (d + 1) false t1 = true ∧ gd (d + 1) false t2 = true ∧ Calls Tryz.prog 107 #[.pointer (some ⟨b,o,none⟩)] w (SpA w lo (n0 + 1) b o P R S t1 t2):=by
 rcases dn_gd hg with ⟨h4,_,_⟩ | ⟨t1,t2,e,g1,g2⟩
 ·exact absurd h4 hf
 ·refine ⟨t1,t2,e,g1,g2,?_⟩
  obtain ⟨h5,_,_,hc⟩:=hg
  obtain ⟨⟨b0,b1,b2,b3⟩,lf,its,ks⟩:=t
  obtain ⟨ia,ic,ka,kc⟩:=h
  unfold dn at e
  rw [if_neg hf] at e
  rcases hc with ⟨e1,e2,_,e4⟩ | ⟨e1,e2,e3,e4⟩
  ·have e1':lf = true:=e1
   have e2':ks = []:=e2
   subst e1' e2'
   have hf':¬ its.length ≤ 4:=hf
   have h5':its.length ≤ 5:=h5
   have hl:its.length = 5:=by omega
   rw [if_pos (show (KT.mk (b0,b1,b2,b3) true its []).lf = true from rfl)] at e
   simp only [List.cons.injEq,and_true] at e
   obtain ⟨q1,q2⟩:=e
   subst q1 q2
   have hB':BK w b o P R [.int .i64 b0,.int .i64 b1,.int .i64 b2,.int .i64 b3,.bool true,.slice ia its.length ic,.slice ka 0 kc]:=hB
   rw [hl] at hB'
   exact impl_splitI lo n0 b o P R b0 b1 b2 b3 its ia ka ic kc S w k hlo hB' hbS hl (by
    have:(its.map (·.2)).all bkb = true:=e4
    rw [List.all_map] at this
    exact this)
  ·have e1':lf = false:=e1
   have e2':its = []:=e2
   subst e1' e2'
   have hf':¬ ks.length ≤ 4:=hf
   have h5':ks.length ≤ 5:=h5
   have hl:ks.length = 5:=by omega
   rw [if_neg (show ¬ (KT.mk (b0,b1,b2,b3) false [] ks).lf = true from Bool.false_ne_true)] at e
   simp only [List.cons.injEq,and_true] at e
   obtain ⟨q1,q2⟩:=e
   subst q1 q2
   have hB':BK w b o P R [.int .i64 b0,.int .i64 b1,.int .i64 b2,.int .i64 b3,.bool false,.slice ia 0 ic,.slice ka ks.length kc]:=hB
   rw [hl] at hB'
   have e4':ks.all (gd d false) = true:=e4
   exact impl_splitK lo n0 b o P R b0 b1 b2 b3 ks ia ka ic kc S w k hlo hB' hbS hl (by
    rw [List.all_eq_true] at *
    exact fun x hx => gd_box d x (e4' x hx))
end Go.Proofs.YtjahlofahjgdbaaGreat
