/- Texts of stores, joined: Around, Fa. -/
import Derived.Test.YtjahlofahjgdbaaGreatJ2
set_option maxHeartbeats 1000000
set_option linter.unusedSimpArgs false
set_option linter.unusedVariables false
namespace Go.Proofs.YtjahlofahjgdbaaGreat
open Go.RowKit
def aok (ps:List (Int × Int)):Bool:=!ps.isEmpty && allok ps
def aX (ps:List (Int × Int)):Int:=if aok ps = true then ps.tail.foldl (fun m p => min m p.1) (ps.getD 0 (0,0)).1 else 0
def aY (ps:List (Int × Int)):Int:=if aok ps = true then ps.tail.foldl (fun m p => min m p.2) (ps.getD 0 (0,0)).2 else 0
def bX (ps:List (Int × Int)):Int:=if aok ps = true then ps.tail.foldl (fun m p => max m p.1) (ps.getD 0 (0,0)).1 else 0
def bY' (ps:List (Int × Int)):Int:=if aok ps = true then ps.tail.foldl (fun m p => max m p.2) (ps.getD 0 (0,0)).2 else 0
theorem keephdrew2 {w:World} {b:Nat} {o:Obj} (h:w.heap[b]? = some o):w.drew.heap[b]? = some o:=h
theorem set4 {w w1:World} {B:Nat} {o0 o1 o2 o3:Value} {t:TypeId} (gz:w1.heap[B]? = some (.cells #[o0,o1,o2,o3] t (0,0))) (hb:Below w.heap.size w w1) (hB:w.heap.size ≤ B) (a b c d:Value) :
  ((((w1.setCell ⟨B,0,none⟩ a).setCell ⟨B,1,none⟩ b).setCell ⟨B,2,none⟩ c).setCell ⟨B,3,none⟩ d).heap[B]? = some (.cells #[a,b,c,d] t (0,0)) ∧ Below w.heap.size w ((((w1.setCell ⟨B,0,none⟩ a).setCell ⟨B,1,none⟩ b).setCell ⟨B,2,none⟩ c).setCell ⟨B,3,none⟩ d):=
 ⟨set_at (set_at (set_at (set_at gz))),bset (bset (bset (bset hb hB _) hB _) hB _) hB _⟩
theorem a_no {ps:List (Int × Int)} (h:aok ps = false):aX ps = 0 ∧ aY ps = 0 ∧ bX ps = 0 ∧ bY' ps = 0:=by
 unfold aX aY bX bY';rw [h];exact ⟨rfl,rfl,rfl,rfl⟩
theorem PtsAt.tail {w:World} {b off:Nat} {p:Int × Int} {ps:List (Int × Int)} (h:PtsAt w b off (p :: ps)):PtsAt w b (off + 2) ps:=by
 intro k hk
 obtain ⟨h1,h2⟩:=h (k + 1) (by simp;omega)
 simp only [List.getD_cons_succ] at h1 h2
 rw [show off + (k + 1) * 2 = off + 2 + k * 2 by omega] at h1 h2
 exact ⟨h1,h2⟩
theorem impl_BoxAround (a:Option Addr) (cap:Nat) (ps:List (Int × Int)) (w:World) (hm:ps.length ≤ 1099511627776) (hc:ps.length ≤ cap) (h:Pts w a ps):Calls Tryz.prog 109 #[.slice a ps.length cap] w fun e w' => e = .returned (.tuple #[.agg #[.int .i64 (aX ps),.int .i64 (aY ps),.int .i64 (bX ps),.int .i64 (bY' ps)],.bool (aok ps)]) ∧ Below w.heap.size w w':=by
 rcases ps with _ | ⟨⟨px,py⟩,rest⟩
 ·obtain ⟨v1,v2,v3,v4⟩:=a_no (ps:=[]) rfl
  rw [v1,v2,v3,v4]
  clear v1 v2 v3 v4 h
  go_enter Tryz.func109,Tryz.ntmps109
  go_wp2_with fail
  exact bodyPost_ret (v:=.tuple #[.agg #[.int .i64 0,.int .i64 0,.int .i64 0,.int .i64 0],.bool false]) (by simp [results,Tryz.results109,go_sem]) rfl ⟨rfl,by (with_reducible repeat (first | exact Below.refl _ _ | assumption | (refine btrans ?_ (by assumption)) | refine bdrew ?_ | refine balloc ?_ _))⟩
 have hall:=fun w' (hw:Pts w' a ((px,py) :: rest)) => impl_all a cap ((px,py) :: rest) w' hm hc hw
 have hne:(((((px,py) :: rest).length:Nat):Int) == 0) = false:=by rw [beq_eq_false_iff_ne];simp;omega
 have Hh:=hid h
 cases ha:allok ((px,py) :: rest)
 ·have hk:aok ((px,py) :: rest) = false:=by unfold aok;rw [ha];rfl
  obtain ⟨v1,v2,v3,v4⟩:=a_no hk
  rw [v1,v2,v3,v4,hk]
  rw [ha] at hall
  have Hall:=hid hall
  clear v1 v2 v3 v4 h hk ha hall
  generalize hps:(px,py) :: rest = ps at *
  clear hps
  go_enter Tryz.func109,Tryz.ntmps109
  go_wp2_with fail
  refine (Hall.out _ (Hh.out.below ?_)).mono ?_
  ·(with_reducible repeat (first | exact Below.refl _ _ | assumption | (refine btrans ?_ (by assumption)) | refine bdrew ?_ | refine balloc ?_ _))
  rintro e w1 ⟨rfl,hb1⟩
  have gz:w1.heap[w.heap.size]? = some (.cells #[.int .i64 0,.int .i64 0,.int .i64 0,.int .i64 0] 31 (0,0)):=by (repeat (first | with_reducible assumption | (refine new_alloc _ _ _ ?_;simp;done) | refine keepheap2 (by with_reducible assumption) ?_ | refine keephdrew2 ?_ | refine old_alloc ?_))
  obtain ⟨i0,i1,i2,i3,j0,j1,j2,j3⟩:=cell4 gz
  have Gz:=hid gz
  clear gz
  go_wp2_with fail
  obtain ⟨gF,hbF⟩:=set4 (w:=w) Gz.out (by (with_reducible repeat (first | exact Below.refl _ _ | assumption | (refine btrans ?_ (by assumption)) | refine bdrew ?_ | refine balloc ?_ _))) (show w.heap.size ≤ w.heap.size by omega) (.int .i64 0) (.int .i64 0) (.int .i64 0) (.int .i64 0)
  generalize ((((w1.setCell ⟨w.heap.size,0,none⟩ (.int .i64 0)).setCell ⟨w.heap.size,1,none⟩ (.int .i64 0)).setCell ⟨w.heap.size,2,none⟩ (.int .i64 0)).setCell ⟨w.heap.size,3,none⟩ (.int .i64 0)) = wf at gF hbF ⊢
  obtain ⟨z0,z1,z2,z3,_,_,_,_⟩:=cell4 gF
  exact bodyPost_ret (v:=.tuple #[.agg #[.int .i64 0,.int .i64 0,.int .i64 0,.int .i64 0],.bool false]) (by simp [results,Tryz.results109,go_sem,z0,z1,z2,z3]) rfl ⟨rfl,hbF⟩
 have hk:aok ((px,py) :: rest) = true:=by unfold aok;rw [ha];rfl
 have v1:rest.foldl (fun m p => min m p.1) px = aX ((px,py) :: rest):=by unfold aX;rw [if_pos hk];rfl
 have v2:rest.foldl (fun m p => min m p.2) py = aY ((px,py) :: rest):=by unfold aY;rw [if_pos hk];rfl
 have v3:rest.foldl (fun m p => max m p.1) px = bX ((px,py) :: rest):=by unfold bX;rw [if_pos hk];rfl
 have v4:rest.foldl (fun m p => max m p.2) py = bY' ((px,py) :: rest):=by unfold bY';rw [if_pos hk];rfl
 have hbox:=fun (a':Option Addr) (cap':Nat) w' (hc':rest.length ≤ cap') (hw:Pts w' a' rest) => impl_boxof px py a' cap' rest w' (by simp at hm;omega) hc' hw
 rw [v1,v2,v3,v4] at hbox
 rw [ha] at hall
 rw [hk]
 obtain ⟨b,off,rfl,hbs,hp⟩:∃ b off,a = some ⟨b,off,none⟩ ∧ b < w.heap.size ∧ PtsAt w b off ((px,py) :: rest):=by
  rcases h with h | h
  ·cases h
  ·exact h
 obtain ⟨c0,c1⟩:=hp 0 (by simp)
 simp only [Nat.zero_mul,Nat.add_zero,List.getD_cons_zero] at c0 c1
 have hl:(((px,py) :: rest).length) = rest.length + 1:=by simp
 rw [hl] at hm hc hne hall ⊢
 have hptl:=hp.tail
 generalize aX ((px,py) :: rest) = m1 at *
 generalize aY ((px,py) :: rest) = m2 at *
 generalize bX ((px,py) :: rest) = m3 at *
 generalize bY' ((px,py) :: rest) = m4 at *
 have Hall:=hid hall
 have Hbox:=hid hbox
 have Hp:=hid hp
 have Htl:=hid hptl
 have hb1':(1:Int) ≤ (rest.length:Int) + 1:=by omega
 have hb2':(rest.length:Int) + 1 ≤ (cap:Int):=by omega
 clear v1 v2 v3 v4 hall hbox hp hptl h hk ha hl
 go_enter Tryz.func109,Tryz.ntmps109
 go_wp2_with fail
 refine (Hall.out _ (Hh.out.below ?_)).mono ?_
 ·(with_reducible repeat (first | exact Below.refl _ _ | assumption | (refine btrans ?_ (by assumption)) | refine bdrew ?_ | refine balloc ?_ _))
 rintro e w1 ⟨rfl,hb1⟩
 have gz:w1.heap[w.heap.size]? = some (.cells #[.int .i64 0,.int .i64 0,.int .i64 0,.int .i64 0] 31 (0,0)):=by (repeat (first | with_reducible assumption | (refine new_alloc _ _ _ ?_;simp;done) | refine keepheap2 (by with_reducible assumption) ?_ | refine keephdrew2 ?_ | refine old_alloc ?_))
 have k0:w1.cell? ⟨b,off,none⟩ = some (.int .i64 px):=by (repeat (first | with_reducible assumption | (refine newcell _ _ _ _ _ _ ?_ rfl;simp;done) | refine keepcell (by with_reducible assumption) ?_ | refine keepdrew ?_ | refine keepalloc ?_ _))
 have k1:w1.cell? ⟨b,off + 1,none⟩ = some (.int .i64 py):=by (repeat (first | with_reducible assumption | (refine newcell _ _ _ _ _ _ ?_ rfl;simp;done) | refine keepcell (by with_reducible assumption) ?_ | refine keepdrew ?_ | refine keepalloc ?_ _))
 have Gz:=hid gz
 clear gz
 go_wp2_with fail
 have HPT:∀ w',Below w.heap.size w w' → Pts w' (if cap = 1 then some ⟨b,off,none⟩ else some ⟨b,off + 2,none⟩) rest:=by
  intro w' hw'
  by_cases e:cap = 1
  ·left
   cases rest with
   | nil => rfl
   | cons x y => simp at hc;omega
  ·rw [if_neg e]
   right
   exact ⟨b,off + 2,rfl,Nat.lt_of_lt_of_le hbs hw'.size,Htl.out.below hbs hw'⟩
 have HPT:=hid HPT
 refine wp_region_held_drew (S:=(fun w' => w'.cell? ⟨b,off,none⟩ = some (.int .i64 px) ∧ w'.cell? ⟨b,off + 1,none⟩ = some (.int .i64 py))) (by kernel_rfl) ?_ (fun hHeld => ?_)
 ·(repeat' apply And.intro) <;> (repeat (first | with_reducible assumption | with_reducible refine keepset ?_ (by dsimp only;omega) | with_reducible refine keepdrew ?_ | (refine newcell _ _ _ _ _ _ ?_ rfl;simp;done) | refine keepcell (by with_reducible assumption) ?_ | refine keepdrew ?_ | refine keepalloc ?_ _))
 refine tkR 0 hHeld ?_
 try simp only [sq]
 refine tkR 1 hHeld ?_
 try simp only [sq]
 refine tkR 2 hHeld ?_
 try simp only [sq]
 refine tkR 3 hHeld ?_
 try simp only [sq]
 refine tkR 4 hHeld ?_
 try simp only [sq]
 generalize (if cap = 1 then some (⟨b,off,none⟩:Addr) else some ⟨b,off + 2,none⟩) = A at *
 refine rd1 5 rfl (fun K hK => ?_)
 try simp only [sq]
 go_simp
 (first
   | (go_at_call 131;refine (Hbox.out _ _ _ (by omega) (HPT.out _ ?_)).mono ?_;exact (by (with_reducible repeat (first | exact Below.refl _ _ | assumption | (refine btrans ?_ (by assumption)) | refine bdrew ?_ | refine balloc ?_ _)));rintro e w2 ⟨rfl,hb2⟩))
 go_wp2_with fail
 refine hK.out _ _ ?_ (fun hHeld => ?_)
 ·(repeat' apply And.intro) <;> (repeat (first | with_reducible assumption | with_reducible refine keepset ?_ (by dsimp only;omega) | with_reducible refine keepdrew ?_ | (refine newcell _ _ _ _ _ _ ?_ rfl;simp;done) | refine keepcell (by with_reducible assumption) ?_ | refine keepdrew ?_ | refine keepalloc ?_ _))
 clear hK K
 try simp only [sq]
 have gz2:w2.heap[w.heap.size]? = some (.cells #[.int .i64 0,.int .i64 0,.int .i64 0,.int .i64 0] 31 (0,0)):=by have gz:=Gz.out;(repeat (first | with_reducible assumption | (refine new_alloc _ _ _ ?_;simp;done) | refine keepheap2 (by with_reducible assumption) ?_ | refine keephdrew2 ?_ | refine old_alloc ?_))
 obtain ⟨i0,i1,i2,i3,j0,j1,j2,j3⟩:=cell4 gz2
 have Gz2:=hid gz2
 clear gz2
 refine rd1 6 rfl (fun K hK => ?_)
 try simp only [sq]
 go_simp
 refine hK.out _ _ ?_ (fun hHeld => ?_)
 ·(repeat' apply And.intro) <;> (repeat (first | with_reducible assumption | with_reducible refine keepset ?_ (by dsimp only;omega) | with_reducible refine keepdrew ?_ | (refine newcell _ _ _ _ _ _ ?_ rfl;simp;done) | refine keepcell (by with_reducible assumption) ?_ | refine keepdrew ?_ | refine keepalloc ?_ _))
 clear hK K
 try simp only [sq]
 refine tkR 7 hHeld ?_
 try simp only [sq]
 refine wpAnyH_done (by kernel_rfl) ?_ _
 go_wp2_with fail
 obtain ⟨gF,hbF⟩:=set4 (w:=w) Gz2.out (by (with_reducible repeat (first | exact Below.refl _ _ | assumption | (refine btrans ?_ (by assumption)) | refine bdrew ?_ | refine balloc ?_ _))) (show w.heap.size ≤ w.heap.size by omega) (.int .i64 m1) (.int .i64 m2) (.int .i64 m3) (.int .i64 m4)
 generalize ((((w2.setCell ⟨w.heap.size,0,none⟩ (.int .i64 m1)).setCell ⟨w.heap.size,1,none⟩ (.int .i64 m2)).setCell ⟨w.heap.size,2,none⟩ (.int .i64 m3)).setCell ⟨w.heap.size,3,none⟩ (.int .i64 m4)) = wf at gF hbF ⊢
 obtain ⟨z0,z1,z2,z3,_,_,_,_⟩:=cell4 gF
 exact bodyPost_ret (v:=.tuple #[.agg #[.int .i64 m1,.int .i64 m2,.int .i64 m3,.int .i64 m4],.bool true]) (by simp [results,Tryz.results109,go_sem,z0,z1,z2,z3]) rfl ⟨rfl,hbF⟩
abbrev Bx:Type:=Int × Int × Int × Int
abbrev It:Type:=Int × Bx
inductive KT:Type where
 | mk:Bx → Bool → List It → List KT → KT
def KT.box:KT → Bx | .mk b _ _ _ => b
def KT.lf:KT → Bool | .mk _ l _ _ => l
def KT.its:KT → List It | .mk _ _ i _ => i
def KT.kids:KT → List KT | .mk _ _ _ k => k
def bkb (b:Bx):Bool:=bok b.1 b.2.1 b.2.2.1 b.2.2.2
def jnb (a b:Bx):Bx:=(min a.1 b.1,min a.2.1 b.2.1,max a.2.2.1 b.2.2.1,max a.2.2.2 b.2.2.2)
def jns:List Bx → Bx
 | [] => (0,0,0,0)
 | b :: r => r.foldl jnb b
def KT.ibs (t:KT):List Bx:=t.its.map (·.2)
def KT.kbs (t:KT):List Bx:=t.kids.map KT.box
def KT.bxs (t:KT):List Bx:=t.ibs ++ t.kbs
def arS (t:KT):Bx:=if t.kids.isEmpty then jns t.ibs else jns t.kbs
def cor (bs:List Bx):List (Int × Int):=bs.flatMap fun b => [(b.1,b.2.1),(b.2.2.1,b.2.2.2)]
def arI (t:KT):Bx:=(aX (cor t.bxs),aY (cor t.bxs),bX (cor t.bxs),bY' (cor t.bxs))
theorem bkb_le {b:Bx} (h:bkb b = true):(-30000 ≤ b.1 ∧ b.1 ≤ 30000) ∧ (-30000 ≤ b.2.1 ∧ b.2.1 ≤ 30000) ∧ (-30000 ≤ b.2.2.1 ∧ b.2.2.1 ≤ 30000) ∧ (-30000 ≤ b.2.2.2 ∧ b.2.2.2 ≤ 30000) ∧ b.1 ≤ b.2.2.1 ∧ b.2.1 ≤ b.2.2.2:=by
 unfold bkb bok cok at h
 simp only [Bool.and_eq_true,decide_eq_true_eq] at h
 omega
theorem bkb_of {b:Bx} (h:(-30000 ≤ b.1 ∧ b.1 ≤ 30000) ∧ (-30000 ≤ b.2.1 ∧ b.2.1 ≤ 30000) ∧ (-30000 ≤ b.2.2.1 ∧ b.2.2.1 ≤ 30000) ∧ (-30000 ≤ b.2.2.2 ∧ b.2.2.2 ≤ 30000) ∧ b.1 ≤ b.2.2.1 ∧ b.2.1 ≤ b.2.2.2):bkb b = true:=by
 unfold bkb bok cok
 simp only [Bool.and_eq_true,decide_eq_true_eq]
 omega
theorem jnb_ok {a b:Bx} (ha:bkb a = true) (hb:bkb b = true):bkb (jnb a b) = true:=by
 have h1:=bkb_le ha
 have h2:=bkb_le hb
 apply bkb_of
 simp only [jnb]
 omega
theorem jns_fold_ok:∀ (r:List Bx) (a:Bx),bkb a = true → r.all bkb = true → bkb (r.foldl jnb a) = true
 | [],a,ha,_ => ha
 | b :: r,a,ha,h => by
  rw [List.all_cons,Bool.and_eq_true] at h
  exact jns_fold_ok r (jnb a b) (jnb_ok ha h.1) h.2
theorem jns_ok {bs:List Bx} (h0:bs ≠ []) (h:bs.all bkb = true):bkb (jns bs) = true:=by
 cases bs with
 | nil => exact absurd rfl h0
 | cons b r =>
  rw [List.all_cons,Bool.and_eq_true] at h
  exact jns_fold_ok r b h.1 h.2
theorem cor_cons (b:Bx) (r:List Bx):cor (b :: r) = (b.1,b.2.1) :: (b.2.2.1,b.2.2.2) :: cor r:=rfl
theorem cor_fold:∀ (r:List Bx) (a:Bx),r.all bkb = true → r.foldl jnb a = ((cor r).foldl (fun m p => min m p.1) a.1,(cor r).foldl (fun m p => min m p.2) a.2.1,(cor r).foldl (fun m p => max m p.1) a.2.2.1,(cor r).foldl (fun m p => max m p.2) a.2.2.2)
 | [],a,_ => rfl
 | b :: r,a,h => by
  rw [List.all_cons,Bool.and_eq_true] at h
  have hb:=bkb_le h.1
  rw [List.foldl_cons,cor_fold r (jnb a b) h.2,cor_cons]
  simp only [List.foldl_cons,jnb]
  rw [show min (min a.1 b.1) b.2.2.1 = min a.1 b.1 by omega,show min (min a.2.1 b.2.1) b.2.2.2 = min a.2.1 b.2.1 by omega,show max (max a.2.2.1 b.1) b.2.2.1 = max a.2.2.1 b.2.2.1 by omega,show max (max a.2.2.2 b.2.1) b.2.2.2 = max a.2.2.2 b.2.2.2 by omega]
theorem cor_allok:∀ bs:List Bx,bs.all bkb = true → allok (cor bs) = true
 | [],_ => rfl
 | b :: r,h => by
  rw [List.all_cons,Bool.and_eq_true] at h
  have hb:=bkb_le h.1
  have ih:=cor_allok r h.2
  rw [cor_cons]
  unfold allok at ih ⊢
  rw [List.all_cons,List.all_cons,ih]
  simp only [Bool.and_true,Bool.and_eq_true]
  unfold pok cok
  simp only [Bool.and_eq_true,decide_eq_true_eq]
  omega
theorem around_jns {bs:List Bx} (h:bs.all bkb = true):(aX (cor bs),aY (cor bs),bX (cor bs),bY' (cor bs)) = jns bs:=by
 cases bs with
 | nil => rfl
 | cons b r =>
  have hk:aok (cor (b :: r)) = true:=by unfold aok;rw [cor_allok _ h];rfl
  unfold aX aY bX bY'
  rw [if_pos hk,if_pos hk,if_pos hk,if_pos hk,cor_cons]
  rw [List.all_cons,Bool.and_eq_true] at h
  have hb:=bkb_le h.1
  simp only [List.tail_cons,List.foldl_cons,List.getD_cons_zero]
  rw [show min b.1 b.2.2.1 = b.1 by omega,show min b.2.1 b.2.2.2 = b.2.1 by omega,show max b.1 b.2.2.1 = b.2.2.1 by omega,show max b.2.1 b.2.2.2 = b.2.2.2 by omega]
  exact (cor_fold r b h.2).symm
def KT.fan (t:KT):Nat:=if t.lf then t.its.length else t.kids.length
def gd:Nat → Bool → KT → Bool
 | 0,_,_ => false
 | d + 1,top,t => decide (t.fan ≤ 4) && (top || decide (2 ≤ t.fan)) && (if t.lf then t.kids.isEmpty && (d == 0) && t.ibs.all bkb else t.its.isEmpty && decide (2 ≤ t.kids.length) && t.kids.all (gd d false)) && decide (t.box = arS t)
theorem gd_parts {d:Nat} {top:Bool} {t:KT} (h:gd (d + 1) top t = true):t.fan ≤ 4 ∧ (top = true ∨ 2 ≤ t.fan) ∧ t.box = arS t ∧ ((t.lf = true ∧ t.kids = [] ∧ d = 0 ∧ t.ibs.all bkb = true) ∨ (t.lf = false ∧ t.its = [] ∧ 2 ≤ t.kids.length ∧ t.kids.all (gd d false) = true)):=by
 unfold gd at h
 simp only [Bool.and_eq_true,decide_eq_true_eq,Bool.or_eq_true] at h
 obtain ⟨⟨⟨h1,h2⟩,h3⟩,h4⟩:=h
 refine ⟨h1,h2,h4,?_⟩
 cases hl:t.lf
 ·rw [hl] at h3
  simp only [if_neg (Bool.false_ne_true),Bool.and_eq_true,decide_eq_true_eq,List.isEmpty_iff] at h3
  exact .inr ⟨rfl,h3.1.1,h3.1.2,h3.2⟩
 ·rw [hl] at h3
  simp only [if_true,Bool.and_eq_true,beq_iff_eq,List.isEmpty_iff] at h3
  exact .inl ⟨rfl,h3.1.1,h3.1.2,h3.2⟩
theorem gd_box : ∀ (d : Nat) (t : KT), gd d false t = true → bkb t.box = true
  | 0, t, h => by cases h
  | d + 1, t, h => by
    obtain ⟨_, h2, h3, h4⟩ := gd_parts h
    have h2' : 2 ≤ t.fan := by rcases h2 with h2 | h2; · cases h2
                               · exact h2
    rw [h3]
    unfold arS
    unfold KT.fan at h2'
    rcases h4 with ⟨hl, hk, _, ha⟩ | ⟨hl, hi, hk, ha⟩
    · rw [hl, if_pos rfl] at h2'
      rw [hk]
      exact jns_ok (fun e => by
        have := congrArg List.length e
        unfold KT.ibs at this
        rw [List.length_map] at this
        simp only [List.length_nil] at this
        omega) ha
    · rw [if_neg (by rw [List.isEmpty_iff]; intro e; rw [e] at hk; exact absurd hk (by simp))]
      refine jns_ok (fun e => ?_) ?_
      · have := congrArg List.length e
        unfold KT.kbs at this
        rw [List.length_map] at this
        simp only [List.length_nil] at this
        omega
      · unfold KT.kbs
        rw [List.all_map, List.all_eq_true]
        intro k hk'
        rw [List.all_eq_true] at ha
        exact gd_box d k (ha k hk')
def cnt (t:KT) (least:Nat):Bool:=decide (least ≤ t.fan) && decide (t.fan ≤ 4) && decide ((if t.lf then t.kids.length else t.its.length) = 0)
def rgt:Nat → KT → Nat → Bool
 | 0,_,_ => false
 | d + 1,t,least => (t.lf == (d == 0)) && cnt t least && t.bxs.all bkb && t.kids.all (fun k => rgt d k 2) && decide (t.box = arI t)
theorem rgt_gd:∀ (d:Nat) (t:KT) (least:Nat) (top:Bool),(top = true → least = if t.lf then 0 else 2) → (top = false → least = 2) → rgt d t least = gd d top t
 | 0,t,least,top,_,_ => rfl
 | d + 1,t,least,top,h1,h2 => by
  have hkids:t.kids.all (fun k => rgt d k 2) = t.kids.all (gd d false):=by
   congr 1
   funext k
   exact rgt_gd d k 2 false (fun h => by cases h) (fun _ => rfl)
  rw [Bool.eq_iff_iff]
  constructor
  ·intro h
   unfold rgt cnt at h
   rw [hkids] at h
   simp only [Bool.and_eq_true,decide_eq_true_eq,beq_iff_eq] at h
   obtain ⟨⟨⟨⟨hl,⟨hc1,hc2⟩,hc3⟩,hb⟩,hk⟩,hx⟩:=h
   have hx':t.box = arS t:=by
    rw [hx]
    unfold arI
    rw [around_jns hb]
    unfold arS KT.bxs
    cases hlf:t.lf
    ·rw [hlf,if_neg Bool.false_ne_true] at hc3
     have:t.its = []:=List.length_eq_zero_iff.1 hc3
     have e:t.ibs = []:=by unfold KT.ibs;rw [this];rfl
     rw [e,List.nil_append]
     split
     ·rename_i he
      rw [List.isEmpty_iff] at he
      unfold KT.kbs;rw [he];rfl
     ·rfl
    ·rw [hlf,if_pos rfl] at hc3
     have:t.kids = []:=List.length_eq_zero_iff.1 hc3
     have e:t.kbs = []:=by unfold KT.kbs;rw [this];rfl
     rw [e,List.append_nil,if_pos (by rw [this];rfl)]
   unfold gd
   simp only [Bool.and_eq_true,decide_eq_true_eq,Bool.or_eq_true]
   refine ⟨⟨⟨hc2,?_⟩,?_⟩,hx'⟩
   ·cases top
    ·right;have:=h2 rfl;omega
    ·left;rfl
   ·cases hlf:t.lf
    ·rw [if_neg Bool.false_ne_true]
     rw [hlf,if_neg Bool.false_ne_true] at hc3
     have hi:t.its = []:=List.length_eq_zero_iff.1 hc3
     simp only [Bool.and_eq_true,decide_eq_true_eq,List.isEmpty_iff]
     refine ⟨⟨hi,?_⟩,hk⟩
     have:least = 2:=by cases top with
      | false => exact h2 rfl
      | true => have:=h1 rfl;rw [hlf,if_neg Bool.false_ne_true] at this;exact this
     unfold KT.fan at hc1
     rw [hlf,if_neg Bool.false_ne_true] at hc1
     omega
    ·rw [if_pos rfl]
     rw [hlf,if_pos rfl] at hc3
     rw [hlf] at hl
     have hkk:t.kids = []:=List.length_eq_zero_iff.1 hc3
     have hd:d = 0:=by
      have:=hl.symm
      simpa using this
     simp only [Bool.and_eq_true,beq_iff_eq,List.isEmpty_iff]
     refine ⟨⟨hkk,hd⟩,?_⟩
     unfold KT.bxs at hb
     rw [List.all_append,Bool.and_eq_true] at hb
     exact hb.1
  ·intro h
   obtain ⟨g1,g2,g3,g4⟩:=gd_parts h
   have hb:t.bxs.all bkb = true:=by
    unfold KT.bxs
    rw [List.all_append,Bool.and_eq_true]
    rcases g4 with ⟨hl,hk,_,ha⟩ | ⟨hl,hi,hk,ha⟩
    ·exact ⟨ha,by unfold KT.kbs;rw [hk];rfl⟩
    ·refine ⟨by unfold KT.ibs;rw [hi];rfl,?_⟩
     unfold KT.kbs
     rw [List.all_map,List.all_eq_true]
     rw [List.all_eq_true] at ha
     exact fun k hk' => gd_box d k (ha k hk')
   have hx:t.box = arI t:=by
    rw [g3]
    unfold arI
    rw [around_jns hb]
    unfold arS KT.bxs
    rcases g4 with ⟨hl,hk,_,ha⟩ | ⟨hl,hi,hk,ha⟩
    ·have e:t.kbs = []:=by unfold KT.kbs;rw [hk];rfl
     rw [e,List.append_nil,if_pos (by rw [hk];rfl)]
    ·have e:t.ibs = []:=by unfold KT.ibs;rw [hi];rfl
     rw [e,List.nil_append,if_neg (by rw [List.isEmpty_iff];intro e;rw [e] at hk;exact absurd hk (by simp))]
   unfold rgt cnt
   rw [hkids]
   simp only [Bool.and_eq_true,decide_eq_true_eq,beq_iff_eq]
   rcases g4 with ⟨hl,hk,hd,ha⟩ | ⟨hl,hi,hk,ha⟩
   ·refine ⟨⟨⟨⟨by rw [hl,hd];rfl,⟨?_,g1⟩,by rw [if_pos hl,hk];rfl⟩,hb⟩,by rw [hk];rfl⟩,hx⟩
    cases top
    ·have:=h2 rfl
     rcases g2 with g2 | g2
     ·cases g2
     ·omega
    ·have:=h1 rfl;rw [if_pos hl] at this;omega
   ·have hd:d ≠ 0:=fun e => by
     subst e
     cases hkk:t.kids with
     | nil => rw [hkk] at hk;exact absurd hk (by simp)
     | cons k r => rw [hkk] at ha;cases ha
    refine ⟨⟨⟨⟨by rw [hl];simp [hd],⟨?_,g1⟩,by rw [hl,if_neg Bool.false_ne_true,hi];rfl⟩,hb⟩,ha⟩,hx⟩
    have:least = 2:=by cases top with
     | false => exact h2 rfl
     | true => have:=h1 rfl;rw [hl,if_neg Bool.false_ne_true] at this;exact this
    unfold KT.fan
    rw [hl,if_neg Bool.false_ne_true]
    omega
def kbad (top:Bool) (t:KT):Bool:=decide (4 < t.fan) || (!top && decide (t.fan < 2)) || (t.lf && decide (0 < t.kids.length)) || (!t.lf && (decide (0 < t.its.length) || decide (t.fan < 2))) || decide (t.box ≠ arS t)
def kfd:List Int → Bool → Int → Int
 | [],_,deep => deep + 1
 | d :: r,f,deep => if d < 0 ∨ (f = false ∧ d ≠ deep) then -1 else kfd r false d
def knh:Nat → Bool → KT → Int
 | 0,_,_ => -1
 | n + 1,top,t => if kbad top t = true then -1 else if t.ibs.all bkb = true then kfd (t.kids.map (knh n false)) true 0 else -1
theorem kfd_same:∀ (r:List Int) (d:Int),0 ≤ d → (∀ x ∈ r,x = d) → kfd r false d = d + 1
 | [],d,_,_ => rfl
 | x :: r,d,h0,h => by
  have e:=h x (by simp)
  subst e
  unfold kfd
  rw [if_neg (by simp;omega)]
  exact kfd_same r x h0 (fun y hy => h y (by simp [hy]))
theorem kfd_inv:∀ (r:List Int) (d v:Int),0 ≤ d → kfd r false d = v → v = -1 ∨ (v = d + 1 ∧ ∀ x ∈ r,x = d)
 | [],d,v,_,h => .inr ⟨h.symm,by simp⟩
 | x :: r,d,v,h0,h => by
  unfold kfd at h
  split at h
  ·exact .inl h.symm
  ·rename_i hn
   have hx:x = d:=by
    by_cases e:x = d
    ·exact e
    ·exact absurd (Or.inr ⟨rfl,e⟩) hn
   subst hx
   rcases kfd_inv r x v h0 h with h | ⟨h,hr⟩
   ·exact .inl h
   ·refine .inr ⟨h,?_⟩
    intro y hy
    rcases List.mem_cons.1 hy with hy | hy
    ·exact hy
    ·exact hr y hy
theorem kbad_no {top:Bool} {t:KT} (h:kbad top t = false):t.fan ≤ 4 ∧ (top = true ∨ 2 ≤ t.fan) ∧ t.box = arS t ∧ ((t.lf = true ∧ t.kids = []) ∨ (t.lf = false ∧ t.its = [] ∧ 2 ≤ t.kids.length)):=by
 unfold kbad at h
 simp only [Bool.or_eq_false_iff,decide_eq_false_iff_not,Bool.and_eq_false_iff,Bool.not_eq_false'] at h
 obtain ⟨⟨⟨⟨h1,h2⟩,h3⟩,h4⟩,h5⟩:=h
 refine ⟨by omega,?_,Decidable.not_not.1 h5,?_⟩
 ·rcases h2 with h2 | h2
  ·exact .inl h2
  ·exact .inr (by omega)
 ·cases hl:t.lf
  ·right
   rcases h4 with h4 | ⟨h4,h6⟩
   ·rw [hl] at h4;cases h4
   ·refine ⟨rfl,List.length_eq_zero_iff.1 (by omega),?_⟩
    unfold KT.fan at h6
    rw [hl,if_neg Bool.false_ne_true] at h6
    omega
  ·left
   rcases h3 with h3 | h3
   ·rw [hl] at h3;cases h3
   ·exact ⟨rfl,List.length_eq_zero_iff.1 (by omega)⟩
theorem gd_kbad {d:Nat} {top:Bool} {t:KT} (h:gd (d + 1) top t = true):kbad top t = false:=by
 obtain ⟨g1,g2,g3,g4⟩:=gd_parts h
 unfold kbad
 simp only [Bool.or_eq_false_iff,decide_eq_false_iff_not,Bool.and_eq_false_iff,Bool.not_eq_false']
 refine ⟨⟨⟨⟨by omega,?_⟩,?_⟩,?_⟩,fun h => h g3⟩
 ·rcases g2 with g2 | g2
  ·exact .inl g2
  ·exact .inr (by omega)
 ·rcases g4 with ⟨hl,hk,_⟩ | ⟨hl,_⟩
  ·right;rw [hk];simp
  ·left;exact hl
 ·rcases g4 with ⟨hl,_⟩ | ⟨hl,hi,hk,_⟩
  ·left;exact hl
  ·right
   refine ⟨by rw [hi];simp,?_⟩
   unfold KT.fan
   rw [hl,if_neg Bool.false_ne_true]
   omega
theorem knh_gd:∀ (n d:Nat) (top:Bool) (t:KT),gd d top t = true → d ≤ n → knh n top t = (d:Int)
 | 0,d,top,t,h,hd => by
  have:d = 0:=by omega
  subst this;cases h
 | n + 1,0,top,t,h,hd => by cases h
 | n + 1,d + 1,top,t,h,hd => by
  have hb:=gd_kbad h
  obtain ⟨g1,g2,g3,g4⟩:=gd_parts h
  unfold knh
  rw [hb,if_neg Bool.false_ne_true]
  rcases g4 with ⟨hl,hk,h0,ha⟩ | ⟨hl,hi,hk,ha⟩
  ·rw [if_pos ha,hk,h0];rfl
  ·have e:t.ibs = []:=by unfold KT.ibs;rw [hi];rfl
   rw [e,if_pos (by rfl)]
   rw [List.all_eq_true] at ha
   have hall:∀ x ∈ t.kids.map (knh n false),x = (d:Int):=by
    intro x hx
    obtain ⟨k,hk',rfl⟩:=List.mem_map.1 hx
    exact knh_gd n d false k (ha k hk') (by omega)
   cases hm:t.kids.map (knh n false) with
   | nil => have:=congrArg List.length hm;simp at this;rw [this] at hk;exact absurd hk (by simp)
   | cons x r =>
    rw [hm] at hall
    have hx:=hall x (by simp)
    subst hx
    unfold kfd
    rw [if_neg (by simp),kfd_same r (d:Int) (by omega) (fun y hy => hall y (by simp [hy]))]
    omega
theorem knh_inv:∀ (n:Nat) (top:Bool) (t:KT),knh n top t = -1 ∨ ∃ d:Nat,knh n top t = (d:Int) ∧ gd d top t = true ∧ d ≤ n
 | 0,top,t => .inl rfl
 | n + 1,top,t => by
  unfold knh
  cases hb:kbad top t
  ·rw [if_neg Bool.false_ne_true]
   obtain ⟨g1,g2,g3,g4⟩:=kbad_no hb
   cases ha:t.ibs.all bkb
   ·rw [if_neg Bool.false_ne_true];exact .inl rfl
   ·rw [if_pos rfl]
    rcases g4 with ⟨hl,hk⟩ | ⟨hl,hi,hk⟩
    ·right
     refine ⟨1,by rw [hk];rfl,?_,by omega⟩
     unfold gd
     rw [hl,ha,hk,g3]
     simp only [if_true,List.isEmpty_nil,Bool.and_true,beq_self_eq_true,decide_true,Bool.and_eq_true,decide_eq_true_eq,Bool.or_eq_true]
     exact ⟨g1,g2⟩
    ·cases hm:t.kids.map (knh n false) with
     | nil => have:=congrArg List.length hm;simp at this;rw [this] at hk;exact absurd hk (by simp)
     | cons x r =>
      have hall:∀ y ∈ x :: r,y = -1 ∨ 0 ≤ y:=by
       intro y hy
       rw [← hm] at hy
       obtain ⟨k,hk',rfl⟩:=List.mem_map.1 hy
       rcases knh_inv n false k with h | ⟨d,h,_⟩
       ·exact .inl h
       ·exact .inr (by omega)
      generalize hv:kfd (x :: r) true 0 = v
      unfold kfd at hv
      split at hv
      ·exact .inl hv.symm
      ·rename_i hn
       have hx0:0 ≤ x:=by
        by_cases hx:x < 0
        ·exact absurd (Or.inl hx) hn
        ·omega
       rcases kfd_inv r x v hx0 hv with h | ⟨h,hr⟩
       ·exact .inl h
       ·right
        have hsame:∀ y ∈ x :: r,y = x:=by
         intro y hy
         rcases List.mem_cons.1 hy with hy | hy
         ·exact hy
         ·exact hr y hy
        rw [← hm] at hsame
        have hkd:∀ k ∈ t.kids,knh n false k = x:=fun k hk' => hsame _ (List.mem_map.2 ⟨k,hk',rfl⟩)
        have hkg:∀ k ∈ t.kids,gd x.toNat false k = true ∧ x.toNat ≤ n:=by
         intro k hk'
         have e:=hkd k hk'
         rcases knh_inv n false k with h' | ⟨d,h',h2,h3⟩
         ·omega
         ·have:x.toNat = d:=by omega
          rw [this];exact ⟨h2,h3⟩
        refine ⟨x.toNat + 1,by omega,?_,?_⟩
        ·unfold gd
         rw [hl,hi]
         simp only [if_neg Bool.false_ne_true,List.isEmpty_nil,Bool.true_and,Bool.and_eq_true,decide_eq_true_eq,Bool.or_eq_true,List.all_eq_true]
         exact ⟨⟨⟨g1,g2⟩,hk,fun k hk' => (hkg k hk').1⟩,g3⟩
        ·cases hkk:t.kids with
         | nil => rw [hkk] at hk;exact absurd hk (by simp)
         | cons k q =>
          have:=(hkg k (by rw [hkk];simp)).2
          omega
  ·rw [if_pos rfl];exact .inl rfl
def kns (p:KT → Bool):Nat → KT → List KT
 | 0,t => [t]
 | n + 1,t => t :: (t.kids.filter p).flatMap (kns p n)
def itm:Nat → KT → List It
 | 0,t => t.its
 | n + 1,t => t.its ++ t.kids.flatMap (itm n)
theorem itm_kns:∀ (n:Nat) (t:KT),(kns (fun _ => true) n t).flatMap KT.its = itm n t
 | 0,t => by simp [kns,itm]
 | n + 1,t => by
  unfold kns itm
  rw [List.flatMap_cons,List.filter_eq_self.2 (fun _ _ => rfl),List.flatMap_assoc]
  congr 1
  congr 1
  funext k
  exact itm_kns n k
theorem two_len {α β:Type} (f:α → List β) (m:Nat):∀ l:List α,2 ≤ l.length → (∀ x ∈ l,m ≤ (f x).length) → 2 * m ≤ (l.flatMap f).length
 | [],h,_ => absurd h (by simp)
 | [x],h,_ => absurd h (by simp)
 | x :: y :: r,_,h => by
  rw [List.flatMap_cons,List.flatMap_cons,List.length_append,List.length_append]
  have h1:=h x (by simp)
  have h2:=h y (by simp)
  omega
theorem gd_many:∀ (d n:Nat) (t:KT),gd d false t = true → d ≤ n + 1 → 2 ^ d ≤ (itm n t).length
 | 0,n,t,h,_ => by cases h
 | d + 1,n,t,h,hd => by
  obtain ⟨g1,g2,g3,g4⟩:=gd_parts h
  rcases g4 with ⟨hl,hk,h0,ha⟩ | ⟨hl,hi,hk,ha⟩
  ·subst h0
   have hf:2 ≤ t.its.length:=by
    rcases g2 with g2 | g2
    ·cases g2
    ·unfold KT.fan at g2;rw [hl,if_pos rfl] at g2;exact g2
   have hlen:t.its.length ≤ (itm n t).length:=by
    cases n with
    | zero => exact Nat.le_refl _
    | succ n => unfold itm;rw [List.length_append];omega
   show 2 ≤ _
   omega
  ·cases n with
   | zero =>
    have:d = 0:=by omega
    subst this
    cases hkk:t.kids with
    | nil => rw [hkk] at hk;exact absurd hk (by simp)
    | cons k r => rw [hkk] at ha;cases ha
   | succ n =>
    unfold itm
    rw [hi,List.nil_append,Nat.pow_succ,Nat.mul_comm]
    rw [List.all_eq_true] at ha
    exact two_len (itm n) (2 ^ d) t.kids hk (fun k hk' => gd_many d n k (ha k hk') (by omega))
theorem gd_top_many {d n:Nat} {t:KT} (h:gd (d + 2) true t = true) (hd:d + 2 ≤ n + 1):2 ^ (d + 2) ≤ (itm n t).length:=by
 refine gd_many (d + 2) n t ?_ hd
 obtain ⟨g1,g2,g3,g4⟩:=gd_parts h
 rcases g4 with ⟨hl,hk,h0,ha⟩ | ⟨hl,hi,hk,ha⟩
 ·omega
 ·unfold gd
  rw [hl,hi]
  simp only [if_neg Bool.false_ne_true,List.isEmpty_nil,Bool.true_and,Bool.and_eq_true,decide_eq_true_eq,Bool.or_eq_true]
  refine ⟨⟨⟨g1,.inr ?_⟩,hk,ha⟩,g3⟩
  unfold KT.fan
  rw [hl,if_neg Bool.false_ne_true]
  exact hk
def dpt:Nat → KT → Nat → Nat
 | 0,t,cur => if !t.lf && !t.kids.isEmpty then 0 else cur
 | f + 1,.mk b l i [],cur => cur
 | f + 1,.mk b l i (k :: r),cur => if l then cur else dpt f k (cur + 1)
theorem dpt_gd:∀ (d f:Nat) (top:Bool) (t:KT) (cur:Nat),gd d top t = true → dpt f t cur = if d ≤ f + 1 then cur + d - 1 else 0
 | 0,f,top,t,cur,h => by cases h
 | d + 1,f,top,t,cur,h => by
  obtain ⟨g1,g2,g3,g4⟩:=gd_parts h
  rcases g4 with ⟨hl,hk,h0,ha⟩ | ⟨hl,hi,hk,ha⟩
  ·subst h0
   rw [if_pos (by omega)]
   cases f with
   | zero => unfold dpt;rw [hl,hk];simp
   | succ f =>
    obtain ⟨b,l,i,ks⟩:=t
    cases ks with
    | nil => unfold dpt;omega
    | cons k r => cases hk
  ·obtain ⟨b,l,i,ks⟩:=t
   cases ks with
   | nil => exact absurd hk (by simp [KT.kids])
   | cons k r =>
    have hd:d ≠ 0:=fun e => by subst e;cases ha
    have hl':l = false:=hl
    subst hl'
    cases f with
    | zero => unfold dpt;rw [if_pos (by simp [KT.lf,KT.kids]),if_neg (by omega)]
    | succ f =>
     unfold dpt
     rw [if_neg Bool.false_ne_true]
     rw [List.all_eq_true] at ha
     rw [dpt_gd d f false k (cur + 1) (ha k (by simp [KT.kids]))]
     by_cases hle:d ≤ f + 1
     ·rw [if_pos hle,if_pos (by omega)];omega
     ·rw [if_neg hle,if_neg (by omega)]
def tokS (t:KT):Bool:=decide (0 ≤ knh 20 true t) && decide ((itm 20 t).map (·.1)).Nodup && decide ((itm 20 t).length ≤ 400)
def tokI (t:KT):Bool:=decide (dpt 7 t 1 ≠ 0) && rgt (dpt 7 t 1) t (if t.lf then 0 else 2) && decide ((itm 20 t).length ≤ 400) && decide ((itm 20 t).map (·.1)).Nodup
theorem tok_gd {t:KT} (h:tokS t = true):∃ d,gd d true t = true ∧ d ≤ 8 ∧ knh 20 true t = (d:Int) ∧ dpt 7 t 1 = d:=by
 unfold tokS at h
 simp only [Bool.and_eq_true,decide_eq_true_eq] at h
 obtain ⟨⟨h1,h2⟩,h3⟩:=h
 rcases knh_inv 20 true t with e | ⟨d,e,hg,hd⟩
 ·omega
 ·have h8:d ≤ 8:=by
   by_cases h8:d ≤ 8
   ·exact h8
   ·exfalso
    obtain ⟨k,rfl⟩:∃ k,d = k + 2:=⟨d - 2,by omega⟩
    have hm:=gd_top_many (n:=20) hg (by omega)
    have hp:2 ^ 9 ≤ 2 ^ (k + 2):=Nat.pow_le_pow_right (by omega) (by omega)
    have:(2:Nat) ^ 9 = 512:=by decide
    omega
  have:=dpt_gd d 7 true t 1 hg
  rw [if_pos (by omega)] at this
  exact ⟨d,hg,h8,e,by omega⟩
theorem tok_same (t:KT):tokI t = tokS t:=by
 rw [Bool.eq_iff_iff]
 constructor
 ·intro h
  unfold tokI at h
  simp only [Bool.and_eq_true,decide_eq_true_eq] at h
  obtain ⟨⟨⟨h1,h2⟩,h3⟩,h4⟩:=h
  rw [rgt_gd (dpt 7 t 1) t _ true (fun _ => rfl) (fun h => by cases h)] at h2
  have h8:=dpt_gd _ 7 true t 1 h2
  have hle:dpt 7 t 1 ≤ 8:=by
   by_cases hle:dpt 7 t 1 ≤ 7 + 1
   ·omega
   ·rw [if_neg hle] at h8;omega
  unfold tokS
  simp only [Bool.and_eq_true,decide_eq_true_eq]
  have:=knh_gd 20 (dpt 7 t 1) true t h2 (by omega)
  exact ⟨⟨by omega,h4⟩,h3⟩
 ·intro h
  obtain ⟨d,hg,h8,hk,hd⟩:=tok_gd h
  unfold tokS at h
  simp only [Bool.and_eq_true,decide_eq_true_eq] at h
  unfold tokI
  simp only [Bool.and_eq_true,decide_eq_true_eq]
  rw [hd,rgt_gd d t _ true (fun _ => rfl) (fun h => by cases h)]
  refine ⟨⟨⟨fun e => ?_,hg⟩,h.2⟩,h.1.2⟩
  subst e;cases hg
end Go.Proofs.YtjahlofahjgdbaaGreat
