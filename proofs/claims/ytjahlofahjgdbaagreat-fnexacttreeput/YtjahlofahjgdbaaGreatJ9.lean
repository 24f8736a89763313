/- Texts of stores, joined: Jf, Fr, Jh, Jo. -/
import Derived.Test.YtjahlofahjgdbaaGreatJ8
import Derived.Test.YtjahlofahjgdbaaGreatFj
import Derived.Test.YtjahlofahjgdbaaGreatFf
import Derived.Deep.RegionHeld3
import Derived.WalkLawsBesides
import Derived.RangeFuncBox
import Derived.Shelf.Abstract
import Derived.Shelf.RegionOpen
import Derived.WalkKit
import Derived.OwnWalkIn
import Derived.TacticsInMore
import Derived.LoopNIn
import Derived.LoopIn
import Derived.Maps.AppendAt
import Derived.Deep.AppendLies
set_option maxRecDepth 100000
set_option maxHeartbeats 4000000
set_option linter.unusedSimpArgs false
set_option linter.unusedVariables false
namespace Go.Proofs.YtjahlofahjgdbaaGreat
open Go.RowKit
def cmi (a b:Int):Int:=if a < b then -1 else if b < a then 1 else 0
theorem compare_c (a b:Int) (w:World):Calls Tryz.prog 124 #[.int .i64 a,.int .i64 b] w fun e w' => e = .returned (.int .i64 (cmi a b)) ∧ w' = w:=by
 by_cases h1:a < b
 ·go_enter Tryz.func124,Tryz.ntmps124
  go_wp2
  go_ret
  exact ⟨by simp [cmi,h1],rfl⟩
 ·by_cases h2:b < a
  ·go_enter Tryz.func124,Tryz.ntmps124
   go_wp2
   go_ret
   exact ⟨by simp [cmi,h1,h2],rfl⟩
  ·have e0:cmi a b = 0:=by unfold cmi;rw [if_neg h1,if_neg h2]
   rw [e0]
   go_enter Tryz.func124,Tryz.ntmps124
   go_wp2
   go_ret
   exact ⟨rfl,rfl⟩
theorem or_c (g:Nat) (p q:Int) (w:World) (c0:w.cell? ⟨g,0,none⟩ = some (.int .i64 p)) (c1:w.cell? ⟨g,1,none⟩ = some (.int .i64 q)):Calls Tryz.prog 122 #[.slice (some ⟨g,0,none⟩) 2 2] w fun e w' => e = .returned (.int .i64 (if p ≠ 0 then p else q)) ∧ w' = w:=by
 by_cases hp:p = 0
 ·by_cases hq:q = 0
  ·subst hp hq
   go_enter Tryz.func122,Tryz.ntmps122
   go_wp2_with fail
   refine wp_loop_rounds 3 ?_
   rw [rounds_succ]
   go_wp2_with fail
   rw [rounds_succ]
   go_wp2_with fail
   rw [rounds_succ]
   go_wp2_with fail
   go_ret
   exact ⟨rfl,rfl⟩
  ·have hq':(q != 0) = true:=by simpa using hq
   subst hp
   go_enter Tryz.func122,Tryz.ntmps122
   go_wp2_with fail
   refine wp_loop_rounds 2 ?_
   rw [rounds_succ]
   go_wp2_with fail
   rw [rounds_succ]
   go_wp2_with fail
   go_ret
   exact ⟨by simp,rfl⟩
 ·have hp':(p != 0) = true:=by simpa using hp
  go_enter Tryz.func122,Tryz.ntmps122
  go_wp2_with fail
  refine wp_loop_rounds 1 ?_
  rw [rounds_succ]
  go_wp2_with fail
  go_ret
  exact ⟨by simp [hp],rfl⟩
theorem cell5i {w:World} {p:Nat} {a b c d e:Value} {t:TypeId} (h:w.heap[p]? = some (.cells #[a,b,c,d,e] t (0,0))):w.cell? ⟨p,0,none⟩ = some a ∧ w.cell? ⟨p,1,none⟩ = some b ∧ w.cell? ⟨p,2,none⟩ = some c ∧ w.cell? ⟨p,3,none⟩ = some d ∧ w.cell? ⟨p,4,none⟩ = some e:=by
 refine ⟨?_,?_,?_,?_,?_⟩ <;> simp [World.cell?,h]
def cmid (a b:Bx):Int:=if cmi (a.1 + a.2.2.1) (b.1 + b.2.2.1) ≠ 0 then cmi (a.1 + a.2.2.1) (b.1 + b.2.2.1) else cmi (a.2.1 + a.2.2.2) (b.2.1 + b.2.2.2)
theorem cmi_neg (a b:Int):cmi a b < 0 ↔ a < b:=by
 unfold cmi;split
 ·simp;assumption
 ·split <;> simp <;> omega
theorem cmi_zero (a b:Int):cmi a b = 0 ↔ a = b:=by
 unfold cmi;split
 ·simp;omega
 ·split
  ·simp;omega
  ·simp;omega
theorem cmid_bef (a b:Bx):decide (cmid a b < 0) = bef a b:=by
 rw [Bool.eq_iff_iff,decide_eq_true_eq,bef_iff]
 unfold cmid
 split
 ·rename_i h
  rw [ne_eq,cmi_zero] at h
  rw [cmi_neg];omega
 ·rename_i h
  have h':cmi (a.1 + a.2.2.1) (b.1 + b.2.2.1) = 0:=by simpa using h
  rw [cmi_zero] at h'
  rw [cmi_neg];omega
theorem impl_mid (a0 a1 a2 a3 b0 b1 b2 b3:Int) (w:World) (ha:bkb (a0,a1,a2,a3) = true) (hb:bkb (b0,b1,b2,b3) = true):Calls Tryz.prog 123 #[.agg #[.int .i64 a0,.int .i64 a1,.int .i64 a2,.int .i64 a3],.agg #[.int .i64 b0,.int .i64 b1,.int .i64 b2,.int .i64 b3]] w fun e w' => e = .returned (.int .i64 (cmid (a0,a1,a2,a3) (b0,b1,b2,b3))) ∧ Below w.heap.size w w':=by
 have h1:=bkb_le ha
 have h2:=bkb_le hb
 simp only [] at h1 h2
 have e1:IntKind.i64.wrap (a0 + a2) = a0 + a2:=by rw [IntKind.wrap_i64];omega
 have e2:IntKind.i64.wrap (a1 + a3) = a1 + a3:=by rw [IntKind.wrap_i64];omega
 have e3:IntKind.i64.wrap (b0 + b2) = b0 + b2:=by rw [IntKind.wrap_i64];omega
 have e4:IntKind.i64.wrap (b1 + b3) = b1 + b3:=by rw [IntKind.wrap_i64];omega
 clear ha hb h1 h2
 have HC1:=hid (fun (W:World) => compare_c (a0 + a2) (b0 + b2) W)
 have HC2:=hid (fun (W:World) => compare_c (a1 + a3) (b1 + b3) W)
 have HOR:=hid (fun (W:World) (g':Nat) (c0:W.cell? ⟨g',0,none⟩ = some (.int .i64 (cmi (a0 + a2) (b0 + b2)))) (c1:W.cell? ⟨g',1,none⟩ = some (.int .i64 (cmi (a1 + a3) (b1 + b3)))) => or_c g' (cmi (a0 + a2) (b0 + b2)) (cmi (a1 + a3) (b1 + b3)) W c0 c1)
 change Calls _ _ _ _ (fun e w' => e = .returned (.int .i64 (if cmi (a0 + a2) (b0 + b2) ≠ 0 then cmi (a0 + a2) (b0 + b2) else cmi (a1 + a3) (b1 + b3))) ∧ _)
 generalize cmi (a0 + a2) (b0 + b2) = p at *
 generalize cmi (a1 + a3) (b1 + b3) = q at *
 change Hid (∀ (W:World) (g':Nat),W.cell? ⟨g',0,none⟩ = some (.int .i64 p) → W.cell? ⟨g',1,none⟩ = some (.int .i64 q) → Calls _ _ #[.slice (some ⟨g',0,none⟩) 2 2] W (fun e w' => e = .returned (.int .i64 (if p ≠ 0 then p else q)) ∧ w' = W)) at HOR
 generalize (if p ≠ 0 then p else q) = z at *
 have gA:=old_alloc (o':=(.cells #[.int .i64 b0,.int .i64 b1,.int .i64 b2,.int .i64 b3] 31)) (new_alloc w w.heap.size (.cells #[.int .i64 a0,.int .i64 a1,.int .i64 a2,.int .i64 a3] 31) rfl)
 have gB:=new_alloc (w.alloc (.cells #[.int .i64 a0,.int .i64 a1,.int .i64 a2,.int .i64 a3] 31)) (w.heap.size + 1) (.cells #[.int .i64 b0,.int .i64 b1,.int .i64 b2,.int .i64 b3] 31) (by simp)
 have HB:=balloc (balloc (Below.refl w.heap.size w) (.cells #[.int .i64 a0,.int .i64 a1,.int .i64 a2,.int .i64 a3] 31)) (.cells #[.int .i64 b0,.int .i64 b1,.int .i64 b2,.int .i64 b3] 31)
 obtain ⟨x0,x1,x2,x3,_,_,_,_⟩:=cell4b gA
 obtain ⟨y0,y1,y2,y3,_,_,_,_⟩:=cell4b gB
 go_enter Tryz.func123,Tryz.ntmps123
 go_upto_region 1 with fail
 generalize (w.alloc (.cells #[.int .i64 a0,.int .i64 a1,.int .i64 a2,.int .i64 a3] 31)).alloc (.cells #[.int .i64 b0,.int .i64 b1,.int .i64 b2,.int .i64 b3] 31) = v0 at *
 clear gA gB
 refine wp_region_held_drew (S:=(fun w' => w'.cell? ⟨w.heap.size,0,none⟩ = some (.int .i64 a0) ∧ w'.cell? ⟨w.heap.size,1,none⟩ = some (.int .i64 a1) ∧ w'.cell? ⟨w.heap.size,2,none⟩ = some (.int .i64 a2) ∧ w'.cell? ⟨w.heap.size,3,none⟩ = some (.int .i64 a3) ∧ w'.cell? ⟨w.heap.size + 1,0,none⟩ = some (.int .i64 b0) ∧ w'.cell? ⟨w.heap.size + 1,1,none⟩ = some (.int .i64 b1) ∧ w'.cell? ⟨w.heap.size + 1,2,none⟩ = some (.int .i64 b2) ∧ w'.cell? ⟨w.heap.size + 1,3,none⟩ = some (.int .i64 b3))) (by kernel_rfl) ?_ (fun hHeld => ?_)
 ·(repeat' apply And.intro) <;> (with_reducible repeat (first | assumption | refine keepdrew ?_ | refine keepcell (by assumption) ?_ | refine keepalloc ?_ _))
 refine tkR 0 hHeld ?_
 try simp only [sq]
 refine tkR 1 hHeld ?_
 try simp only [sq]
 refine tkR 2 hHeld ?_
 try simp only [sq]
 refine tkR 3 hHeld ?_
 try simp only [sq]
 refine tkR 4 hHeld ?_
 try simp only [sq]
 refine tkR 5 hHeld ?_
 try simp only [sq]
 refine tkR 6 hHeld ?_
 try simp only [sq]
 refine tkR 7 hHeld ?_
 try simp only [sq]
 refine tkR 8 hHeld ?_
 try simp only [sq]
 refine tkR 9 hHeld ?_
 try simp only [sq]
 refine tkR 11 hHeld ?_
 try simp only [sq]
 refine tkR 12 hHeld ?_
 try simp only [sq]
 refine tkR 13 hHeld ?_
 try simp only [sq]
 refine tkR 14 hHeld ?_
 try simp only [sq]
 refine tkR 15 hHeld ?_
 try simp only [sq]
 refine tkR 16 hHeld ?_
 try simp only [sq]
 refine tkR 17 hHeld ?_
 try simp only [sq]
 refine tkR 18 hHeld ?_
 try simp only [sq]
 refine tkR 19 hHeld ?_
 try simp only [sq]
 refine tkR 20 hHeld ?_
 try simp only [sq]
 refine rd1 10 rfl (fun K hK => ?_)
 try simp only [sq]
 go_simp
 (first
   | (go_at_call 124;refine (HC1.out _).mono ?_;rintro e u1 ⟨rfl,hu1⟩;subst hu1))
 go_wp2_with fail
 refine hK.out _ _ ?_ (fun hHeld => ?_)
 ·(repeat' apply And.intro) <;> (with_reducible repeat (first | assumption | refine keepdrew ?_ | refine keepcell (by assumption) ?_ | refine keepalloc ?_ _))
 clear hK K
 try simp only [sq]
 refine rd1 21 rfl (fun K hK => ?_)
 try simp only [sq]
 go_simp
 (first
   | (go_at_call 124;refine (HC2.out _).mono ?_;rintro e u2 ⟨rfl,hu2⟩;subst hu2))
 go_wp2_with fail
 refine hK.out _ _ ?_ (fun hHeld => ?_)
 ·(repeat' apply And.intro) <;> (with_reducible repeat (first | assumption | refine keepdrew ?_ | refine keepcell (by assumption) ?_ | refine keepalloc ?_ _))
 clear hK K
 try simp only [sq]
 refine rd1 22 rfl (fun K hK => ?_)
 try simp only [sq]
 go_simp
 refine hK.out _ _ ?_ (fun hHeld => ?_)
 ·(repeat' apply And.intro) <;> (with_reducible repeat (first | assumption | refine keepdrew ?_ | refine keepcell (by assumption) ?_ | refine keepalloc ?_ _))
 clear hK K
 try simp only [sq]
 refine rd1 23 rfl (fun K hK => ?_)
 try simp only [sq]
 go_simp
 (first
   | (go_at_call 122;refine (HOR.out _ _ (by show (World.alloc _ _).cell? _ = _;simp) (by show (World.alloc _ _).cell? _ = _;simp)).mono ?_;rintro e u3 ⟨rfl,hu3⟩;subst hu3))
 go_wp2_with fail
 refine hK.out _ _ ?_ (fun hHeld => ?_)
 ·(repeat' apply And.intro) <;> (with_reducible repeat (first | assumption | refine keepdrew ?_ | refine keepcell (by assumption) ?_ | refine keepalloc ?_ _))
 clear hK K
 try simp only [sq]
 refine tkR 24 hHeld ?_
 try simp only [sq]
 refine wpAnyH_done (by kernel_rfl) ?_ _
 go_wp2_with fail
 go_ret
 exact ⟨rfl,by (with_reducible repeat (first | exact Below.refl _ _ | assumption | (refine btrans ?_ (by assumption)) | refine bdrew ?_ | refine balloc ?_ _))⟩
theorem split_knots (a0 a1 a2 a3 b0 b1 b2 b3:Int) (a4 b4:Bool) (a5 a8 b5 b8:Option Addr) (a6 a7 a9 a10 b6 b7 b9 b10:Nat) (w:World) (ha:bkb (a0,a1,a2,a3) = true) (hb:bkb (b0,b1,b2,b3) = true):Calls Tryz.prog 126 #[.agg #[.int .i64 a0,.int .i64 a1,.int .i64 a2,.int .i64 a3,.bool a4,.slice a5 a6 a7,.slice a8 a9 a10],.agg #[.int .i64 b0,.int .i64 b1,.int .i64 b2,.int .i64 b3,.bool b4,.slice b5 b6 b7,.slice b8 b9 b10]] w fun e w' => e = .returned (.int .i64 (cmid (a0,a1,a2,a3) (b0,b1,b2,b3))) ∧ Below w.heap.size w w':=by
 have CM:=hid (fun (W:World) => impl_mid a0 a1 a2 a3 b0 b1 b2 b3 W ha hb)
 generalize cmid (a0,a1,a2,a3) (b0,b1,b2,b3) = z at *
 have gA:=old_alloc (o':=(.cells #[.int .i64 b0,.int .i64 b1,.int .i64 b2,.int .i64 b3,.bool b4,.slice b5 b6 b7,.slice b8 b9 b10] 35)) (new_alloc w w.heap.size (.cells #[.int .i64 a0,.int .i64 a1,.int .i64 a2,.int .i64 a3,.bool a4,.slice a5 a6 a7,.slice a8 a9 a10] 35) rfl)
 have gB:=new_alloc (w.alloc (.cells #[.int .i64 a0,.int .i64 a1,.int .i64 a2,.int .i64 a3,.bool a4,.slice a5 a6 a7,.slice a8 a9 a10] 35)) (w.heap.size + 1) (.cells #[.int .i64 b0,.int .i64 b1,.int .i64 b2,.int .i64 b3,.bool b4,.slice b5 b6 b7,.slice b8 b9 b10] 35) (by simp)
 have HB:=balloc (balloc (Below.refl w.heap.size w) (.cells #[.int .i64 a0,.int .i64 a1,.int .i64 a2,.int .i64 a3,.bool a4,.slice a5 a6 a7,.slice a8 a9 a10] 35)) (.cells #[.int .i64 b0,.int .i64 b1,.int .i64 b2,.int .i64 b3,.bool b4,.slice b5 b6 b7,.slice b8 b9 b10] 35)
 obtain ⟨x0,x1,x2,x3,x4,x5,x6,_,_,_,_,_,_,_⟩:=cell7k gA
 obtain ⟨y0,y1,y2,y3,y4,y5,y6,_,_,_,_,_,_,_⟩:=cell7k gB
 clear ha hb gA gB
 go_enter Tryz.func126,Tryz.ntmps126
 go_upto_region 1 with fail
 generalize (w.alloc (.cells #[.int .i64 a0,.int .i64 a1,.int .i64 a2,.int .i64 a3,.bool a4,.slice a5 a6 a7,.slice a8 a9 a10] 35)).alloc (.cells #[.int .i64 b0,.int .i64 b1,.int .i64 b2,.int .i64 b3,.bool b4,.slice b5 b6 b7,.slice b8 b9 b10] 35) = v0 at *
 go_wp2_with fail
 refine (CM.out _).mono ?_
 rintro e v1 ⟨rfl,hb1⟩
 go_wp2_with fail
 go_ret
 exact ⟨rfl,btrans HB hb1⟩
def cmI (a b:It):Int:=if cmid a.2 b.2 ≠ 0 then cmid a.2 b.2 else cmi a.1 b.1
theorem cmid_zero (a b:Bx):cmid a b = 0 ↔ (a.1 + a.2.2.1 = b.1 + b.2.2.1 ∧ a.2.1 + a.2.2.2 = b.2.1 + b.2.2.2):=by
 unfold cmid
 split
 ·rename_i h
  have h':=h
  rw [ne_eq,cmi_zero] at h'
  constructor
  ·intro e;exact absurd e h
  ·intro e;exact absurd e.1 h'
 ·rename_i h
  have h':cmi (a.1 + a.2.2.1) (b.1 + b.2.2.1) = 0:=by simpa using h
  rw [cmi_zero] at h'
  rw [cmi_zero];omega
theorem cmI_befI (a b:It):decide (cmI a b < 0) = befI a b:=by
 rw [Bool.eq_iff_iff,decide_eq_true_eq,befI_iff]
 have hb:=cmid_bef a.2 b.2
 have hbi:=bef_iff a.2 b.2
 rw [← hb,decide_eq_true_eq] at hbi
 unfold cmI
 split
 ·rename_i h
  rw [ne_eq,cmid_zero] at h
  rw [hbi];omega
 ·rename_i h
  have h':cmid a.2 b.2 = 0:=by simpa using h
  rw [cmid_zero] at h'
  rw [cmi_neg];omega
theorem split_items (a0 a1 a2 a3 a4 b0 b1 b2 b3 b4:Int) (w:World) (ha:bkb (a1,a2,a3,a4) = true) (hb:bkb (b1,b2,b3,b4) = true):Calls Tryz.prog 121 #[.agg #[.int .i64 a0,.int .i64 a1,.int .i64 a2,.int .i64 a3,.int .i64 a4],.agg #[.int .i64 b0,.int .i64 b1,.int .i64 b2,.int .i64 b3,.int .i64 b4]] w fun e w' => e = .returned (.int .i64 (cmI (a0,a1,a2,a3,a4) (b0,b1,b2,b3,b4))) ∧ Below w.heap.size w w':=by
 have CM:=hid (fun (W:World) => impl_mid a1 a2 a3 a4 b1 b2 b3 b4 W ha hb)
 have HC:=hid (fun (W:World) => compare_c a0 b0 W)
 have HOR:=hid (fun (W:World) (g':Nat) (c0:W.cell? ⟨g',0,none⟩ = some (.int .i64 (cmid (a1,a2,a3,a4) (b1,b2,b3,b4)))) (c1:W.cell? ⟨g',1,none⟩ = some (.int .i64 (cmi a0 b0))) => or_c g' (cmid (a1,a2,a3,a4) (b1,b2,b3,b4)) (cmi a0 b0) W c0 c1)
 change Calls _ _ _ _ (fun e w' => e = .returned (.int .i64 (if cmid (a1,a2,a3,a4) (b1,b2,b3,b4) ≠ 0 then cmid (a1,a2,a3,a4) (b1,b2,b3,b4) else cmi a0 b0)) ∧ _)
 generalize cmid (a1,a2,a3,a4) (b1,b2,b3,b4) = p at *
 generalize cmi a0 b0 = q at *
 change Hid (∀ (W:World) (g':Nat),W.cell? ⟨g',0,none⟩ = some (.int .i64 p) → W.cell? ⟨g',1,none⟩ = some (.int .i64 q) → Calls _ _ #[.slice (some ⟨g',0,none⟩) 2 2] W (fun e w' => e = .returned (.int .i64 (if p ≠ 0 then p else q)) ∧ w' = W)) at HOR
 generalize (if p ≠ 0 then p else q) = z at *
 have gA:=old_alloc (o':=(.cells #[.int .i64 b0,.int .i64 b1,.int .i64 b2,.int .i64 b3,.int .i64 b4] 40)) (new_alloc w w.heap.size (.cells #[.int .i64 a0,.int .i64 a1,.int .i64 a2,.int .i64 a3,.int .i64 a4] 40) rfl)
 have gB:=new_alloc (w.alloc (.cells #[.int .i64 a0,.int .i64 a1,.int .i64 a2,.int .i64 a3,.int .i64 a4] 40)) (w.heap.size + 1) (.cells #[.int .i64 b0,.int .i64 b1,.int .i64 b2,.int .i64 b3,.int .i64 b4] 40) (by simp)
 have HB:=balloc (balloc (Below.refl w.heap.size w) (.cells #[.int .i64 a0,.int .i64 a1,.int .i64 a2,.int .i64 a3,.int .i64 a4] 40)) (.cells #[.int .i64 b0,.int .i64 b1,.int .i64 b2,.int .i64 b3,.int .i64 b4] 40)
 obtain ⟨x0,x1,x2,x3,x4⟩:=cell5i gA
 obtain ⟨y0,y1,y2,y3,y4⟩:=cell5i gB
 clear ha hb gA gB
 go_enter Tryz.func121,Tryz.ntmps121
 go_upto_region 1 with fail
 generalize (w.alloc (.cells #[.int .i64 a0,.int .i64 a1,.int .i64 a2,.int .i64 a3,.int .i64 a4] 40)).alloc (.cells #[.int .i64 b0,.int .i64 b1,.int .i64 b2,.int .i64 b3,.int .i64 b4] 40) = v0 at *
 refine wp_region_held_drew (S:=(fun w' => w'.cell? ⟨w.heap.size,0,none⟩ = some (.int .i64 a0) ∧ w'.cell? ⟨w.heap.size,1,none⟩ = some (.int .i64 a1) ∧ w'.cell? ⟨w.heap.size,2,none⟩ = some (.int .i64 a2) ∧ w'.cell? ⟨w.heap.size,3,none⟩ = some (.int .i64 a3) ∧ w'.cell? ⟨w.heap.size,4,none⟩ = some (.int .i64 a4) ∧ w'.cell? ⟨w.heap.size + 1,0,none⟩ = some (.int .i64 b0) ∧ w'.cell? ⟨w.heap.size + 1,1,none⟩ = some (.int .i64 b1) ∧ w'.cell? ⟨w.heap.size + 1,2,none⟩ = some (.int .i64 b2) ∧ w'.cell? ⟨w.heap.size + 1,3,none⟩ = some (.int .i64 b3) ∧ w'.cell? ⟨w.heap.size + 1,4,none⟩ = some (.int .i64 b4))) (by kernel_rfl) ?_ (fun hHeld => ?_)
 ·(repeat' apply And.intro) <;> (with_reducible repeat (first | assumption | refine keepdrew ?_ | refine keepcell (by assumption) ?_ | refine keepalloc ?_ _))
 refine tkR 0 hHeld ?_
 try simp only [sq]
 refine tkR 1 hHeld ?_
 try simp only [sq]
 refine tkR 2 hHeld ?_
 try simp only [sq]
 refine tkR 3 hHeld ?_
 try simp only [sq]
 refine tkR 5 hHeld ?_
 try simp only [sq]
 refine tkR 6 hHeld ?_
 try simp only [sq]
 refine tkR 7 hHeld ?_
 try simp only [sq]
 refine tkR 8 hHeld ?_
 try simp only [sq]
 refine rd1 4 rfl (fun K hK => ?_)
 try simp only [sq]
 go_simp
 (first
   | (go_at_call 123;refine (CM.out _).mono ?_;rintro e u1 ⟨rfl,hu1⟩))
 go_wp2_with fail
 refine hK.out _ _ ?_ (fun hHeld => ?_)
 ·(repeat' apply And.intro) <;> (with_reducible repeat (first | assumption | refine keepdrew ?_ | refine keepcell (by assumption) ?_ | refine keepalloc ?_ _))
 clear hK K
 try simp only [sq]
 refine rd1 9 rfl (fun K hK => ?_)
 try simp only [sq]
 go_simp
 (first
   | (go_at_call 124;refine (HC.out _).mono ?_;rintro e u2 ⟨rfl,hu2⟩;subst hu2))
 go_wp2_with fail
 refine hK.out _ _ ?_ (fun hHeld => ?_)
 ·(repeat' apply And.intro) <;> (with_reducible repeat (first | assumption | refine keepdrew ?_ | refine keepcell (by assumption) ?_ | refine keepalloc ?_ _))
 clear hK K
 try simp only [sq]
 refine rd1 10 rfl (fun K hK => ?_)
 try simp only [sq]
 go_simp
 refine hK.out _ _ ?_ (fun hHeld => ?_)
 ·(repeat' apply And.intro) <;> (with_reducible repeat (first | assumption | refine keepdrew ?_ | refine keepcell (by assumption) ?_ | refine keepalloc ?_ _))
 clear hK K
 try simp only [sq]
 refine rd1 11 rfl (fun K hK => ?_)
 try simp only [sq]
 go_simp
 (first
   | (go_at_call 122;refine (HOR.out _ _ (by show (World.alloc _ _).cell? _ = _;simp) (by show (World.alloc _ _).cell? _ = _;simp)).mono ?_;rintro e u3 ⟨rfl,hu3⟩;subst hu3))
 go_wp2_with fail
 refine hK.out _ _ ?_ (fun hHeld => ?_)
 ·(repeat' apply And.intro) <;> (with_reducible repeat (first | assumption | refine keepdrew ?_ | refine keepcell (by assumption) ?_ | refine keepalloc ?_ _))
 clear hK K
 try simp only [sq]
 refine tkR 12 hHeld ?_
 try simp only [sq]
 refine wpAnyH_done (by kernel_rfl) ?_ _
 go_wp2_with fail
 go_ret
 exact ⟨rfl,by (with_reducible repeat (first | exact Below.refl _ _ | assumption | (refine btrans ?_ (by assumption)) | refine bdrew ?_ | refine balloc ?_ _))⟩
end Go.Proofs.YtjahlofahjgdbaaGreat
namespace Go.Proofs.YtjahlofahjgdbaaGreat
open Go.RowKit Go.Shelf
attribute [local go_sem] Oper.semAt_some
def KE (lo m:Nat) (w0:World) (t:KT) (k:Nat) (v:Value) (_:World):Prop:=∃ (hk:k < t.kids.length) (ia ka:Option Addr),v = kvo t.kids[k] ia ka ∧ Kn lo m w0 ia ka t.kids[k]
theorem eachKid_seq (F:Fence) (n:Nat) (hf:F.fn 79) (hro:F.round = none) (hn:1 ≤ n) (M:Obj → Bool) (lo m:Nat) (t:KT) (ia ka:Option Addr) (w0:World) (h:Kn lo (m + 1) w0 ia ka t) (hkl:t.kids.length ≤ 1099511627776):SeqN F n Tryz.prog M 79 #[kvo t ia ka] #[] w0.heap.size t.kids.length (KE lo m w0 t) (fun _ => True) w0:=by
 intro l J Jx W _ hW hJ hJx hY h0
 show CallsIn F n Tryz.prog 79 #[kvo t ia ka,.func (.yield l) #[] #[]] W _
 obtain ⟨b0,b1,b2,b3,b4,ni,nk,hkf⟩:=kf t
 obtain ⟨bi,bk,hia,hka,hl1,hl2,hI,hbk,hth,hK⟩:=h
 subst hka
 rw [kvo_of hkf]
 have HL:=hid hkf.kids
 rw [hkf.kids] at hkl
 have HKL:=hid hkl
 clear hkf hI hth hl1 hl2 hia
 have HK:=hid hK
 have HW:=hid hW
 clear hK hW hkl
 have B0:=hid (balloc (Below.refl W.heap.size W) (.cells #[.int .i64 b0,.int .i64 b1,.int .i64 b2,.int .i64 b3,.bool b4,.slice ia ni ni,.slice (some ⟨bk,0,none⟩) nk nk] 35))
 have gT:=hid (new_alloc W W.heap.size (.cells #[.int .i64 b0,.int .i64 b1,.int .i64 b2,.int .i64 b3,.bool b4,.slice ia ni ni,.slice (some ⟨bk,0,none⟩) nk nk] 35) rfl)
 have h1:=hid (hJ _ _ _ h0 (Tn.of_below B0.out))
 clear h0
 refine callsIn_of_wp Tryz.func79 rfl hf ?_ hro
 simp only [Tryz.ntmps79,List.size_toArray,List.length_cons,List.length_nil,Nat.reduceAdd,Nat.reduceSub,Array.replicate_succ,Array.replicate_zero,List.push_toArray,List.append_toArray,List.nil_append,List.cons_append]
 gi_wp2
 gi_loopw [9] (fun i wr => ∃ k:Nat,k ≤ nk ∧ i = .int .i64 k ∧ Hid (J k wr) ∧ Hid (Below w0.heap.size W wr)) (fun i _ => nk - (intOf i).toNat)
 case atStart => exact ⟨0,Nat.zero_le _,rfl,h1,hid (B0.out.mono HW.out.size)⟩
 case round =>
  clear gT B0 h1
  obtain ⟨k,hk,rfl,HJ,HB⟩:=hrel
  have hnk:nk ≤ 1099511627776:=HKL.out
  by_cases hlt:k < nk
  ·have hkl:k < t.kids.length:=by rw [HL.out];exact hlt
   have c1:(k:Int) < (nk:Int):=by omega
   obtain ⟨ia',ka',q1,q2⟩:=HK.out k hkl
   obtain ⟨c0,c1',c2,c3,c4,mi,mk,hkf⟩:=kf t.kids[k]
   have hcs:=Cs.kf hkf (q1.below hbk (HW.out.trans HB.out))
   obtain ⟨z0,z1,z2,z3,z4,z5,z6⟩:=hcs
   have hBA:Below wr.heap.size wr (wr.alloc (.cells #[.int .i64 c0,.int .i64 c1',.int .i64 c2,.int .i64 c3,.bool c4,.slice ia' mi mi,.slice ka' mk mk] 35)):=balloc (Below.refl wr.heap.size wr) _
   have hs0:w0.heap.size ≤ wr.heap.size:=Nat.le_trans HW.out.size HB.out.size
   have HB2:=hid (HB.out.trans (hBA.mono hs0))
   obtain ⟨fn,tmps,assign,body,hy,hR⟩:=hY k (kvo t.kids[k] ia' ka') _ (by rw [HL.out];exact hlt) (hJ _ _ _ HJ.out (Tn.of_below hBA)) ⟨hkl,ia',ka',rfl,q2⟩ HB2.out
   rw [kvo_of hkf] at hy
   have HR:=hid hR
   clear hR q1 q2 hkf hBA
   gi_wp2
   refine HR.out.mono ?_
   rintro e W3 ⟨(⟨rfl,hJ3⟩ | ⟨rfl,hJ3⟩),hk3⟩
   ·gi_wp2
    go_roundw
    case rel => exact ⟨k + 1,by omega,by go_num,hid hJ3,hid (HB2.out.trans hk3.below)⟩
    case measure => simp [intOf];omega
   ·gi_wp2
    refine bodyPost_ret (results_none rfl _ _ _) rfl ?_
    exact ⟨⟨_,rfl⟩,.inr ⟨k,hkl,hJ3⟩,HB2.out.trans hk3.below⟩
  ·have c1:(nk:Int) ≤ (k:Int):=by omega
   gi_wp2
   go_end0
   refine ⟨⟨_,rfl⟩,.inl ?_,HB.out⟩
   have:=HJ.out
   rwa [show k = t.kids.length by rw [HL.out];omega] at this
end Go.Proofs.YtjahlofahjgdbaaGreat
namespace Go.Proofs.YtjahlofahjgdbaaGreat
open Go.RowKit
theorem clone_items (b off c:Nat) (l:List It) (w:World) (hm:l.length ≤ 1048576) (hb:b < w.heap.size) (h:∀ j (hj:j < l.length),Cs w b (off + j * 5) (ci l[j])):Calls Tryz.prog 78 #[.slice (some ⟨b,off,none⟩) l.length c] w fun e w' => ∃ g c',e = .returned (.slice (some ⟨g,0,none⟩) l.length c') ∧ ItG w' w.heap.size g c' l ∧ Below w.heap.size w w':=by
 obtain ⟨i0,hi0,hz0,hz1,hzz⟩:=info_parts Tryz.infoIt
 have HC:=flI_cell l off h
 have HOW:=hid (World.ownsRow_made (base:=w.heap.size) (e:=40) (size:=5) w #[] 0 (Nat.le_refl _) (by decide) rfl)
 have HNW:Hid (∀ j u,(flI l)[j]? = some u → (w.alloc (.cells #[] 40)).cell? ((⟨b,off,none⟩:Addr).add j) = some u):=hid (fun j u e => by
  have ha:(⟨b,off,none⟩:Addr).add j = ⟨b,off + j,none⟩:=Addr.add_mid b off j
  rw [ha]
  exact keepcell (balloc (Below.refl w.heap.size w) (.cells #[] 40)) (HC j u e))
 have HF1:=hid (flI_one l)
 have HF5:=flI_len l
 have HBB:=hid (balloc (Below.refl w.heap.size w) (.cells #[] 40))
 have HSZ:Hid ((w.alloc (.cells #[] 40)).heap.size = w.heap.size + 1):=hid (by simp)
 have he:∀ W:World,(binOp .eql 32 (.slice (some ⟨b,off,none⟩) l.length c) (.slice none 0 0)).run Tryz.prog W = .ok (.bool false) W:=fun _ => rfl
 clear HC h
 go_enter Tryz.func78,Tryz.ntmps78
 go_wp2_with (at_builtin;(refine wpList_append_any rfl (.tmp 5) (.tmp 6) 32 rfl w.heap.size 40 i0 _ 5 40 Tryz.underlying32 hi0 hz0 hz1 hzz rfl (by decide) w.heap.size 0 0 0 [] (by rfl) HOW.out ⟨b,off,none⟩ l.length c (flI l) (by rfl) HF5 HNW.out HF1.out (by unfold maxLen;omega) (by omega) (by rw [HSZ.out];omega) ?_;intro gg cp w2 hown1 hgrow hat))
 go_ret
 have hG:ItG w2 w.heap.size gg cp l:=ofG hown1 (by omega) (by simp)
 exact ⟨gg,cp,rfl,hG,bgrown HBB.out hgrow (Nat.le_refl _)⟩
theorem clone_knots (b off c:Nat) (l:List KP) (w:World) (hm:l.length ≤ 1048576) (hb:b < w.heap.size) (h:Cs w b off (flK l)):Calls Tryz.prog 146 #[.slice (some ⟨b,off,none⟩) l.length c] w fun e w' => ∃ g c',e = .returned (.slice (some ⟨g,0,none⟩) l.length c') ∧ w'.ownsRow w.heap.size 35 7 (.slice (some ⟨g,0,none⟩) l.length c') l.length (flK l) ∧ Below w.heap.size w w':=by
 obtain ⟨i0,hi0,hz0,hz1,hzz⟩:=info_parts Tryz.infoKn
 have HC:=h
 have HOW:=hid (World.ownsRow_made (base:=w.heap.size) (e:=35) (size:=7) w #[] 0 (Nat.le_refl _) (by decide) rfl)
 have HNW:Hid (∀ j u,(flK l)[j]? = some u → (w.alloc (.cells #[] 35)).cell? ((⟨b,off,none⟩:Addr).add j) = some u):=hid (fun j u e => by
  have ha:(⟨b,off,none⟩:Addr).add j = ⟨b,off + j,none⟩:=Addr.add_mid b off j
  rw [ha]
  exact keepcell (balloc (Below.refl w.heap.size w) (.cells #[] 35)) (HC j u e))
 have HF1:=hid (flK_one l)
 have HF5:=flK_len l
 have HBB:=hid (balloc (Below.refl w.heap.size w) (.cells #[] 35))
 have HSZ:Hid ((w.alloc (.cells #[] 35)).heap.size = w.heap.size + 1):=hid (by simp)
 have he:∀ W:World,(binOp .eql 33 (.slice (some ⟨b,off,none⟩) l.length c) (.slice none 0 0)).run Tryz.prog W = .ok (.bool false) W:=fun _ => rfl
 clear HC h
 go_enter Tryz.func146,Tryz.ntmps146
 go_wp2_with (at_builtin;(refine wpList_append_any rfl (.tmp 5) (.tmp 6) 33 rfl w.heap.size 35 i0 _ 7 88 Tryz.underlying33 hi0 hz0 hz1 hzz rfl (by decide) w.heap.size 0 0 0 [] (by rfl) HOW.out ⟨b,off,none⟩ l.length c (flK l) (by rfl) HF5 HNW.out HF1.out (by unfold maxLen;omega) (by omega) (by rw [HSZ.out];omega) ?_;intro gg cp w2 hown1 hgrow hat))
 go_ret
 rw [Nat.zero_add,List.nil_append] at hown1
 exact ⟨gg,cp,rfl,hown1,bgrown HBB.out hgrow (Nat.le_refl _)⟩
theorem clone_nil_items (w:World):Calls Tryz.prog 78 #[.slice none 0 0] w fun e w' => e = .returned (.slice none 0 0) ∧ Below w.heap.size w w':=by
 have he:∀ W:World,(binOp .eql 32 (.slice none 0 0) (.slice none 0 0)).run Tryz.prog W = .ok (.bool true) W:=fun _ => rfl
 go_enter Tryz.func78,Tryz.ntmps78
 go_wp2_with fail
 go_ret
 exact ⟨rfl,Below.refl _ _⟩
theorem clone_nil_knots (w:World):Calls Tryz.prog 146 #[.slice none 0 0] w fun e w' => e = .returned (.slice none 0 0) ∧ Below w.heap.size w w':=by
 have he:∀ W:World,(binOp .eql 33 (.slice none 0 0) (.slice none 0 0)).run Tryz.prog W = .ok (.bool true) W:=fun _ => rfl
 go_enter Tryz.func146,Tryz.ntmps146
 go_wp2_with fail
 go_ret
 exact ⟨rfl,Below.refl _ _⟩
end Go.Proofs.YtjahlofahjgdbaaGreat
namespace Go.Proofs.YtjahlofahjgdbaaGreat
open Go.RowKit Go.Shelf
attribute [local go_sem] Oper.semAt_some
def ItQ (w:World) (a:Option Addr) (c:Nat) (l:List It):Prop:=(a = none ∧ l = [] ∧ c = 0) ∨ ∃ b off,a = some ⟨b,off,none⟩ ∧ b < w.heap.size ∧ ∀ j (h:j < l.length),Cs w b (off + j * 5) (ci l[j])
def KnR:Nat → World → Option Addr → Nat → Option Addr → Nat → KT → Prop
 | 0,_,_,_,_,_,_ => False
 | n + 1,w,ia,ic,ka,kc,t => ItQ w ia ic t.its ∧ t.its.length ≤ ic ∧ ic ≤ 9223372036854775807 ∧ t.kids.length ≤ kc ∧ kc ≤ 9223372036854775807 ∧ ((ka = none ∧ t.kids = [] ∧ kc = 0) ∨ ∃ b off,ka = some ⟨b,off,none⟩ ∧ b < w.heap.size ∧
   ∀ j (h:j < t.kids.length),∃ ia' ic' ka' kc',Cs w b (off + j * 7) (ck t.kids[j] ia' ic' ka' kc') ∧ KnR n w ia' ic' ka' kc' t.kids[j])
theorem ItQ.below {w w':World} {a:Option Addr} {c:Nat} {l:List It} (h:ItQ w a c l) (H:Below w.heap.size w w'):ItQ w' a c l:=by
 rcases h with h | ⟨b,off,h1,h2,h3⟩
 ·exact .inl h
 ·exact .inr ⟨b,off,h1,Nat.lt_of_lt_of_le h2 H.size,fun j hj => (h3 j hj).below h2 H⟩
theorem KnR.below:∀ {n:Nat} {w w':World} {ia ka:Option Addr} {ic kc:Nat} {t:KT},KnR n w ia ic ka kc t → Below w.heap.size w w' → KnR n w' ia ic ka kc t
 | 0,_,_,_,_,_,_,_,h,_ => h.elim
 | n + 1,w,w',ia,ka,ic,kc,t,⟨h1,h2,h3,h4,h5,h6⟩,H => by
  refine ⟨h1.below H,h2,h3,h4,h5,?_⟩
  rcases h6 with h6 | ⟨b,off,e,hb,h6⟩
  ·exact .inl h6
  ·refine .inr ⟨b,off,e,Nat.lt_of_lt_of_le hb H.size,fun j hj => ?_⟩
   obtain ⟨ia',ic',ka',kc',k1,k2⟩:=h6 j hj
   exact ⟨ia',ic',ka',kc',k1.below hb H,k2.below H⟩
theorem row_none {w:World} {B sz n k c:Nat} {e:TypeId} {a:Option Addr} {xs:List Value} (h:w.ownsRow B e sz (.slice a k c) n xs):(a = none ∧ n = 0 ∧ c = 0) ∨ ∃ g,a = some ⟨g,0,none⟩ ∧ g < w.heap.size ∧ Cs w g 0 xs:=by
 rcases h.2 with ⟨q,q'⟩ | ⟨g,c',cur,q0,q1,q2,q3⟩
 ·cases q;exact .inl ⟨rfl,q',rfl⟩
 ·cases q0
  refine .inr ⟨g,rfl,lt_of_heap q2,fun i v e => ?_⟩
  have:=World.ownsRow.cells h (g:=g) rfl i v e
  have ha:(⟨g,0,none⟩:Addr).add i = ⟨g,0 + i,none⟩:=Addr.add_mid g 0 i
  rwa [ha] at this
theorem KO.knr {lo:Nat}:∀ {n:Nat} {w:World} {h:Hd} {S:List Nat} {t:KT},KO lo n w h S t → KnR n w h.1 h.2.1 h.2.2.1 h.2.2.2 t
 | 0,_,_,_,_,h => h.elim
 | n + 1,w,h,S,t,⟨ps,l1,r1,r2,hS,hN,hk⟩ => by
  have hl:t.kids.length = ps.length:=by rw [l1,List.length_map]
  refine ⟨?_,(row_caps r1).1,(row_caps r1).2,by rw [hl];exact (row_caps r2).1,(row_caps r2).2,?_⟩
  ·rcases row_none r1 with ⟨e,h0,hc⟩ | ⟨g,e,hg,hc⟩
   ·exact .inl ⟨e,List.length_eq_zero_iff.1 h0,hc⟩
   ·exact .inr ⟨g,0,e,hg,cell_flI t.its 0 hc⟩
  ·rcases row_none r2 with ⟨e,h0,hc⟩ | ⟨g,e,hg,hc⟩
   ·exact .inl ⟨e,List.length_eq_zero_iff.1 (by omega),hc⟩
   ·refine .inr ⟨g,0,e,hg,fun j hj => ?_⟩
    have hj':j < ps.length:=by omega
    have ek:t.kids[j] = ps[j].1:=by simp [l1]
    rw [ek]
    exact ⟨_,_,_,_,flK_cell ps 0 hc j hj',(hk ps[j] (List.getElem_mem hj')).knr⟩
theorem Kn.knr {lo:Nat}:∀ {n:Nat} {w:World} {ia ka:Option Addr} {t:KT},Kn lo n w ia ka t → ksz n t ≤ 1048576 → KnR n w ia t.its.length ka t.kids.length t
 | 0,_,_,_,_,h,_ => h.elim
 | n + 1,w,ia,ka,t,⟨bi,bk,h1,h2,h3,h4,h5,h6,h7,h8⟩,hz => by
  have hz':t.its.length + t.kids.length + (t.kids.map (ksz n)).sum ≤ 1048576:=hz
  refine ⟨.inr ⟨bi,0,h1,h5.1,fun j hj => by rw [Nat.zero_add];exact h5.2.1 j hj⟩,Nat.le_refl _,by omega,Nat.le_refl _,by omega,.inr ⟨bk,0,h2,h6,fun j hj => ?_⟩⟩
  obtain ⟨ia',ka',k1,k2⟩:=h8 j hj
  refine ⟨ia',_,ka',_,by rw [Nat.zero_add];exact k1,k2.knr ?_⟩
  exact Nat.le_trans (ksz_kid (n:=n) (List.getElem_mem hj)) hz
theorem kv_of' {s:KT} {b0 b1 b2 b3:Int} {b4:Bool} {ni nk:Nat} (h:KF s b0 b1 b2 b3 b4 ni nk) (ia:Option Addr) (ic:Nat) (ka:Option Addr) (kc:Nat):kv s ia ic ka kc = .agg #[.int .i64 b0,.int .i64 b1,.int .i64 b2,.int .i64 b3,.bool b4,.slice ia ni ic,.slice ka nk kc]:=by
 obtain ⟨rfl,rfl,rfl,rfl,rfl,rfl,rfl⟩:=h
 rfl
theorem Cs.kfL {w:World} {b o:Nat} {s:KT} {b0 b1 b2 b3:Int} {b4:Bool} {ni nk ic kc:Nat} {ia ka:Option Addr} (hf:KF s b0 b1 b2 b3 b4 ni nk) (h:Cs w b o (ck s ia ic ka kc)):w.cell? ⟨b,o,none⟩ = some (.int .i64 b0) ∧ w.cell? ⟨b,o + 1,none⟩ = some (.int .i64 b1) ∧ w.cell? ⟨b,o + 2,none⟩ = some (.int .i64 b2) ∧ w.cell? ⟨b,o + 3,none⟩ = some (.int .i64 b3) ∧ w.cell? ⟨b,o + 4,none⟩ = some (.bool b4) ∧ w.cell? ⟨b,o + 5,none⟩ = some (.slice ia ni ic) ∧ w.cell? ⟨b,o + 6,none⟩ = some (.slice ka nk kc):=by
 obtain ⟨rfl,rfl,rfl,rfl,rfl,rfl,rfl⟩:=hf
 exact h.knot
def KER (m:Nat) (w0:World) (t:KT) (k:Nat) (v:Value) (_:World):Prop:=∃ (hk:k < t.kids.length) (ia:Option Addr) (ic:Nat) (ka:Option Addr) (kc:Nat),v = kv t.kids[k] ia ic ka kc ∧ KnR m w0 ia ic ka kc t.kids[k]
theorem eachKid_seqR (F:Fence) (n:Nat) (hf:F.fn 79) (hro:F.round = none) (hn:1 ≤ n) (M:Obj → Bool) (m:Nat) (t:KT) (ia ka:Option Addr) (ic kc:Nat) (w0:World) (hK:(ka = none ∧ t.kids = [] ∧ kc = 0) ∨ ∃ b off,ka = some ⟨b,off,none⟩ ∧ b < w0.heap.size ∧ ∀ j (h:j < t.kids.length),∃ ia' ic' ka' kc',Cs w0 b (off + j * 7) (ck t.kids[j] ia' ic' ka' kc') ∧ KnR m w0 ia' ic' ka' kc' t.kids[j]) (hkl:t.kids.length ≤ 1099511627776):SeqN F n Tryz.prog M 79 #[kv t ia ic ka kc] #[] w0.heap.size t.kids.length (KER m w0 t) (fun _ => True) w0:=by
 intro l J Jx W _ hW hJ hJx hY h0
 show CallsIn F n Tryz.prog 79 #[kv t ia ic ka kc,.func (.yield l) #[] #[]] W _
 obtain ⟨b0,b1,b2,b3,b4,ni,nk,hkf⟩:=kf t
 rw [kv_of' hkf]
 have HL:=hid hkf.kids
 rw [hkf.kids] at hkl
 have HKL:=hid hkl
 clear hkf
 have HK:=hid hK
 have HW:=hid hW
 clear hK hW hkl
 have B0:=hid (balloc (Below.refl W.heap.size W) (.cells #[.int .i64 b0,.int .i64 b1,.int .i64 b2,.int .i64 b3,.bool b4,.slice ia ni ic,.slice ka nk kc] 35))
 have gT:=hid (new_alloc W W.heap.size (.cells #[.int .i64 b0,.int .i64 b1,.int .i64 b2,.int .i64 b3,.bool b4,.slice ia ni ic,.slice ka nk kc] 35) rfl)
 have h1:=hid (hJ _ _ _ h0 (Tn.of_below B0.out))
 clear h0
 refine callsIn_of_wp Tryz.func79 rfl hf ?_ hro
 simp only [Tryz.ntmps79,List.size_toArray,List.length_cons,List.length_nil,Nat.reduceAdd,Nat.reduceSub,Array.replicate_succ,Array.replicate_zero,List.push_toArray,List.append_toArray,List.nil_append,List.cons_append]
 gi_wp2
 gi_loopw [9] (fun i wr => ∃ k:Nat,k ≤ nk ∧ i = .int .i64 k ∧ Hid (J k wr) ∧ Hid (Below w0.heap.size W wr)) (fun i _ => nk - (intOf i).toNat)
 case atStart => exact ⟨0,Nat.zero_le _,rfl,h1,hid (B0.out.mono HW.out.size)⟩
 case round =>
  clear gT B0 h1
  obtain ⟨k,hk,rfl,HJ,HB⟩:=hrel
  have hnk:nk ≤ 1099511627776:=HKL.out
  by_cases hlt:k < nk
  ·have hkl:k < t.kids.length:=by rw [HL.out];exact hlt
   have c1:(k:Int) < (nk:Int):=by omega
   obtain ⟨bk,ok,rfl,hbk,hkk⟩:∃ b off,ka = some ⟨b,off,none⟩ ∧ b < w0.heap.size ∧ ∀ j (h:j < t.kids.length),∃ ia' ic' ka' kc',Cs w0 b (off + j * 7) (ck t.kids[j] ia' ic' ka' kc') ∧ KnR m w0 ia' ic' ka' kc' t.kids[j]:=by
    rcases HK.out with h | h
    ·rw [h.2.1] at hkl;exact absurd hkl (by simp)
    ·exact h
   obtain ⟨ia',ic',ka',kc',q1,q2⟩:=hkk k hkl
   obtain ⟨c0,c1',c2,c3,c4,mi,mk,hkf⟩:=kf t.kids[k]
   have hcs:=Cs.kfL hkf (q1.below hbk (HW.out.trans HB.out))
   obtain ⟨z0,z1,z2,z3,z4,z5,z6⟩:=hcs
   have hBA:Below wr.heap.size wr (wr.alloc (.cells #[.int .i64 c0,.int .i64 c1',.int .i64 c2,.int .i64 c3,.bool c4,.slice ia' mi ic',.slice ka' mk kc'] 35)):=balloc (Below.refl wr.heap.size wr) _
   have hs0:w0.heap.size ≤ wr.heap.size:=Nat.le_trans HW.out.size HB.out.size
   have HB2:=hid (HB.out.trans (hBA.mono hs0))
   obtain ⟨fn,tmps,assign,body,hy,hR⟩:=hY k (kv t.kids[k] ia' ic' ka' kc') _ (by rw [HL.out];exact hlt) (hJ _ _ _ HJ.out (Tn.of_below hBA)) ⟨hkl,ia',ic',ka',kc',rfl,q2⟩ HB2.out
   rw [kv_of' hkf] at hy
   have HR:=hid hR
   clear hR q1 q2 hkf hBA hkk
   gi_wp2
   refine HR.out.mono ?_
   rintro e W3 ⟨(⟨rfl,hJ3⟩ | ⟨rfl,hJ3⟩),hk3⟩
   ·gi_wp2
    go_roundw
    case rel => exact ⟨k + 1,by omega,by go_num,hid hJ3,hid (HB2.out.trans hk3.below)⟩
    case measure => simp [intOf];omega
   ·gi_wp2
    refine bodyPost_ret (results_none rfl _ _ _) rfl ?_
    exact ⟨⟨_,rfl⟩,.inr ⟨k,hkl,hJ3⟩,HB2.out.trans hk3.below⟩
  ·have c1:(nk:Int) ≤ (k:Int):=by omega
   gi_wp2
   go_end0
   refine ⟨⟨_,rfl⟩,.inl ?_,HB.out⟩
   have:=HJ.out
   rwa [show k = t.kids.length by rw [HL.out];omega] at this
theorem clone_its {w:World} {a:Option Addr} {c:Nat} {l:List It} (h:ItQ w a c l) (hm:l.length ≤ 1048576) (hc:l.length ≤ c):Calls Tryz.prog 78 #[.slice a l.length c] w fun e w' => ∃ a' c',e = .returned (.slice a' l.length c') ∧ w'.ownsRow w.heap.size 40 5 (.slice a' l.length c') l.length (flI l) ∧ Below w.heap.size w w':=by
 rcases h with ⟨rfl,rfl,rfl⟩ | ⟨b,off,rfl,hb,h⟩
 ·refine (clone_nil_items w).mono ?_
  rintro e w' ⟨rfl,hB⟩
  exact ⟨none,0,rfl,row_nilI w' _ 0 rfl,hB⟩
 ·refine (clone_items b off c l w hm hb h).mono ?_
  rintro e w' ⟨g,c',rfl,hG,hB⟩
  exact ⟨_,c',rfl,hG,hB⟩
end Go.Proofs.YtjahlofahjgdbaaGreat
