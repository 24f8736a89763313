/- Texts of stores, joined: RwM, RwB, RwC. -/
import Derived.Test.YtenlhgnobfadgaaGreatDoorJ6
import Derived.Deep.RegionHeld3
import Derived.Sort.Grow
import Derived.WalkLawsBesides
set_option maxHeartbeats 2000000
set_option linter.unusedSimpArgs false
set_option linter.unusedVariables false
namespace Go.Proofs.YtenlhgnobfadgaaGreatDoor
abbrev Tr : Type := Int × Int × Int
def thr (r : Tr) (at_ : Int) : Bool := decide (r.2.1 ≤ at_) && (decide (r.2.2 = 0) || decide (at_ < r.2.2))
def clash (x y : Tr) : Bool := decide (y.1 = x.1) && (thr x y.2.1 || thr y x.2.1)
theorem clash_comm (x y : Tr) : clash x y = clash y x := by
 unfold clash
 rw [Bool.or_comm]
 congr 1
 exact decide_eq_decide.2 ⟨fun h => h.symm, fun h => h.symm⟩
def tmb (r : Tr) : Prop := 1 ≤ r.2.1 ∧ (r.2.2 = 0 ∨ r.2.1 < r.2.2)
def lex (x y : Tr) : Prop := x.1 < y.1 ∨ (x.1 = y.1 ∧ x.2.1 ≤ y.2.1)
def nbr (x y : Tr) : Bool := decide (x.1 = y.1) && thr x y.2.1
theorem nbr_clash {x y : Tr} (h : clash x y = false) : nbr x y = false := by
 unfold nbr
 unfold clash at h
 by_cases he : x.1 = y.1
 ·simp only [he, decide_true, Bool.true_and, Bool.or_eq_false_iff] at h ⊢
  exact h.1
 ·simp [he]
theorem far_clash {x y z : Tr} (hx : tmb x) (h1 : nbr x y = false) (l1 : lex x y) (l2 : lex y z) : clash x z = false := by
 unfold clash
 by_cases he : z.1 = x.1
 ·have hid : x.1 = y.1 := by unfold lex at l1 l2; omega
  have hfr : y.2.1 ≤ z.2.1 := by unfold lex at l1 l2; omega
  have hxy : x.2.1 ≤ y.2.1 := by unfold lex at l1 l2; omega
  unfold nbr at h1
  simp only [hid, decide_true, Bool.true_and] at h1
  unfold thr at h1 ⊢
  unfold tmb at hx
  simp only [Bool.and_eq_false_iff, Bool.or_eq_false_iff, decide_eq_false_iff_not] at h1 ⊢
  right
  constructor
  ·right
   omega
  ·left
   omega
 ·simp [he]
theorem near_clash {x y : Tr} (hx : tmb x) (h1 : nbr x y = false) (l1 : lex x y) : clash x y = false := far_clash hx h1 l1 (.inr ⟨rfl, Int.le_refl _⟩)
def nbrs : List Tr → Bool
 | [] => true
 | [_] => true
 | x :: y :: r => !nbr x y && nbrs (y :: r)
theorem nbrs_of : ∀ (l : List Tr), l.Pairwise (fun x y => clash x y = false) → nbrs l = true
 | [], _ => rfl
 | [_], _ => rfl
 | x :: y :: r, h => by
  have h' := List.pairwise_cons.1 h
  simp only [nbrs, Bool.and_eq_true, Bool.not_eq_true']
  exact ⟨nbr_clash (h'.1 y (List.mem_cons_self ..)), nbrs_of (y :: r) h'.2⟩
theorem of_nbrs : ∀ (l : List Tr), (∀ x ∈ l, tmb x) → l.Pairwise lex → nbrs l = true → l.Pairwise (fun x y => clash x y = false)
 | [], _, _, _ => List.Pairwise.nil
 | [_], _, _, _ => List.pairwise_singleton _ _
 | x :: y :: r, ht, hl, hn => by
  simp only [nbrs, Bool.and_eq_true, Bool.not_eq_true'] at hn
  have hl' := List.pairwise_cons.1 hl
  refine List.pairwise_cons.2 ⟨fun z hz => ?_, of_nbrs (y :: r) (fun x hx => ht x (List.mem_cons_of_mem _ hx)) hl'.2 hn.2⟩
  rcases List.mem_cons.1 hz with rfl | hz
  ·exact near_clash (ht x (List.mem_cons_self ..)) hn.1 (hl'.1 z (List.mem_cons_self ..))
  ·exact far_clash (ht x (List.mem_cons_self ..)) hn.1 (hl'.1 y (List.mem_cons_self ..)) ((List.pairwise_cons.1 hl'.2).1 z hz)
def apartR : List Tr → Bool
 | [] => true
 | x :: r => r.all (fun y => !clash x y) && apartR r
theorem apartR_iff : ∀ (l : List Tr), apartR l = true ↔ l.Pairwise (fun x y => clash x y = false)
 | [] => by simp [apartR]
 | x :: r => by
  rw [apartR, Bool.and_eq_true, List.pairwise_cons, apartR_iff r, List.all_eq_true]
  simp
theorem apartR_sorted {l s : List Tr} (hp : s.Perm l) (ht : ∀ x ∈ l, tmb x) (hs : s.Pairwise lex) : apartR l = nbrs s := by
 have hsym : ∀ {x y : Tr}, clash x y = false → clash y x = false := fun {x y} h => by rw [clash_comm]; exact h
 have e : l.Pairwise (fun x y => clash x y = false) ↔ s.Pairwise (fun x y => clash x y = false) := (hp.pairwise_iff (fun h => hsym h)).symm
 have hts : ∀ x ∈ s, tmb x := fun x hx => ht x (hp.mem_iff.1 hx)
 cases hn : nbrs s
 ·cases ha : apartR l
  ·rfl
  ·rw [nbrs_of s (e.1 ((apartR_iff l).1 ha))] at hn; cases hn
 ·exact (apartR_iff l).2 (e.2 (of_nbrs s hts hs hn))
theorem apartR_snoc : ∀ (l : List Tr) (x : Tr), apartR (l ++ [x]) = (apartR l && l.all (fun y => !clash y x))
 | [], x => by simp [apartR]
 | y :: r, x => by
  rw [List.cons_append, apartR, apartR_snoc r x, apartR, List.all_append, List.all_cons]
  simp only [List.all_cons, List.all_nil, Bool.and_true]
  cases r.all (fun z => !clash y z) <;> cases apartR r <;> cases r.all (fun z => !clash z x) <;> cases clash y x <;> rfl
end Go.Proofs.YtenlhgnobfadgaaGreatDoor
namespace Go.Proofs.YtenlhgnobfadgaaGreatDoor
open Go.RowKit
def tr (r : Rw) : Tr := (r.1, r.2.1, r.2.2.1)
theorem thr_def (r : Rw) (t : Int) : thr (tr r) t = (decide (r.2.1 ≤ t) && (decide (r.2.2.1 = 0) || decide (t < r.2.2.1))) := rfl
theorem spec_there (r : Rw) (a : Option Addr) (cap : Nat) (t : Int) (w : World) : Calls Tryz.prog 75 #[rwv r a cap, .int .i64 t] w fun e w' => e = .returned (.bool (thr (tr r) t)) ∧ Below w.heap.size w w' := by
 rw [thr_def]
 obtain ⟨id, fr, te, kd, ps⟩ := r
 unfold rwv
 simp only
 generalize ps.length = n
 by_cases h1 : fr ≤ t
 ·by_cases h2 : te = 0
  ·go_enter Tryz.func75, Tryz.ntmps75
   go_wp2
   go_ret
   exact ⟨by simp [h1, h2], balloc (Below.refl _ _) _⟩
  ·have h3 : (te == 0) = false := by simpa using h2
   go_enter Tryz.func75, Tryz.ntmps75
   go_wp2
   go_ret
   exact ⟨by simp [h1, h2], balloc (Below.refl _ _) _⟩
 ·have h3 : decide (fr ≤ t) = false := by simpa using h1
  go_enter Tryz.func75, Tryz.ntmps75
  go_wp2
  go_ret
  exact ⟨by simp [h1], balloc (Below.refl _ _) _⟩
theorem impl_ended (r : Rw) (a : Option Addr) (cap : Nat) (t : Int) (w : World) : Calls Tryz.prog 80 #[rwv r a cap, .int .i64 t] w fun e w' => e = .returned (.bool (decide (r.2.2.1 ≠ 0) && decide (r.2.2.1 ≤ t))) ∧ Below w.heap.size w w' := by
 obtain ⟨id, fr, te, kd, ps⟩ := r
 unfold rwv
 simp only
 generalize ps.length = n
 by_cases h2 : te = 0
 ·go_enter Tryz.func80, Tryz.ntmps80
  go_wp2
  go_ret
  exact ⟨by simp [h2], balloc (Below.refl _ _) _⟩
 ·have h3 : (te != 0) = true := by simpa using h2
  go_enter Tryz.func80, Tryz.ntmps80
  go_wp2
  go_ret
  exact ⟨by simp [h2], balloc (Below.refl _ _) _⟩
theorem impl_there (r : Rw) (a : Option Addr) (cap : Nat) (t : Int) (w : World) : Calls Tryz.prog 48 #[rwv r a cap, .int .i64 t] w fun e w' => e = .returned (.bool (thr (tr r) t)) ∧ Below w.heap.size w w' := by
 have HE := hid (fun w => impl_ended r a cap t w)
 rw [thr_def]
 obtain ⟨id, fr, te, kd, ps⟩ := r
 unfold rwv at *
 simp only at *
 generalize ps.length = n at *
 by_cases h1 : fr ≤ t
 ·have e : (decide (fr ≤ t) && (decide (te = 0) || decide (t < te))) = !(decide (te ≠ 0) && decide (te ≤ t)) := by
   by_cases h2 : te = 0
   ·simp [h1, h2]
   ·by_cases h3 : te ≤ t
    ·have : ¬ t < te := by omega
     simp [h1, h2, h3, this]
    ·have : t < te := by omega
     simp [h1, h2, h3, this]
  rw [e]
  generalize (decide (te ≠ 0) && decide (te ≤ t)) = q at *
  clear e
  go_enter Tryz.func48, Tryz.ntmps48
  go_wp2_with fail
  refine (HE.out _).mono ?_
  rintro e w1 ⟨rfl, hb⟩
  go_wp2_with fail
  go_ret
  exact ⟨rfl, btrans (balloc (Below.refl _ _) _) hb⟩
 ·have h3 : decide (fr ≤ t) = false := by simpa using h1
  clear HE
  go_enter Tryz.func48, Tryz.ntmps48
  go_wp2_with fail
  go_ret
  exact ⟨by simp [h1], balloc (Below.refl _ _) _⟩
def idb (x : Int) : Bool := decide (1 ≤ x) && decide (x ≤ 999999999)
def rwb (now : Int) (r : Rw) : Bool := idb r.1 && (decide (1 ≤ r.2.1) && decide (r.2.1 ≤ now)) && (decide (r.2.2.1 = 0) || (decide (r.2.1 < r.2.2.1) && decide (r.2.2.1 ≤ now)))
theorem rwb_tmb {now : Int} {r : Rw} (h : rwb now r = true) : tmb (tr r) := by
 unfold rwb at h
 simp only [Bool.and_eq_true, Bool.or_eq_true, decide_eq_true_eq] at h
 refine ⟨h.1.2.1, ?_⟩
 rcases h.2 with h | h
 ·exact .inl h
 ·exact .inr h.1
theorem in_r (x a b : Int) (w : World) : Calls Tryz.prog 54 #[.int .i64 x, .int .i64 a, .int .i64 b] w fun e w' => e = .returned (.bool (decide (a ≤ x) && decide (x ≤ b))) ∧ w' = w := by
 by_cases h : a ≤ x
 ·go_enter Tryz.func54, Tryz.ntmps54
  go_wp2
  go_ret
  exact ⟨by simp [h], rfl⟩
 ·have hd : decide (a ≤ x) = false := by simpa using h
  go_enter Tryz.func54, Tryz.ntmps54
  go_wp2
  go_ret
  exact ⟨by simp [hd], rfl⟩
theorem spec_id (x : Int) (w : World) : Calls Tryz.prog 20 #[.int .i64 x] w fun e w' => e = .returned (.bool (idb x)) ∧ w' = w := by
 go_enter Tryz.func20, Tryz.ntmps20
 go_wp2_with fail
 refine (in_r x 1 999999999 _).mono ?_
 rintro e w1 ⟨rfl, rfl⟩
 go_wp2_with fail
 go_ret
 exact ⟨rfl, rfl⟩
theorem impl_id (x : Int) (w : World) : Calls Tryz.prog 60 #[.int .i64 x] w fun e w' => e = .returned (.bool (idb x)) ∧ w' = w := by
 by_cases h : 1 ≤ x
 ·go_enter Tryz.func60, Tryz.ntmps60
  go_wp2
  go_ret
  exact ⟨by simp [idb, h], rfl⟩
 ·have hd : decide (1 ≤ x) = false := by simpa using h
  go_enter Tryz.func60, Tryz.ntmps60
  go_wp2
  go_ret
  exact ⟨by unfold idb; rw [hd]; rfl, rfl⟩
def cmi (a b : Int) : Int := if a < b then -1 else if b < a then 1 else 0
def cmr (x y : Tr) : Int := if cmi x.1 y.1 ≠ 0 then cmi x.1 y.1 else cmi x.2.1 y.2.1
theorem compare_c (a b : Int) (w : World) : Calls Tryz.prog 103 #[.int .i64 a, .int .i64 b] w fun e w' => e = .returned (.int .i64 (cmi a b)) ∧ w' = w := by
 by_cases h1 : a < b
 ·go_enter Tryz.func103, Tryz.ntmps103
  go_wp2
  go_ret
  exact ⟨by simp [cmi, h1], rfl⟩
 ·by_cases h2 : b < a
  ·go_enter Tryz.func103, Tryz.ntmps103
   go_wp2
   go_ret
   exact ⟨by simp [cmi, h1, h2], rfl⟩
  ·have e0 : cmi a b = 0 := by unfold cmi; rw [if_neg h1, if_neg h2]
   rw [e0]
   go_enter Tryz.func103, Tryz.ntmps103
   go_wp2
   go_ret
   exact ⟨rfl, rfl⟩
theorem or_c (g : Nat) (p q : Int) (w : World) (c0 : w.cell? ⟨g, 0, none⟩ = some (.int .i64 p)) (c1 : w.cell? ⟨g, 1, none⟩ = some (.int .i64 q)) : Calls Tryz.prog 102 #[.slice (some ⟨g, 0, none⟩) 2 2] w fun e w' => e = .returned (.int .i64 (if p ≠ 0 then p else q)) ∧ w' = w := by
 by_cases hp : p = 0
 ·by_cases hq : q = 0
  ·subst hp hq
   go_enter Tryz.func102, Tryz.ntmps102
   go_wp2_with fail
   refine wp_loop_rounds 3 ?_
   rw [rounds_succ]
   go_wp2_with fail
   rw [rounds_succ]
   go_wp2_with fail
   rw [rounds_succ]
   go_wp2_with fail
   go_ret
   exact ⟨rfl, rfl⟩
  ·have hq' : (q != 0) = true := by simpa using hq
   subst hp
   go_enter Tryz.func102, Tryz.ntmps102
   go_wp2_with fail
   refine wp_loop_rounds 2 ?_
   rw [rounds_succ]
   go_wp2_with fail
   rw [rounds_succ]
   go_wp2_with fail
   go_ret
   exact ⟨by simp, rfl⟩
 ·have hp' : (p != 0) = true := by simpa using hp
  go_enter Tryz.func102, Tryz.ntmps102
  go_wp2_with fail
  refine wp_loop_rounds 1 ?_
  rw [rounds_succ]
  go_wp2_with fail
  go_ret
  exact ⟨by simp [hp], rfl⟩
theorem grown3 (w : World) (A B C : Obj) : (((w.alloc A).alloc B).alloc C).drew = Sort.grow (w.drewN 1) #[A, B, C] := by
 rw [Sort.alloc_eq_grow, Sort.alloc_eq_grow, Sort.alloc_eq_grow, Sort.grow_grow, Sort.grow_grow]
 rfl
theorem compare_rows (i1 f1 t1 k1 i2 f2 t2 k2 : Int) (v1 v2 : Value) (w : World) : Calls Tryz.prog 65 #[.agg #[.int .i64 i1, .int .i64 f1, .int .i64 t1, .int .i64 k1, v1], .agg #[.int .i64 i2, .int .i64 f2, .int .i64 t2, .int .i64 k2, v2]] w fun e w' => e = .returned (.int .i64 (cmr (i1, f1, t1) (i2, f2, t2))) ∧ ∃ q os, w' = Sort.grow (w.drewN q) os := by
 have C1 := hid (fun w => compare_c i1 i2 w)
 have C2 := hid (fun w => compare_c f1 f2 w)
 have hcm : cmr (i1, f1, t1) (i2, f2, t2) = if cmi i1 i2 ≠ 0 then cmi i1 i2 else cmi f1 f2 := rfl
 rw [hcm]
 clear hcm
 generalize cmi i1 i2 = p at *
 generalize cmi f1 f2 = q at *
 have OR := hid (fun (W : World) (g : Nat) (c0 : W.cell? ⟨g, 0, none⟩ = some (.int .i64 p)) (c1 : W.cell? ⟨g, 1, none⟩ = some (.int .i64 q)) => or_c g p q W c0 c1)
 generalize (if p ≠ 0 then p else q) = r at *
 go_enter Tryz.func65, Tryz.ntmps65
 go_wp2_with fail
 refine wp_region_held_drew (S := (fun w' => w'.cell? ⟨w.heap.size, 0, none⟩ = some (.int .i64 i1) ∧ w'.cell? ⟨w.heap.size, 1, none⟩ = some (.int .i64 f1) ∧ w'.cell? ⟨w.heap.size + 1, 0, none⟩ = some (.int .i64 i2) ∧ w'.cell? ⟨w.heap.size + 1, 1, none⟩ = some (.int .i64 f2))) (by kernel_rfl) ?_ (fun hHeld => ?_)
 ·(repeat' apply And.intro) <;> (repeat (first | with_reducible assumption | (refine newcell _ _ _ _ _ _ ?_ rfl; simp; done) | refine keepcell (by with_reducible assumption) ?_ | refine keepdrew ?_ | refine keepalloc ?_ _))
 refine tkR ?_ 0 rfl (fun _ _ _ h => h) hHeld ?_ ?_
 rotate_left
 ·intro w hSw; (try dsimp only at hSw); go_simp; try (with_reducible rfl)
 try simp only [sq]
 refine tkR ?_ 1 rfl (fun _ _ _ h => h) hHeld ?_ ?_
 rotate_left
 ·intro w hSw; (try dsimp only at hSw); go_simp; try (with_reducible rfl)
 try simp only [sq]
 refine tkR ?_ 2 rfl (fun _ _ _ h => h) hHeld ?_ ?_
 rotate_left
 ·intro w hSw; (try dsimp only at hSw); go_simp; try (with_reducible rfl)
 try simp only [sq]
 refine tkR ?_ 3 rfl (fun _ _ _ h => h) hHeld ?_ ?_
 rotate_left
 ·intro w hSw; (try dsimp only at hSw); go_simp; try (with_reducible rfl)
 try simp only [sq]
 refine tkR ?_ 5 rfl (fun _ _ _ h => h) hHeld ?_ ?_
 rotate_left
 ·intro w hSw; (try dsimp only at hSw); go_simp; try (with_reducible rfl)
 try simp only [sq]
 refine tkR ?_ 6 rfl (fun _ _ _ h => h) hHeld ?_ ?_
 rotate_left
 ·intro w hSw; (try dsimp only at hSw); go_simp; try (with_reducible rfl)
 try simp only [sq]
 refine tkR ?_ 7 rfl (fun _ _ _ h => h) hHeld ?_ ?_
 rotate_left
 ·intro w hSw; (try dsimp only at hSw); go_simp; try (with_reducible rfl)
 try simp only [sq]
 refine tkR ?_ 8 rfl (fun _ _ _ h => h) hHeld ?_ ?_
 rotate_left
 ·intro w hSw; (try dsimp only at hSw); go_simp; try (with_reducible rfl)
 try simp only [sq]
 refine rd1 4 rfl (fun K hK => ?_)
 try simp only [sq]
 go_simp
 (first
   | (go_at_call 103; refine (C1.out _).mono ?_; rintro e z ⟨rfl, rfl⟩))
 go_wp2_with fail
 refine hK.out _ _ ?_ (fun hHeld => ?_)
 ·(repeat' apply And.intro) <;> (repeat (first | with_reducible assumption | (refine newcell _ _ _ _ _ _ ?_ rfl; simp; done) | refine keepcell (by with_reducible assumption) ?_ | refine keepdrew ?_ | refine keepalloc ?_ _))
 clear hK K
 try simp only [sq]
 refine rd1 9 rfl (fun K hK => ?_)
 try simp only [sq]
 go_simp
 (first
   | (go_at_call 103; refine (C2.out _).mono ?_; rintro e z ⟨rfl, rfl⟩))
 go_wp2_with fail
 refine hK.out _ _ ?_ (fun hHeld => ?_)
 ·(repeat' apply And.intro) <;> (repeat (first | with_reducible assumption | (refine newcell _ _ _ _ _ _ ?_ rfl; simp; done) | refine keepcell (by with_reducible assumption) ?_ | refine keepdrew ?_ | refine keepalloc ?_ _))
 clear hK K
 try simp only [sq]
 refine rd1 10 rfl (fun K hK => ?_)
 try simp only [sq]
 go_simp
 refine hK.out _ _ ?_ (fun hHeld => ?_)
 ·(repeat' apply And.intro) <;> (repeat (first | with_reducible assumption | (refine newcell _ _ _ _ _ _ ?_ rfl; simp; done) | refine keepcell (by with_reducible assumption) ?_ | refine keepdrew ?_ | refine keepalloc ?_ _))
 clear hK K
 try simp only [sq]
 refine rd1 11 rfl (fun K hK => ?_)
 try simp only [sq]
 go_simp
 (first
   | (go_at_call 102; refine (OR.out _ _ (keepdrew (newcell _ _ _ _ _ _ (by simp) rfl)) (keepdrew (newcell _ _ _ _ _ _ (by simp) rfl))).mono ?_; rintro e z ⟨rfl, rfl⟩))
 go_wp2_with fail
 refine hK.out _ _ ?_ (fun hHeld => ?_)
 ·(repeat' apply And.intro) <;> (repeat (first | with_reducible assumption | (refine newcell _ _ _ _ _ _ ?_ rfl; simp; done) | refine keepcell (by with_reducible assumption) ?_ | refine keepdrew ?_ | refine keepalloc ?_ _))
 clear hK K
 try simp only [sq]
 refine tkR ?_ 12 rfl (fun _ _ _ h => h) hHeld ?_ ?_
 rotate_left
 ·intro w hSw; (try dsimp only at hSw); go_simp; try (with_reducible rfl)
 try simp only [sq]
 refine wpAnyH_done (by kernel_rfl) ?_ _
 go_wp2_with fail
 go_ret
 exact ⟨rfl, 1, _, grown3 _ _ _ _⟩
end Go.Proofs.YtenlhgnobfadgaaGreatDoor
