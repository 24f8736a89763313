/- Texts of stores, joined: RwM, RwB, RwC, RwV, RwQ, RwP, RwA0, Vb, RwO. -/
import Derived.Test.YtigjdlpjibakjaaGreatRows
import Derived.Test.YtigjdlpjibakjaaGreatJ1
import Derived.Deep.RegionHeld3
import Derived.Sort.Grow
import Derived.WalkLawsBesides
import Derived.Test.YtigjdlpjibakjaaGreatShelfS
import Derived.RangeFuncNested
import Derived.RangeFuncBound
import Derived.RangeFuncCalls
import Derived.RangeFuncLeaves
import Derived.RangeFuncBox
import Derived.Shelf.Abstract
import Derived.Shelf.RegionOpen
import Derived.WalkKit
import Derived.OwnWalkIn
import Derived.TacticsInMore
import Derived.LoopNIn
import Derived.LoopIn
import Derived.Maps.AppendAt
import Derived.Deep.AppendLies
import Derived.Shelf.SlSortCmp.NoneTotal
import Derived.OwnWalk
import Derived.Deep.SlicePairs
namespace Go.Proofs.YtigjdlpjibakjaaGreat
/-- A row's Id, From and To. -/
abbrev Tr : Type := Int × Int × Int
def thr (r : Tr) (at_ : Int) : Bool := decide (r.2.1 ≤ at_) && (decide (r.2.2 = 0) || decide (at_ < r.2.2))
def clash (x y : Tr) : Bool := decide (y.1 = x.1) && (thr x y.2.1 || thr y x.2.1)
theorem clash_comm (x y : Tr) : clash x y = clash y x := by
  unfold clash
  rw [Bool.or_comm]
  congr 1
  exact decide_eq_decide.2 ⟨fun h => h.symm, fun h => h.symm⟩
/-- A row's time is one: it begins at 1 or later, and ends, where it does, behind its beginning. -/
def tmb (r : Tr) : Prop := 1 ≤ r.2.1 ∧ (r.2.2 = 0 ∨ r.2.1 < r.2.2)
def lex (x y : Tr) : Prop := x.1 < y.1 ∨ (x.1 = y.1 ∧ x.2.1 ≤ y.2.1)
/-- What is asked of neighbours. -/
def nbr (x y : Tr) : Bool := decide (x.1 = y.1) && thr x y.2.1
theorem nbr_clash {x y : Tr} (h : clash x y = false) : nbr x y = false := by
  unfold nbr
  unfold clash at h
  by_cases he : x.1 = y.1
  · simp only [he, decide_true, Bool.true_and, Bool.or_eq_false_iff] at h ⊢
    exact h.1
  · simp [he]
theorem far_clash {x y z : Tr} (hx : tmb x) (h1 : nbr x y = false) (l1 : lex x y) (l2 : lex y z) : clash x z = false := by
  unfold clash
  by_cases he : z.1 = x.1
  · have hid : x.1 = y.1 := by unfold lex at l1 l2; omega
    have hfr : y.2.1 ≤ z.2.1 := by unfold lex at l1 l2; omega
    have hxy : x.2.1 ≤ y.2.1 := by unfold lex at l1 l2; omega
    unfold nbr at h1
    simp only [hid, decide_true, Bool.true_and] at h1
    unfold thr at h1 ⊢
    unfold tmb at hx
    simp only [Bool.and_eq_false_iff, Bool.or_eq_false_iff, decide_eq_false_iff_not] at h1 ⊢
    right
    constructor
    · right
      omega
    · left
      omega
  · simp [he]
theorem near_clash {x y : Tr} (hx : tmb x) (h1 : nbr x y = false) (l1 : lex x y) : clash x y = false := far_clash hx h1 l1 (.inr ⟨rfl, Int.le_refl _⟩)
/-- Neighbours told one by one. -/
def nbrs : List Tr → Bool
  | [] => true
  | [_] => true
  | x :: y :: r => !nbr x y && nbrs (y :: r)
theorem nbrs_of : ∀ (l : List Tr), l.Pairwise (fun x y => clash x y = false) → nbrs l = true
  | [], _ => rfl
  | [_], _ => rfl
  | x :: y :: r, h => by
    have h' := List.pairwise_cons.1 h
    simp only [nbrs, Bool.and_eq_true, Bool.not_eq_true']
    exact ⟨nbr_clash (h'.1 y (List.mem_cons_self ..)), nbrs_of (y :: r) h'.2⟩
theorem of_nbrs : ∀ (l : List Tr), (∀ x ∈ l, tmb x) → l.Pairwise lex → nbrs l = true → l.Pairwise (fun x y => clash x y = false)
  | [], _, _, _ => List.Pairwise.nil
  | [_], _, _, _ => List.pairwise_singleton _ _
  | x :: y :: r, ht, hl, hn => by
    simp only [nbrs, Bool.and_eq_true, Bool.not_eq_true'] at hn
    have hl' := List.pairwise_cons.1 hl
    refine List.pairwise_cons.2 ⟨fun z hz => ?_, of_nbrs (y :: r) (fun x hx => ht x (List.mem_cons_of_mem _ hx)) hl'.2 hn.2⟩
    rcases List.mem_cons.1 hz with rfl | hz
    · exact near_clash (ht x (List.mem_cons_self ..)) hn.1 (hl'.1 z (List.mem_cons_self ..))
    · exact far_clash (ht x (List.mem_cons_self ..)) hn.1 (hl'.1 y (List.mem_cons_self ..)) ((List.pairwise_cons.1 hl'.2).1 z hz)
/-- No two of a list clash. -/
def apartR : List Tr → Bool
  | [] => true
  | x :: r => r.all (fun y => !clash x y) && apartR r
theorem apartR_iff : ∀ (l : List Tr), apartR l = true ↔ l.Pairwise (fun x y => clash x y = false)
  | [] => by simp [apartR]
  | x :: r => by
    rw [apartR, Bool.and_eq_true, List.pairwise_cons, apartR_iff r, List.all_eq_true]
    simp
theorem apartR_sorted {l s : List Tr} (hp : s.Perm l) (ht : ∀ x ∈ l, tmb x) (hs : s.Pairwise lex) : apartR l = nbrs s := by
  have hsym : ∀ {x y : Tr}, clash x y = false → clash y x = false := fun {x y} h => by rw [clash_comm]; exact h
  have e : l.Pairwise (fun x y => clash x y = false) ↔ s.Pairwise (fun x y => clash x y = false) := (hp.pairwise_iff (fun h => hsym h)).symm
  have hts : ∀ x ∈ s, tmb x := fun x hx => ht x (hp.mem_iff.1 hx)
  cases hn : nbrs s
  · cases ha : apartR l
    · rfl
    · rw [nbrs_of s (e.1 ((apartR_iff l).1 ha))] at hn; cases hn
  · exact (apartR_iff l).2 (e.2 (of_nbrs s hts hs hn))
/-- What the specification's two loops tell: row i against the rows ahead of it. -/
def upTo (l : List Tr) (i : Nat) : Bool := apartR (l.take i)
theorem apartR_snoc : ∀ (l : List Tr) (x : Tr), apartR (l ++ [x]) = (apartR l && l.all (fun y => !clash y x))
  | [], x => by simp [apartR]
  | y :: r, x => by
    rw [List.cons_append, apartR, apartR_snoc r x, apartR, List.all_append, List.all_cons]
    simp only [List.all_cons, List.all_nil, Bool.and_true]
    cases r.all (fun z => !clash y z) <;> cases apartR r <;> cases r.all (fun z => !clash z x) <;> cases clash y x <;> rfl
end Go.Proofs.YtigjdlpjibakjaaGreat
namespace Go.Proofs.YtigjdlpjibakjaaGreat
open Go.RowKit
set_option linter.unusedSimpArgs false
set_option linter.unusedVariables false
def tr (r : Rw) : Tr := (r.1, r.2.1, r.2.2.1)
theorem thr_def (r : Rw) (t : Int) : thr (tr r) t = (decide (r.2.1 ≤ t) && (decide (r.2.2.1 = 0) || decide (t < r.2.2.1))) := rfl
set_option maxHeartbeats 1000000 in
theorem spec_there (r : Rw) (a : Option Addr) (cap : Nat) (t : Int) (w : World) : Calls Tryz.prog 73 #[rwv r a cap, .int .i64 t] w fun e w' => e = .returned (.bool (thr (tr r) t)) ∧ Below w.heap.size w w' := by
  rw [thr_def]
  obtain ⟨id, fr, te, kd, ps⟩ := r
  unfold rwv
  simp only
  generalize ps.length = n
  by_cases h1 : fr ≤ t
  · by_cases h2 : te = 0
    · go_enter Tryz.func73, Tryz.ntmps73
      go_wp2
      go_ret
      exact ⟨by simp [h1, h2], balloc (Below.refl _ _) _⟩
    · have h3 : (te == 0) = false := by simpa using h2
      go_enter Tryz.func73, Tryz.ntmps73
      go_wp2
      go_ret
      exact ⟨by simp [h1, h2], balloc (Below.refl _ _) _⟩
  · have h3 : decide (fr ≤ t) = false := by simpa using h1
    go_enter Tryz.func73, Tryz.ntmps73
    go_wp2
    go_ret
    exact ⟨by simp [h1], balloc (Below.refl _ _) _⟩
set_option maxHeartbeats 1000000 in
theorem impl_ended (r : Rw) (a : Option Addr) (cap : Nat) (t : Int) (w : World) : Calls Tryz.prog 63 #[rwv r a cap, .int .i64 t] w fun e w' => e = .returned (.bool (decide (r.2.2.1 ≠ 0) && decide (r.2.2.1 ≤ t))) ∧ Below w.heap.size w w' := by
  obtain ⟨id, fr, te, kd, ps⟩ := r
  unfold rwv
  simp only
  generalize ps.length = n
  by_cases h2 : te = 0
  · go_enter Tryz.func63, Tryz.ntmps63
    go_wp2
    go_ret
    exact ⟨by simp [h2], balloc (Below.refl _ _) _⟩
  · have h3 : (te != 0) = true := by simpa using h2
    go_enter Tryz.func63, Tryz.ntmps63
    go_wp2
    go_ret
    exact ⟨by simp [h2], balloc (Below.refl _ _) _⟩
set_option maxHeartbeats 1000000 in
theorem impl_there (r : Rw) (a : Option Addr) (cap : Nat) (t : Int) (w : World) : Calls Tryz.prog 101 #[rwv r a cap, .int .i64 t] w fun e w' => e = .returned (.bool (thr (tr r) t)) ∧ Below w.heap.size w w' := by
  have HE := hid (fun w => impl_ended r a cap t w)
  rw [thr_def]
  obtain ⟨id, fr, te, kd, ps⟩ := r
  unfold rwv at *
  simp only at *
  generalize ps.length = n at *
  by_cases h1 : fr ≤ t
  · have e : (decide (fr ≤ t) && (decide (te = 0) || decide (t < te))) = !(decide (te ≠ 0) && decide (te ≤ t)) := by
      by_cases h2 : te = 0
      · simp [h1, h2]
      · by_cases h3 : te ≤ t
        · have : ¬ t < te := by omega
          simp [h1, h2, h3, this]
        · have : t < te := by omega
          simp [h1, h2, h3, this]
    rw [e]
    generalize (decide (te ≠ 0) && decide (te ≤ t)) = q at *
    clear e
    go_enter Tryz.func101, Tryz.ntmps101
    go_wp2_with fail
    refine (HE.out _).mono ?_
    rintro e w1 ⟨rfl, hb⟩
    go_wp2_with fail
    go_ret
    exact ⟨rfl, btrans (balloc (Below.refl _ _) _) hb⟩
  · have h3 : decide (fr ≤ t) = false := by simpa using h1
    clear HE
    go_enter Tryz.func101, Tryz.ntmps101
    go_wp2_with fail
    go_ret
    exact ⟨by simp [h1], balloc (Below.refl _ _) _⟩
def idb (x : Int) : Bool := decide (1 ≤ x) && decide (x ≤ 999999999)
/-- Whether a row is right in a list with that last moment, the shape told apart. -/
def rwb (now : Int) (r : Rw) : Bool := idb r.1 && (decide (1 ≤ r.2.1) && decide (r.2.1 ≤ now)) && (decide (r.2.2.1 = 0) || (decide (r.2.1 < r.2.2.1) && decide (r.2.2.1 ≤ now)))
theorem rwb_tmb {now : Int} {r : Rw} (h : rwb now r = true) : tmb (tr r) := by
  unfold rwb at h
  simp only [Bool.and_eq_true, Bool.or_eq_true, decide_eq_true_eq] at h
  refine ⟨h.1.2.1, ?_⟩
  rcases h.2 with h | h
  · exact .inl h
  · exact .inr h.1
theorem in_r (x a b : Int) (w : World) : Calls Tryz.prog 71 #[.int .i64 x, .int .i64 a, .int .i64 b] w fun e w' => e = .returned (.bool (decide (a ≤ x) && decide (x ≤ b))) ∧ w' = w := by
  by_cases h : a ≤ x
  · go_enter Tryz.func71, Tryz.ntmps71
    go_wp2
    go_ret
    exact ⟨by simp [h], rfl⟩
  · have hd : decide (a ≤ x) = false := by simpa using h
    go_enter Tryz.func71, Tryz.ntmps71
    go_wp2
    go_ret
    exact ⟨by simp [hd], rfl⟩
theorem spec_id (x : Int) (w : World) : Calls Tryz.prog 70 #[.int .i64 x] w fun e w' => e = .returned (.bool (idb x)) ∧ w' = w := by
  go_enter Tryz.func70, Tryz.ntmps70
  go_wp2_with fail
  refine (in_r x 1 999999999 _).mono ?_
  rintro e w1 ⟨rfl, rfl⟩
  go_wp2_with fail
  go_ret
  exact ⟨rfl, rfl⟩
theorem impl_id (x : Int) (w : World) : Calls Tryz.prog 96 #[.int .i64 x] w fun e w' => e = .returned (.bool (idb x)) ∧ w' = w := by
  by_cases h : 1 ≤ x
  · go_enter Tryz.func96, Tryz.ntmps96
    go_wp2
    go_ret
    exact ⟨by simp [idb, h], rfl⟩
  · have hd : decide (1 ≤ x) = false := by simpa using h
    go_enter Tryz.func96, Tryz.ntmps96
    go_wp2
    go_ret
    exact ⟨by unfold idb; rw [hd]; rfl, rfl⟩
end Go.Proofs.YtigjdlpjibakjaaGreat
namespace Go.Proofs.YtigjdlpjibakjaaGreat
open Go.RowKit
set_option linter.unusedSimpArgs false
set_option linter.unusedVariables false
def cmi (a b : Int) : Int := if a < b then -1 else if b < a then 1 else 0
def cmr (x y : Tr) : Int := if cmi x.1 y.1 ≠ 0 then cmi x.1 y.1 else cmi x.2.1 y.2.1
set_option maxHeartbeats 1000000 in
theorem compare_c (a b : Int) (w : World) : Calls Tryz.prog 116 #[.int .i64 a, .int .i64 b] w fun e w' => e = .returned (.int .i64 (cmi a b)) ∧ w' = w := by
  by_cases h1 : a < b
  · go_enter Tryz.func116, Tryz.ntmps116
    go_wp2
    go_ret
    exact ⟨by simp [cmi, h1], rfl⟩
  · by_cases h2 : b < a
    · go_enter Tryz.func116, Tryz.ntmps116
      go_wp2
      go_ret
      exact ⟨by simp [cmi, h1, h2], rfl⟩
    · have e0 : cmi a b = 0 := by unfold cmi; rw [if_neg h1, if_neg h2]
      rw [e0]
      go_enter Tryz.func116, Tryz.ntmps116
      go_wp2
      go_ret
      exact ⟨rfl, rfl⟩
set_option maxHeartbeats 1000000 in
theorem or_c (g : Nat) (p q : Int) (w : World) (c0 : w.cell? ⟨g, 0, none⟩ = some (.int .i64 p)) (c1 : w.cell? ⟨g, 1, none⟩ = some (.int .i64 q)) : Calls Tryz.prog 115 #[.slice (some ⟨g, 0, none⟩) 2 2] w fun e w' => e = .returned (.int .i64 (if p ≠ 0 then p else q)) ∧ w' = w := by
  by_cases hp : p = 0
  · by_cases hq : q = 0
    · subst hp hq
      go_enter Tryz.func115, Tryz.ntmps115
      go_wp2_with fail
      refine wp_loop_rounds 3 ?_
      rw [rounds_succ]
      go_wp2_with fail
      rw [rounds_succ]
      go_wp2_with fail
      rw [rounds_succ]
      go_wp2_with fail
      go_ret
      exact ⟨rfl, rfl⟩
    · have hq' : (q != 0) = true := by simpa using hq
      subst hp
      go_enter Tryz.func115, Tryz.ntmps115
      go_wp2_with fail
      refine wp_loop_rounds 2 ?_
      rw [rounds_succ]
      go_wp2_with fail
      rw [rounds_succ]
      go_wp2_with fail
      go_ret
      exact ⟨by simp, rfl⟩
  · have hp' : (p != 0) = true := by simpa using hp
    go_enter Tryz.func115, Tryz.ntmps115
    go_wp2_with fail
    refine wp_loop_rounds 1 ?_
    rw [rounds_succ]
    go_wp2_with fail
    go_ret
    exact ⟨by simp [hp], rfl⟩
theorem grown3 (w : World) (A B C : Obj) : (((w.alloc A).alloc B).alloc C).drew = Sort.grow (w.drewN 1) #[A, B, C] := by
  rw [Sort.alloc_eq_grow, Sort.alloc_eq_grow, Sort.alloc_eq_grow, Sort.grow_grow, Sort.grow_grow]
  rfl
set_option maxHeartbeats 2000000 in
theorem compare_rows (i1 f1 t1 k1 i2 f2 t2 k2 : Int) (v1 v2 : Value) (w : World) : Calls Tryz.prog 100 #[.agg #[.int .i64 i1, .int .i64 f1, .int .i64 t1, .int .i64 k1, v1], .agg #[.int .i64 i2, .int .i64 f2, .int .i64 t2, .int .i64 k2, v2]] w fun e w' => e = .returned (.int .i64 (cmr (i1, f1, t1) (i2, f2, t2))) ∧ ∃ q os, w' = Sort.grow (w.drewN q) os := by
  have C1 := hid (fun w => compare_c i1 i2 w)
  have C2 := hid (fun w => compare_c f1 f2 w)
  have hcm : cmr (i1, f1, t1) (i2, f2, t2) = if cmi i1 i2 ≠ 0 then cmi i1 i2 else cmi f1 f2 := rfl
  rw [hcm]
  clear hcm
  generalize cmi i1 i2 = p at *
  generalize cmi f1 f2 = q at *
  have OR := hid (fun (W : World) (g : Nat) (c0 : W.cell? ⟨g, 0, none⟩ = some (.int .i64 p)) (c1 : W.cell? ⟨g, 1, none⟩ = some (.int .i64 q)) => or_c g p q W c0 c1)
  generalize (if p ≠ 0 then p else q) = r at *
  go_enter Tryz.func100, Tryz.ntmps100
  go_wp2_with fail
  refine wp_region_held_drew (S := (fun w' => w'.cell? ⟨w.heap.size, 0, none⟩ = some (.int .i64 i1) ∧ w'.cell? ⟨w.heap.size, 1, none⟩ = some (.int .i64 f1) ∧ w'.cell? ⟨w.heap.size + 1, 0, none⟩ = some (.int .i64 i2) ∧ w'.cell? ⟨w.heap.size + 1, 1, none⟩ = some (.int .i64 f2))) (by kernel_rfl) ?_ (fun hHeld => ?_)
  · (repeat' apply And.intro) <;> (repeat (first | with_reducible assumption | (refine newcell _ _ _ _ _ _ ?_ rfl; simp; done) | refine keepcell (by with_reducible assumption) ?_ | refine keepdrew ?_ | refine keepalloc ?_ _))
  refine wpAnyH_take (i := 0) (v := ?_) rfl (by kernel_rfl) (by kernel_rfl) (by kernel_rfl) (fun _ _ _ h => h) (Or.inl ⟨by rfl, ?_⟩) hHeld ?_
  rotate_left
  · intro w hSw; (try dsimp only at hSw); go_simp; try (with_reducible rfl)
  try simp only [sq]
  refine wpAnyH_take (i := 1) (v := ?_) rfl (by kernel_rfl) (by kernel_rfl) (by kernel_rfl) (fun _ _ _ h => h) (Or.inl ⟨by rfl, ?_⟩) hHeld ?_
  rotate_left
  · intro w hSw; (try dsimp only at hSw); go_simp; try (with_reducible rfl)
  try simp only [sq]
  refine wpAnyH_take (i := 2) (v := ?_) rfl (by kernel_rfl) (by kernel_rfl) (by kernel_rfl) (fun _ _ _ h => h) (Or.inl ⟨by rfl, ?_⟩) hHeld ?_
  rotate_left
  · intro w hSw; (try dsimp only at hSw); go_simp; try (with_reducible rfl)
  try simp only [sq]
  refine wpAnyH_take (i := 3) (v := ?_) rfl (by kernel_rfl) (by kernel_rfl) (by kernel_rfl) (fun _ _ _ h => h) (Or.inl ⟨by rfl, ?_⟩) hHeld ?_
  rotate_left
  · intro w hSw; (try dsimp only at hSw); go_simp; try (with_reducible rfl)
  try simp only [sq]
  refine wpAnyH_take (i := 5) (v := ?_) rfl (by kernel_rfl) (by kernel_rfl) (by kernel_rfl) (fun _ _ _ h => h) (Or.inl ⟨by rfl, ?_⟩) hHeld ?_
  rotate_left
  · intro w hSw; (try dsimp only at hSw); go_simp; try (with_reducible rfl)
  try simp only [sq]
  refine wpAnyH_take (i := 6) (v := ?_) rfl (by kernel_rfl) (by kernel_rfl) (by kernel_rfl) (fun _ _ _ h => h) (Or.inl ⟨by rfl, ?_⟩) hHeld ?_
  rotate_left
  · intro w hSw; (try dsimp only at hSw); go_simp; try (with_reducible rfl)
  try simp only [sq]
  refine wpAnyH_take (i := 7) (v := ?_) rfl (by kernel_rfl) (by kernel_rfl) (by kernel_rfl) (fun _ _ _ h => h) (Or.inl ⟨by rfl, ?_⟩) hHeld ?_
  rotate_left
  · intro w hSw; (try dsimp only at hSw); go_simp; try (with_reducible rfl)
  try simp only [sq]
  refine wpAnyH_take (i := 8) (v := ?_) rfl (by kernel_rfl) (by kernel_rfl) (by kernel_rfl) (fun _ _ _ h => h) (Or.inl ⟨by rfl, ?_⟩) hHeld ?_
  rotate_left
  · intro w hSw; (try dsimp only at hSw); go_simp; try (with_reducible rfl)
  try simp only [sq]
  refine wpAnyH_ready (rs := [4]) (by kernel_rfl) (by simp) ?_
  refine AllReadyH.cons rfl (fun K hK => ?_) AllReadyH.nil
  try simp only [sq]
  go_simp
  (first
      | (go_at_call 116; refine (C1.out _).mono ?_; rintro e z ⟨rfl, rfl⟩))
  go_wp2_with fail
  refine hK.out _ _ ?_ (fun hHeld => ?_)
  · (repeat' apply And.intro) <;> (repeat (first | with_reducible assumption | (refine newcell _ _ _ _ _ _ ?_ rfl; simp; done) | refine keepcell (by with_reducible assumption) ?_ | refine keepdrew ?_ | refine keepalloc ?_ _))
  clear hK K
  try simp only [sq]
  refine wpAnyH_ready (rs := [9]) (by kernel_rfl) (by simp) ?_
  refine AllReadyH.cons rfl (fun K hK => ?_) AllReadyH.nil
  try simp only [sq]
  go_simp
  (first
      | (go_at_call 116; refine (C2.out _).mono ?_; rintro e z ⟨rfl, rfl⟩))
  go_wp2_with fail
  refine hK.out _ _ ?_ (fun hHeld => ?_)
  · (repeat' apply And.intro) <;> (repeat (first | with_reducible assumption | (refine newcell _ _ _ _ _ _ ?_ rfl; simp; done) | refine keepcell (by with_reducible assumption) ?_ | refine keepdrew ?_ | refine keepalloc ?_ _))
  clear hK K
  try simp only [sq]
  refine wpAnyH_ready (rs := [10]) (by kernel_rfl) (by simp) ?_
  refine AllReadyH.cons rfl (fun K hK => ?_) AllReadyH.nil
  try simp only [sq]
  go_simp
  refine hK.out _ _ ?_ (fun hHeld => ?_)
  · (repeat' apply And.intro) <;> (repeat (first | with_reducible assumption | (refine newcell _ _ _ _ _ _ ?_ rfl; simp; done) | refine keepcell (by with_reducible assumption) ?_ | refine keepdrew ?_ | refine keepalloc ?_ _))
  clear hK K
  try simp only [sq]
  refine wpAnyH_ready (rs := [11]) (by kernel_rfl) (by simp) ?_
  refine AllReadyH.cons rfl (fun K hK => ?_) AllReadyH.nil
  try simp only [sq]
  go_simp
  (first
      | (go_at_call 115; refine (OR.out _ _ (keepdrew (newcell _ _ _ _ _ _ (by simp) rfl)) (keepdrew (newcell _ _ _ _ _ _ (by simp) rfl))).mono ?_; rintro e z ⟨rfl, rfl⟩))
  go_wp2_with fail
  refine hK.out _ _ ?_ (fun hHeld => ?_)
  · (repeat' apply And.intro) <;> (repeat (first | with_reducible assumption | (refine newcell _ _ _ _ _ _ ?_ rfl; simp; done) | refine keepcell (by with_reducible assumption) ?_ | refine keepdrew ?_ | refine keepalloc ?_ _))
  clear hK K
  try simp only [sq]
  refine wpAnyH_take (i := 12) (v := ?_) rfl (by kernel_rfl) (by kernel_rfl) (by kernel_rfl) (fun _ _ _ h => h) (Or.inl ⟨by rfl, ?_⟩) hHeld ?_
  rotate_left
  · intro w hSw; (try dsimp only at hSw); go_simp; try (with_reducible rfl)
  try simp only [sq]
  refine wpAnyH_done (by kernel_rfl) ?_ _
  go_wp2_with fail
  go_ret
  exact ⟨rfl, 1, _, grown3 _ _ _ _⟩
end Go.Proofs.YtigjdlpjibakjaaGreat
namespace Go.Proofs.YtigjdlpjibakjaaGreat
open Go.RowKit Go.Shelf Go.Lib Go.Sort
set_option linter.unusedSimpArgs false
set_option linter.unusedVariables false
/-- A row's cells. -/
abbrev El : Type := Int × Int × Int × Int × Option Addr × Nat × Nat
def ev (x : El) : List Value := [.int .i64 x.1, .int .i64 x.2.1, .int .i64 x.2.2.1, .int .i64 x.2.2.2.1, .slice x.2.2.2.2.1 x.2.2.2.2.2.1 x.2.2.2.2.2.2]
def trE (x : El) : Tr := (x.1, x.2.1, x.2.2.1)
def cfE (x y : El) : Int := cmr (trE x) (trE y)
theorem ltE (x y : El) : ltOf cfE x y = decide (x.1 < y.1 ∨ (x.1 = y.1 ∧ x.2.1 < y.2.1)) := by
  unfold ltOf cfE cmr cmi trE
  by_cases h1 : x.1 < y.1
  · simp [h1]
  · by_cases h2 : y.1 < x.1
    · have : ¬ x.1 = y.1 := by omega
      simp [h1, h2, this]
    · have : x.1 = y.1 := by omega
      by_cases h3 : x.2.1 < y.2.1
      · simp [this, h3]
      · by_cases h4 : y.2.1 < x.2.1
        · simp [this, h3, h4]
        · simp [this, h3, h4]
theorem swoE : SWO (ltOf cfE) where
  irrefl x := by rw [ltE]; simp
  trans x y z h1 h2 := by rw [ltE] at *; simp only [decide_eq_true_eq] at *; omega
  ntrans x y z h1 h2 := by rw [ltE] at *; simp only [decide_eq_false_iff_not] at *; omega
theorem cmpE (blk off size : Nat) (w : World) : CmpLays Tryz.prog 100 #[] ev 5 cfE blk off size w :=
  fun _ _ _ _ x y => compare_rows x.1 x.2.1 x.2.2.1 x.2.2.2.1 y.1 y.2.1 y.2.2.1 y.2.2.2.1 _ _ _
theorem isAggRow (w : World) : (isAgg 88).run Tryz.prog w = .ok true w := by kernel_rfl
theorem sizeRow (w : World) : (Go.sizeOf 88).run Tryz.prog w = .ok 5 w := by kernel_rfl
theorem sort_rows (blk off cap : Nat) (d : Array El) (w : World) (hH : HoldsK ev 5 w blk off d) (hblk : blk < w.heap.size) (hsz : d.size < 4611686018427387904) :
    Calls Tryz.prog 113 #[.slice (some ⟨blk, off, none⟩) d.size cap, .func (.func 100) #[] #[]] w fun e w' => e = .returned (.tuple #[]) ∧ ∃ d' n os, PermIn 0 d.size d d' ∧ SortedIn (ltOf cfE) 0 d.size d' ∧ w' = sortWorldK ev 5 w blk off n d' os := by
  have eg : ∀ args w, (callFunc 100 args).run Tryz.prog w = .ok (.enter 100 args) w := enters_of Tryz.func100 (by kernel_rfl) rfl
  have hcon := AnyQ.slices_SortFunc Tryz.sortRow 5 isAggRow sizeRow ev (fun _ => rfl) (fun x v hv => by simp [ev] at hv; rcases hv with rfl | rfl | rfl | rfl | rfl <;> rfl) cfE swoE 100 #[] blk off cap d w eg (cmpE blk off d.size w) hH hblk hsz
  exact hcon
end Go.Proofs.YtigjdlpjibakjaaGreat
namespace Go.Proofs.YtigjdlpjibakjaaGreat
open Go.RowKit Go.Shelf
set_option linter.unusedSimpArgs false
set_option linter.unusedVariables false
attribute [local go_sem] Oper.semAt_some
/-- Rows' cells at a place. -/
def ElsAt (w : World) (b off : Nat) (xs : List El) : Prop := ∀ j (h : j < xs.length), w.cell? ⟨b, off + j * 5, none⟩ = some (.int .i64 xs[j].1) ∧ w.cell? ⟨b, off + j * 5 + 1, none⟩ = some (.int .i64 xs[j].2.1) ∧ w.cell? ⟨b, off + j * 5 + 2, none⟩ = some (.int .i64 xs[j].2.2.1) ∧ w.cell? ⟨b, off + j * 5 + 3, none⟩ = some (.int .i64 xs[j].2.2.2.1) ∧ w.cell? ⟨b, off + j * 5 + 4, none⟩ = some (.slice xs[j].2.2.2.2.1 xs[j].2.2.2.2.2.1 xs[j].2.2.2.2.2.2)
theorem ElsAt.below {w w' : World} {n b off : Nat} {xs : List El} (h : ElsAt w b off xs) (hb : b < n) (H : Below n w w') : ElsAt w' b off xs := fun j hj => by
  obtain ⟨h0, h1, h2, h3, h4⟩ := h j hj
  exact ⟨(H.cell (p := ⟨b, off + j * 5, none⟩) hb).trans h0, (H.cell (p := ⟨b, off + j * 5 + 1, none⟩) hb).trans h1, (H.cell (p := ⟨b, off + j * 5 + 2, none⟩) hb).trans h2, (H.cell (p := ⟨b, off + j * 5 + 3, none⟩) hb).trans h3, (H.cell (p := ⟨b, off + j * 5 + 4, none⟩) hb).trans h4⟩
theorem ElsAt.below0 {w w' : World} {n b off : Nat} {xs : List El} (h : ElsAt w b off xs) (hb : 0 < xs.length → b < n) (H : Below n w w') : ElsAt w' b off xs := fun j hj => h.below (hb (Nat.lt_of_le_of_lt (Nat.zero_le _) hj)) H j hj
def encE (x : El) : Array Value := #[.agg #[.int .i64 x.1, .int .i64 x.2.1, .int .i64 x.2.2.1, .int .i64 x.2.2.2.1, .slice x.2.2.2.2.1 x.2.2.2.2.2.1 x.2.2.2.2.2.2]]
set_option maxRecDepth 100000 in
set_option maxHeartbeats 2000000 in
theorem values1_r (F : Fence) (n : Nat) (hf : F.fn 114) (hro : F.round = none) (hn : 1 ≤ n) (l Bs n₀ b off cap : Nat) (xs : List El) (hlen : xs.length ≤ 1099511627776) (a : Option Addr) (ha : 0 < xs.length → a = some ⟨b, off, none⟩) (hb : 0 < xs.length → b < n₀) (J Jx : List El → World → Prop) (W : World) (hA : AbidesFrom W.heap.size J) (hn0 : n₀ ≤ W.heap.size)
    (hY : ∀ pre x W1, J pre W1 → pre.length < xs.length → YieldAt F (n - 1) Tryz.prog l (encE x) W1 fun e W' =>
      (e = .returned (.bool true) ∧ J (pre ++ [x]) W' ∧ Below n₀ W1 W') ∨ (e = .returned (.bool false) ∧ Jx (pre ++ [x]) W'))
    (hBs : W.cell? ⟨Bs, 0, none⟩ = some (.slice a xs.length cap)) (hc : ElsAt W b off xs) (h0 : J [] W) :
    CallsIn F n Tryz.prog 114 #[.func (.yield l) #[] #[], .pointer (some ⟨Bs, 0, none⟩)] W fun e W' => (∃ v, e = .returned v) ∧ ((∃ ys, ys = xs ∧ J ys W') ∨ (∃ pre, True ∧ Jx pre W')) := by
  obtain ⟨len, hl⟩ : ∃ len, len = xs.length := ⟨_, rfl⟩
  have HL := hid hl.symm
  rw [← hl] at hBs hlen
  clear hl
  refine callsIn_of_wp Tryz.func114 rfl hf ?_ hro
  simp only [Tryz.ntmps114, List.size_toArray, List.length_cons, List.length_nil, Nat.reduceAdd, Nat.reduceSub, Array.replicate_succ, Array.replicate_zero, List.push_toArray, List.append_toArray, List.nil_append, List.cons_append]
  gi_wp2
  gi_loopw [7] (fun i wr => ∃ k : Nat, k ≤ len ∧ i = .int .i64 k ∧ Hid (J (xs.take k) wr) ∧ Hid (Below n₀ W wr)) (fun i _ => len - (intOf i).toNat)
  case atStart => exact ⟨0, Nat.zero_le _, rfl, hid (by simpa using h0), hid (Below.refl _ _)⟩
  case round =>
    obtain ⟨k, hk, rfl, HJ, HB⟩ := hrel
    by_cases hlt : k < len
    · have hkl : k < xs.length := by rw [HL.out]; exact hlt
      have c1 : (k : Int) < (len : Int) := by omega
      obtain rfl := ha (by omega)
      obtain ⟨k0, k1, k2, k3, k4⟩ := (hc.below0 hb HB.out) k hkl
      have hJ1 := hA _ _ _ none HJ.out (World.grownBy_alloc wr (.cells #[.int .i64 xs[k].1, .int .i64 xs[k].2.1, .int .i64 xs[k].2.2.1, .int .i64 xs[k].2.2.2.1, .slice xs[k].2.2.2.2.1 xs[k].2.2.2.2.2.1 xs[k].2.2.2.2.2.2] 88) none) (fun r e => by cases e)
      obtain ⟨fn, tmps, assign, body, hy, hR⟩ := hY _ xs[k] _ hJ1 (by rw [List.length_take]; omega)
      have htk : xs.take k ++ [xs[k]] = xs.take (k + 1) := by rw [List.take_add_one, List.getElem?_eq_getElem hkl]; rfl
      rw [htk] at hR
      have HR := hid hR
      clear hR htk hJ1
      unfold encE at hy
      have hsz : n₀ ≤ wr.heap.size := Nat.le_trans hn0 HB.out.size
      have HB2 := hid (HB.out.trans ((Below.refl n₀ wr).alloc hsz (.cells #[.int .i64 xs[k].1, .int .i64 xs[k].2.1, .int .i64 xs[k].2.2.1, .int .i64 xs[k].2.2.2.1, .slice xs[k].2.2.2.2.1 xs[k].2.2.2.2.2.1 xs[k].2.2.2.2.2.2] 88)))
      gi_wp2
      refine HR.out.mono ?_
      rintro e W3 (⟨rfl, hJ3, hk3⟩ | ⟨rfl, hJx3⟩)
      · gi_wp2
        go_roundw
        case rel => exact ⟨k + 1, by omega, by go_num, hid hJ3, hid (HB2.out.trans hk3)⟩
        case measure => simp [intOf]; omega
      · gi_wp2
        refine bodyPost_ret (results_none rfl _ _ _) rfl ?_
        exact ⟨⟨_, rfl⟩, .inr ⟨_, trivial, hJx3⟩⟩
    · have c1 : (len : Int) ≤ (k : Int) := by omega
      gi_wp2
      go_end0
      refine ⟨⟨_, rfl⟩, .inl ⟨xs, rfl, ?_⟩⟩
      have := HJ.out
      rwa [List.take_of_length_le (by rw [HL.out]; omega)] at this
theorem values_stops_r (F : Fence) (n : Nat) (hf : F.fn 114) (hro : F.round = none) (hn : 1 ≤ n) (Bs n₀ b off cap : Nat) (xs : List El) (hlen : xs.length ≤ 1099511627776) (a : Option Addr) (ha : 0 < xs.length → a = some ⟨b, off, none⟩) (hb : 0 < xs.length → b < n₀) (w : World) (hBl : Bs < w.heap.size) (hn0 : n₀ ≤ w.heap.size)
    (hBs : w.cell? ⟨Bs, 0, none⟩ = some (.slice a xs.length cap)) (hc : ElsAt w b off xs) :
    SeqStopsK F n Tryz.prog 114 #[.pointer (some ⟨Bs, 0, none⟩)] encE (Below n₀) (fun ys => ys = xs) (fun _ => True) xs.length w := fun l J Jx W hW hJ _ hY h0 =>
  values1_r F n hf hro hn l Bs n₀ b off cap xs hlen a ha hb J Jx W hJ (Nat.le_trans hn0 hW.size) hY ((hW.cell (p := ⟨Bs, 0, none⟩) hBl).trans hBs) (hc.below0 hb (hW.mono hn0)) h0
def flat5 (xs : List El) : List Value := xs.flatMap ev
theorem flat5_snoc (xs : List El) (x : El) : flat5 (xs ++ [x]) = flat5 xs ++ ev x := by simp [flat5]
theorem Tryz.infoRw : (Tryz.prog.info? 88).map (fun i => (i.zero, i.size, i.bytes)) = some (some (.agg #[.int .i64 0, .int .i64 0, .int .i64 0, .int .i64 0, .slice none 0 0]), 5, 56) := by kernel_rfl
def boxE (x : El) : Obj := .cells #[.int .i64 x.1, .int .i64 x.2.1, .int .i64 x.2.2.1, .int .i64 x.2.2.2.1, .slice x.2.2.2.2.1 x.2.2.2.2.2.1 x.2.2.2.2.2.2] 88 (0, 0)
set_option maxRecDepth 100000 in
set_option maxHeartbeats 2000000 in
theorem appendSeq_r (F : Fence) (n : Nat) (hf : F.fn 124) (hro : F.round = none) (hn : 2 ≤ n) (g : Nat) (lb : Array Value) (hFg : F.fn g) (eg : ∀ args w, (callFunc g args).run Tryz.prog w = .ok (.enter g args) w) (xs : List El) (hlen : xs.length ≤ 1099511627776) (n₀ : Nat) (w : World) (hn0 : n₀ ≤ w.heap.size)
    (hseq : SeqStopsK F (n - 1) Tryz.prog g lb encE (Below n₀) (fun ys => ys = xs) (fun _ => True) xs.length w) :
    CallsIn F n Tryz.prog 124 #[.slice none 0 0, .func (.func g) #[] lb] w fun e w' => ∃ v, e = .returned v ∧ w'.ownsRow w.heap.size 88 5 v xs.length (flat5 xs) ∧ Below w.heap.size w w' := by
  have h1 : 1 ≤ n := by omega
  obtain ⟨i0, hi, hz0, hz1, hz2⟩ := info_parts Tryz.infoRw
  refine callsIn_of_wp_marks Tryz.func124 rfl hf ?_ hro
  simp only [Tryz.ntmps124, List.size_toArray, List.length_cons, List.length_nil, Nat.reduceAdd, Nat.reduceSub, Array.replicate_succ, Array.replicate_zero, List.push_toArray, List.append_toArray, List.nil_append, List.cons_append]
  gi_wp2
  have bS : Boxed (w.alloc (.cells #[.slice none 0 0] 29)) w.heap.size 29 (.slice none 0 0) := Boxed.new w _ _
  have hB0 : Below w.heap.size w (w.alloc (.cells #[.slice none 0 0] 29)) := (Below.refl _ w).alloc (Nat.le_refl _) _
  have hsz : (w.alloc (.cells #[.slice none 0 0] 29)).heap.size = w.heap.size + 1 := by simp
  obtain ⟨W0, hW0⟩ : ∃ W0, w.alloc (.cells #[.slice none 0 0] 29) = W0 := ⟨_, rfl⟩
  rw [hW0] at bS hB0 hsz ⊢
  clear hW0
  refine wpIn_rangeFunc_ownH hro h1 (gf := g) (lb := lb) rfl hFg eg hseq belowK_t (belowK_b (by omega)) hB0 (fun _ => rfl)
    (fun pre W => (∃ v, Boxed W w.heap.size 29 v ∧ W.ownsRow w.heap.size 88 5 v pre.length (flat5 pre) ∧ True) ∧ Below w.heap.size w W)
    (fun _ _ _ => False)
    (OwnFrom.and (Own.from (holdsRow_own w.heap.size w.heap.size 29 88 5 (fun (pre : List El) => pre.length) (fun pre => flat5 pre) (fun _ _ => True)) _) (ownFrom_below (Nat.le_refl _) (by omega)))
    (fun _ _ _ _ _ hs _ _ => hs)
    ⟨⟨_, bS, ⟨rfl, .inl ⟨rfl, rfl⟩⟩, trivial⟩, hB0⟩
    (fun x a' W => ∃ Bx, w.heap.size < Bx ∧ W.heap[Bx]? = some (boxE x) ∧ a' = { tmps := #[.slice none 0 0, .func (.func g) #[] lb, .pointer (some ⟨w.heap.size, 0, none⟩), undef, .slice none 0 0, .pointer (some ⟨Bx, 0, none⟩), .func (.func g) #[] lb, .agg #[.int .i64 x.1, .int .i64 x.2.1, .int .i64 x.2.2.1, .int .i64 x.2.2.2.1, .slice x.2.2.2.2.1 x.2.2.2.2.2.1 x.2.2.2.2.2.2], undef, undef, undef, undef, undef], defers := [] })
    (fun x a' _ X Y row hs hg hr => by
      obtain ⟨Bx, h1, h2, h3⟩ := hs
      refine ⟨Bx, h1, ?_, h3⟩
      refine (hg.block Bx (Array.getElem?_eq_some_iff.1 h2).1 (fun e' => ?_)).trans h2
      obtain ⟨_, o, ho, hc⟩ := hr Bx e'.symm
      rw [h2] at ho; cases ho; cases hc)
    ?assign ?body ?done ?stop
  case assign =>
    rintro l pre x W K ⟨⟨v, bV, hrow, _⟩, hB1⟩ hK
    unfold encE
    gi_wp2
    exact hK _ _ ((KeepsOthers.alloc _ _).from _) ((Below.refl _ W).alloc (Nat.le_trans hn0 hB1.size) _) ⟨⟨v, bV.alloc _, hrow.alloc _, trivial⟩, hB1.alloc hB1.size _⟩ ⟨W.heap.size, bV.lt, World.alloc_heap_new W _, rfl⟩
  case body =>
    rintro l pre x a' W hl ⟨r, hr⟩ ⟨⟨v, bV, hrow, _⟩, hB1⟩ ⟨Bx, hBx, bX, rfl⟩ hlt
    have cV := bV.cell
    unfold boxE at bX
    obtain ⟨⟨x0, x1, x2, x3, x4⟩, _⟩ := cell5g bX
    have hsW := hB1.size
    gi_wp2_with (gi_at_builtin; refine wpListIn_append_own _ rfl _ _ 29 rfl w.heap.size 88 i0 _ 5 56 Tryz.underlying29 hi hz0 hz1 hz2 rfl (by decide) _ _ _ rfl (hrow.alloc _) ⟨W.heap.size, 0, none⟩ 1 1 [.int .i64 x.1, .int .i64 x.2.1, .int .i64 x.2.2.1, .int .i64 x.2.2.2.1, .slice x.2.2.2.2.1 x.2.2.2.2.2.1 x.2.2.2.2.2.2] rfl rfl (World.news_of_block (cs := #[.int .i64 x.1, .int .i64 x.2.1, .int .i64 x.2.2.1, .int .i64 x.2.2.2.1, .slice x.2.2.2.2.1 x.2.2.2.2.2.1 x.2.2.2.2.2.2]) (t := 88) (fr := (0, 0)) (World.alloc_heap_new W _)) (by simp [Value.oneCell']) (by unfold maxLen; omega) (by omega) (by simp; omega) ?_; intro v' w1 hown' hgrow _; obtain ⟨g', cap', rfl⟩ := ownsRow_succ hown'; obtain ⟨hv1, hv2, hr2, hk2, hb2⟩ := bV.appended (by decide) hrow hsW (Nat.le_refl _) hown' hgrow; have hc1 := hv1.cell; have hf1 := hv1.frozen)
    exact ⟨hk2.from _, hb2.mono hn0, ⟨_, hv2, by rw [flat5_snoc, List.length_append]; exact hr2, trivial⟩, hB1.trans hb2⟩
  case done =>
    rintro D ys W hD rfl ⟨⟨v, bV, hrow, _⟩, hB1⟩ hK
    have cV := bV.cell
    gi_wp2
    refine ⟨by simp, .inl ⟨_, _, rfl, run_takeDeferred hK, ?_⟩⟩
    exact ⟨_, results_tmp rfl _ _ _, v, rfl, ownsRow_putObj hrow _ hK rfl, hB1.trans (belowK_b (w := w) (Nat.le_refl _) W D _ _ (by omega) hK rfl rfl)⟩
  case stop =>
    rintro D c pre W hD _ hx
    exact hx.elim
end Go.Proofs.YtigjdlpjibakjaaGreat
namespace Go.Proofs.YtigjdlpjibakjaaGreat
open Go.RowKit Go.Shelf Go.Lib Go.Sort
set_option linter.unusedSimpArgs false
set_option linter.unusedVariables false
theorem flat5_at : ∀ (xs : List El) (j : Nat) (h : j < xs.length), (flat5 xs)[j * 5]? = some (.int .i64 xs[j].1) ∧ (flat5 xs)[j * 5 + 1]? = some (.int .i64 xs[j].2.1) ∧ (flat5 xs)[j * 5 + 2]? = some (.int .i64 xs[j].2.2.1) ∧ (flat5 xs)[j * 5 + 3]? = some (.int .i64 xs[j].2.2.2.1) ∧ (flat5 xs)[j * 5 + 4]? = some (.slice xs[j].2.2.2.2.1 xs[j].2.2.2.2.2.1 xs[j].2.2.2.2.2.2)
  | [], j, h => by simp at h
  | x :: r, 0, h => by simp [flat5, ev]
  | x :: r, j + 1, h => by
    have ih := flat5_at r j (by simpa using h)
    have e : ∀ k, (flat5 (x :: r))[k + 5]? = (flat5 r)[k]? := by
      intro k
      show ((ev x) ++ flat5 r)[k + 5]? = _
      rw [List.getElem?_append_right (by simp [ev])]
      simp [ev]
    have e0 : (j + 1) * 5 = j * 5 + 5 := by omega
    rw [e0, e, show j * 5 + 5 + 1 = j * 5 + 1 + 5 by omega, e, show j * 5 + 5 + 2 = j * 5 + 2 + 5 by omega, e, show j * 5 + 5 + 3 = j * 5 + 3 + 5 by omega, e, show j * 5 + 5 + 4 = j * 5 + 4 + 5 by omega, e]
    exact ih
theorem flat5_len (xs : List El) : (flat5 xs).length = xs.length * 5 := by
  induction xs with
  | nil => rfl
  | cons x r ih =>
    show (ev x ++ flat5 r).length = _
    rw [List.length_append, ih]
    simp [ev]; omega
theorem flatK_at (xs : List El) (t : Nat) (h : t < xs.length * 5) : (flat5 xs)[t]? = some ((ev xs.toArray[t / 5]!)[t % 5]!) := by
  have hj : t / 5 < xs.length := by omega
  obtain ⟨h0, h1, h2, h3, h4⟩ := flat5_at xs (t / 5) hj
  have hx : xs.toArray[t / 5]! = xs[t / 5] := by simp [hj]
  rw [hx]
  obtain e | e | e | e | e : t % 5 = 0 ∨ t % 5 = 1 ∨ t % 5 = 2 ∨ t % 5 = 3 ∨ t % 5 = 4 := by omega
  · have et : t = t / 5 * 5 := by omega
    rw [e]
    conv => lhs; rw [et]
    rw [h0]; rfl
  · have et : t = t / 5 * 5 + 1 := by omega
    rw [e]
    conv => lhs; rw [et]
    rw [h1]; rfl
  · have et : t = t / 5 * 5 + 2 := by omega
    rw [e]
    conv => lhs; rw [et]
    rw [h2]; rfl
  · have et : t = t / 5 * 5 + 3 := by omega
    rw [e]
    conv => lhs; rw [et]
    rw [h3]; rfl
  · have et : t = t / 5 * 5 + 4 := by omega
    rw [e]
    conv => lhs; rw [et]
    rw [h4]; rfl
theorem holds_of_row {w : World} {g cap : Nat} {xs : List El} {cur : Array Value} {e : TypeId} (hb : w.heap[g]? = some (.cells cur e (0, 0))) (hc : cur.toList.take (xs.length * 5) = flat5 xs) : HoldsK ev 5 w g 0 xs.toArray := by
  intro t ht
  have hs : (flatK ev 5 xs.toArray).size = xs.length * 5 := by simp [flatK]
  rw [hs] at ht
  have hf : (flatK ev 5 xs.toArray)[t]! = (ev xs.toArray[t / 5]!)[t % 5]! := by
    rw [getElem!_pos _ t (by rw [hs]; exact ht)]
    simp [flatK]
  have hcur : cur[t]? = some ((ev xs.toArray[t / 5]!)[t % 5]!) := by
    have h1 := flatK_at xs t ht
    rw [← hc, List.getElem?_take, if_pos ht] at h1
    simpa using h1
  refine ⟨?_, ?_⟩
  · simp only [World.cell?, hb, Nat.zero_add]
    rw [hf]
    simpa using hcur
  · simp [World.frozen?, hb]
theorem els_of_holds {w : World} {g : Nat} {d : Array El} (h : HoldsK ev 5 w g 0 d) : ElsAt w g 0 d.toList := by
  intro j hj
  have hjd : j < d.size := by simpa using hj
  have hs : (flatK ev 5 d).size = d.size * 5 := by simp [flatK]
  have hf : ∀ k, k < 5 → w.cell? ⟨g, 0 + j * 5 + k, none⟩ = some ((ev d.toList[j])[k]!) := by
    intro k hk
    have h1 := (h (j * 5 + k) (by rw [hs]; omega)).1
    have h2 : (flatK ev 5 d)[j * 5 + k]! = (ev d.toList[j])[k]! := by
      rw [getElem!_pos _ _ (by rw [hs]; omega)]
      have e1 : (j * 5 + k) / 5 = j := by omega
      have e2 : (j * 5 + k) % 5 = k := by omega
      simp [flatK, e1, e2, hjd]
    rw [show 0 + j * 5 + k = 0 + (j * 5 + k) by omega, h1]
    simp only [id]
    rw [h2]
  exact ⟨hf 0 (by omega), hf 1 (by omega), hf 2 (by omega), hf 3 (by omega), hf 4 (by omega)⟩
theorem grown_sortedK {w : World} {g n : Nat} {os : Array Obj} (d : Array El) : w.grownBy (sortWorldK ev 5 w g 0 n d os) (some g) := by
  refine ⟨rfl, rfl, rfl, by simp [sortWorldK, putRowK, putRow, mapBlock, Sort.ahead, grow], fun k hk hne => ?_⟩
  unfold sortWorldK putRowK
  rw [heap_grow_old _ _ (by simpa [putRow, mapBlock, Sort.ahead] using hk)]
  have : g ≠ k := fun e => hne (by rw [e])
  simp [putRow, mapBlock, Sort.ahead, Array.getElem?_modify, this]
def lexE (x y : El) : Prop := x.1 < y.1 ∨ (x.1 = y.1 ∧ x.2.1 ≤ y.2.1)
theorem sorted_lex {d : Array El} (h : SortedIn (ltOf cfE) 0 d.size d) : d.toList.Pairwise lexE := by
  rw [List.pairwise_iff_getElem]
  intro i j hi hj hij
  have hjd : j < d.size := by simpa using hj
  have h1 := h i j (Nat.zero_le _) hij hjd
  rw [ltE, decide_eq_false_iff_not] at h1
  have ei : d[i]! = d.toList[i] := by simp [show i < d.size by omega]
  have ej : d[j]! = d.toList[j] := by simp [hjd]
  rw [ei, ej] at h1
  unfold lexE
  omega
theorem values_c (a : Option Addr) (n cap : Nat) (w : World) : Calls Tryz.prog 99 #[.slice a n cap] w fun e w' => e = .returned (.func (.func 114) #[] #[.pointer (some ⟨w.heap.size, 0, none⟩)]) ∧ w' = w.alloc (.cells #[.slice a n cap] 29) := by
  have hmf : ∀ (fn : Fn) (first cap : Array Value) (w : World), (Instr.makeFunc fn first cap).run Tryz.prog w = .ok (.func fn first cap) w := fun _ _ _ _ => rfl
  go_enter Tryz.func99, Tryz.ntmps99
  go_wp2
  go_ret
  exact ⟨rfl, rfl⟩
theorem appendSeq_c (Bs b off cap : Nat) (xs : List El) (hlen : xs.length ≤ 1099511627776) (w : World) (a : Option Addr) (ha : 0 < xs.length → a = some ⟨b, off, none⟩) (hb : 0 < xs.length → b < w.heap.size) (hBs : w.cell? ⟨Bs, 0, none⟩ = some (.slice a xs.length cap)) (hc : ElsAt w b off xs) :
    Calls Tryz.prog 124 #[.slice none 0 0, .func (.func 114) #[] #[.pointer (some ⟨Bs, 0, none⟩)]] w fun e w' => ∃ v, e = .returned v ∧ w'.ownsRow w.heap.size 88 5 v xs.length (flat5 xs) ∧ Below w.heap.size w w' :=
  (callsIn_wide (n := 5)).1 (appendSeq_r Fence.wide 5 trivial rfl (by omega) _ _ trivial (enters_of Tryz.func114 (by kernel_rfl) rfl) xs hlen w.heap.size w (Nat.le_refl _)
    (values_stops_r Fence.wide 4 trivial rfl (by omega) Bs w.heap.size b off cap xs hlen a ha hb w (World.block_lt_of_cell? w _ hBs) (Nat.le_refl _) hBs hc))
theorem collect_c (Bs b off cap : Nat) (xs : List El) (hlen : xs.length ≤ 1099511627776) (w : World) (a : Option Addr) (ha : 0 < xs.length → a = some ⟨b, off, none⟩) (hb : 0 < xs.length → b < w.heap.size) (hBs : w.cell? ⟨Bs, 0, none⟩ = some (.slice a xs.length cap)) (hc : ElsAt w b off xs) :
    Calls Tryz.prog 112 #[.func (.func 114) #[] #[.pointer (some ⟨Bs, 0, none⟩)]] w fun e w' => ∃ v, e = .returned v ∧ w'.ownsRow w.heap.size 88 5 v xs.length (flat5 xs) ∧ Below w.heap.size w w' := by
  have H := hid (appendSeq_c Bs b off cap xs hlen w a ha hb hBs hc)
  clear hBs hc
  go_enter Tryz.func112, Tryz.ntmps112
  go_wp2_with fail
  refine H.out.mono ?_
  rintro e w1 ⟨v, rfl, hr, hB⟩
  go_wp2_with fail
  go_ret
  exact ⟨v, rfl, hr, hB⟩
set_option maxHeartbeats 1000000 in
theorem sorted_c (Bs b off cap : Nat) (xs : List El) (h0 : 0 < xs.length) (hlen : xs.length ≤ 1099511627776) (w : World) (hb : b < w.heap.size) (hBs : w.cell? ⟨Bs, 0, none⟩ = some (.slice (some ⟨b, off, none⟩) xs.length cap)) (hc : ElsAt w b off xs) :
    Calls Tryz.prog 98 #[.func (.func 114) #[] #[.pointer (some ⟨Bs, 0, none⟩)], .func (.func 100) #[] #[]] w fun e w' => ∃ g cap' ys, e = .returned (.slice (some ⟨g, 0, none⟩) xs.length cap') ∧ ys.length = xs.length ∧ g < w'.heap.size ∧ ElsAt w' g 0 ys ∧ ys.Perm xs ∧ ys.Pairwise lexE ∧ Below w.heap.size w w' := by
  have H := hid (collect_c Bs b off cap xs hlen w _ (fun _ => rfl) (fun _ => hb) hBs hc)
  clear hBs hc
  obtain ⟨n, hn⟩ : ∃ n, n = xs.length := ⟨_, rfl⟩
  have HN := hid hn
  rw [← hn] at h0 hlen ⊢
  rw [← hn] at H
  clear hn
  go_enter Tryz.func98, Tryz.ntmps98
  go_wp2_with fail
  refine H.out.mono ?_
  rintro e w1 ⟨v, rfl, hr, hB⟩
  obtain ⟨g, cp, cur, rfl, hg, hgb, hcp, _, _, htk⟩ : ∃ g cp cur, v = .slice (some ⟨g, 0, none⟩) n cp ∧ w.heap.size ≤ g ∧ w1.heap[g]? = some (.cells cur 88 (0, 0)) ∧ n ≤ cp ∧ cp ≤ maxLen ∧ cur.size = cp * 5 ∧ cur.toList.take (n * 5) = flat5 xs := by
    rcases hr.2 with ⟨_, h⟩ | h
    · omega
    · exact h
  have hgl : g < w1.heap.size := lt_of_block hgb
  have hH : HoldsK ev 5 w1 g 0 xs.toArray := holds_of_row (cap := cp) hgb (by rw [← HN.out]; exact htk)
  have HS := hid (sort_rows g 0 cp xs.toArray w1 hH hgl (by simp; rw [← HN.out]; omega))
  rw [show xs.toArray.size = n by simp [HN.out]] at HS
  have HHK := hid hH
  clear hH htk hr hgb
  go_wp2_with fail
  refine HS.out.mono ?_
  rintro e w2 ⟨rfl, d', q, os, hp, hs, rfl⟩
  have hds : d'.size = n := by have := hp.1; simpa [← HN.out] using this
  have hK2 := holdsK_sortWorldK ev 5 w1 g 0 q xs.toArray d' os hgl HHK.out (by rw [hds]; simp [HN.out])
  have hgr := grown_sortedK (w := w1) (g := g) (n := q) (os := os) d'
  have hE := els_of_holds hK2
  have hB2 : Below w.heap.size w (sortWorldK ev 5 w1 g 0 q d' os) := hB.grown hgr hB.size (fun k e => by cases e; exact hg)
  have hperm : d'.toList.Perm xs := by
    have h2 := hp.2.2
    have e1 : d'.extract 0 n = d' := by rw [← hds]; simp
    have e2 : xs.toArray.extract 0 n = xs.toArray := by
      have : n = xs.toArray.size := by simp [HN.out]
      rw [this]; simp
    rw [e1, e2] at h2
    simpa using h2
  have hlex : d'.toList.Pairwise lexE := sorted_lex (by rw [hds]; exact hs)
  have hl2 : g < (sortWorldK ev 5 w1 g 0 q d' os).heap.size := Nat.lt_of_lt_of_le hgl hgr.size
  have HALL := hid (show _ ∧ _ ∧ _ ∧ _ ∧ _ ∧ _ from ⟨show d'.toList.length = n by simpa using hds, hl2, hE, hperm, hlex, hB2⟩)
  clear hK2 hgr hE hB2 hperm hlex hl2 hp hs HS HHK
  generalize sortWorldK ev 5 w1 g 0 q d' os = w3 at *
  go_wp2_with fail
  go_ret
  exact ⟨g, cp, d'.toList, rfl, HALL.out⟩
theorem sort_none (a : Option Addr) (cap : Nat) (w : World) :
    Calls Tryz.prog 113 #[.slice a 0 cap, .func (.func 100) #[] #[]] w fun e w' => e = .returned (.tuple #[]) ∧ w' = w := by
  have h := AnyF.slices_SortFunc_none (P := Tryz.prog) { Tryz.sortRow with } a cap (.func (.func 100) #[] #[]) w
  exact h
theorem sorted_0 (Bs cap : Nat) (a : Option Addr) (w : World) (hBs : w.cell? ⟨Bs, 0, none⟩ = some (.slice a 0 cap)) :
    Calls Tryz.prog 98 #[.func (.func 114) #[] #[.pointer (some ⟨Bs, 0, none⟩)], .func (.func 100) #[] #[]] w fun e w' => ∃ a' cap', e = .returned (.slice a' 0 cap') ∧ Below w.heap.size w w' := by
  have H := hid (collect_c Bs 0 0 cap [] (by simp) w a (fun h => absurd h (by simp)) (fun h => absurd h (by simp)) hBs (fun j hj => absurd hj (by simp)))
  clear hBs
  go_enter Tryz.func98, Tryz.ntmps98
  go_wp2_with fail
  refine H.out.mono ?_
  rintro e w1 ⟨v, rfl, hr, hB⟩
  obtain ⟨a', cp, rfl⟩ : ∃ a' cp, v = .slice a' 0 cp := by
    rcases hr.2 with ⟨h, _⟩ | ⟨g, cp, cur, h, _⟩
    · exact ⟨_, _, h⟩
    · exact ⟨_, _, h⟩
  clear hr
  go_wp2_with fail
  refine (sort_none _ _ _).mono ?_
  rintro e w2 ⟨rfl, rfl⟩
  go_wp2_with fail
  go_ret
  exact ⟨_, _, rfl, hB⟩
end Go.Proofs.YtigjdlpjibakjaaGreat
namespace Go.Proofs.YtigjdlpjibakjaaGreat
open Go.RowKit
set_option linter.unusedSimpArgs false
set_option linter.unusedVariables false
theorem Tryz.infoPC : (Tryz.prog.info? 131).map (fun i => (i.zero, i.size, i.bytes)) = some (some (.agg #[.int .i64 0, .int .i64 0]), 2, 16) := by kernel_rfl
theorem cell2r {w : World} {p : Nat} {a b : Value} {t : TypeId} (h : w.heap[p]? = some (.cells #[a, b] t (0, 0))) : w.cell? ⟨p, 0, none⟩ = some a ∧ w.cell? ⟨p, 1, none⟩ = some b ∧ w.frozen? ⟨p, 0, none⟩ = false ∧ w.frozen? ⟨p, 1, none⟩ = false := by
  refine ⟨?_, ?_, ?_, ?_⟩ <;> simp [World.cell?, World.frozen?, h]
theorem own_blk {w w' : World} {b : Nat} {ps : List (Int × Int)} (h : PtsOwn w b ps) (e : w'.heap[b]? = w.heap[b]?) (hs : b < w'.heap.size) : PtsOwn w' b ps := by
  obtain ⟨h1, h2, h3⟩ := h
  refine ⟨hs, fun k hk => ?_, fun j hj => ?_⟩
  · simp only [World.cell?, e]; exact h2 k hk
  · simp only [World.cell?, World.frozen?, e]; exact h3 j hj
def fl2 (qs : List (Int × Int)) : List Value := qs.flatMap fun q => [.int .i64 q.1, .int .i64 q.2]
theorem fl2_len (qs : List (Int × Int)) : (fl2 qs).length = qs.length * 2 := by
  induction qs with
  | nil => rfl
  | cons q r ih => simp only [fl2, List.flatMap_cons, List.length_append, List.length_cons, List.length_nil] at ih ⊢; omega
theorem fl2_at (qs : List (Int × Int)) : ∀ k, k < qs.length → (fl2 qs)[k * 2]? = some (.int .i64 (qs.getD k (0, 0)).1) ∧ (fl2 qs)[k * 2 + 1]? = some (.int .i64 (qs.getD k (0, 0)).2) := by
  induction qs with
  | nil => intro k hk; simp at hk
  | cons q r ih =>
    intro k hk
    cases k with
    | zero => simp [fl2]
    | succ k =>
      have := ih k (by simpa using hk)
      simp only [fl2, List.flatMap_cons, List.getD_cons_succ] at this ⊢
      rw [show (k + 1) * 2 = k * 2 + 2 by omega]
      simpa [List.getElem?_append_right] using this
theorem fl2_one (qs : List (Int × Int)) : ∀ u ∈ fl2 qs, u.oneCell' = true := by
  intro u hu
  simp only [fl2, List.mem_flatMap] at hu
  obtain ⟨q, _, hu⟩ := hu
  simp at hu
  rcases hu with rfl | rfl <;> rfl
theorem fl2_news {w : World} {b off : Nat} {ps : List (Int × Int)} (h : PtsAt w b off ps) : ∀ j u, (fl2 ps)[j]? = some u → w.cell? ((⟨b, off, none⟩ : Addr).add j) = some u := by
  intro j u hu
  have hj : j < ps.length * 2 := by rw [← fl2_len]; exact (List.getElem?_eq_some_iff.1 hu).1
  rw [Addr.add_mid]
  have h2 := h (j / 2) (by omega)
  obtain ⟨f0, f1⟩ := fl2_at ps (j / 2) (by omega)
  rcases Nat.mod_two_eq_zero_or_one j with e | e
  · have ej : j = j / 2 * 2 := by omega
    rw [ej] at hu ⊢
    rw [f0] at hu
    rw [← hu]
    exact h2.1
  · have ej : j = j / 2 * 2 + 1 := by omega
    rw [ej] at hu ⊢
    rw [f1] at hu
    rw [← hu, ← Nat.add_assoc]
    exact h2.2
theorem own_pts {w : World} {B g cap n : Nat} {ps : List (Int × Int)} (h : w.ownsRow B 131 2 (.slice (some ⟨g, 0, none⟩) n cap) n (fl2 ps)) (hn : ps.length = n) : B ≤ g ∧ n ≤ cap ∧ PtsOwn w g ps := by
  subst hn
  have h' := h
  rcases h.2 with ⟨q, _⟩ | ⟨g', cap', cur, e, hb, hg, hc, _⟩
  · cases q
  · cases e
    refine ⟨hb, hc, (Array.getElem?_eq_some_iff.1 hg).1, fun k hk => ?_, fun j hj => ?_⟩
    · obtain ⟨f0, f1⟩ := fl2_at ps k hk
      have hcs := World.ownsRow.cells h' rfl
      have q0 := hcs _ _ f0
      have q1 := hcs _ _ f1
      rw [Addr.add_mid] at q0 q1
      exact ⟨q0, by rw [Nat.add_assoc]; exact q1⟩
    · simp only [Nat.zero_add]
      refine ⟨?_, World.ownsRow.frozenAt h' j⟩
      rw [World.ownsRow.cellAt h' j hj, List.getElem?_eq_getElem (by rw [fl2_len]; exact hj)]
      rfl
/-- A copy of a shape. -/
def CP (w : World) (kd : Int) (ps : List (Int × Int)) (e : Ending) (w' : World) : Prop :=
  ∃ g cap, e = .returned (.agg #[.int .i64 kd, .slice (some ⟨g, 0, none⟩) ps.length cap]) ∧ ps.length ≤ cap ∧ w.heap.size ≤ g ∧ PtsOwn w' g ps ∧ Below w.heap.size w w'
theorem own_new {w : World} {B : Nat} (hB : B ≤ w.heap.size) : (w.alloc (.cells #[] 131)).ownsRow B 131 2 (.slice (some ⟨w.heap.size, 0, none⟩) 0 0) 0 [] := by
  have := World.ownsRow_made (base := B) (e := 131) (size := 2) w #[] 0 hB (by decide) rfl
  simpa using this
set_option maxRecDepth 100000 in
set_option maxHeartbeats 1000000 in
theorem spec_copy (kd : Int) (a : Option Addr) (cap : Nat) (ps : List (Int × Int)) (w : World) (h0 : 0 < ps.length) (hm : ps.length ≤ 1099511627776) (h : Pts w a ps) : Calls Tryz.prog 69 #[.agg #[.int .i64 kd, .slice a ps.length cap]] w fun e w' => CP w kd ps e w' := by
  obtain ⟨i0, hi0, hz0, hz1, hz2⟩ := info_parts Tryz.infoPC
  obtain ⟨b, off, rfl, hbs, hp⟩ : ∃ b off, a = some ⟨b, off, none⟩ ∧ b < w.heap.size ∧ PtsAt w b off ps := by
    rcases h with h | h
    · rw [h] at h0; simp at h0
    · exact h
  have hN := fl2_len ps
  have HP := hid hp
  clear hp h
  have hB3 : Below w.heap.size w (((w.alloc (.cells #[.int .i64 kd, .slice (some ⟨b, off, none⟩) ps.length cap] 86)).alloc (.cells #[.int .i64 0, .slice none 0 0] 86)).alloc (.cells #[] 131)) := balloc (balloc (balloc (Below.refl _ _) _) _) _
  have hown := own_new (w := (w.alloc (.cells #[.int .i64 kd, .slice (some ⟨b, off, none⟩) ps.length cap] 86)).alloc (.cells #[.int .i64 0, .slice none 0 0] 86)) (B := w.heap.size + 2) (by simp)
  have gA := old_alloc (o' := .cells #[] 131) (old_alloc (o' := .cells #[.int .i64 0, .slice none 0 0] 86) (new_alloc w w.heap.size (.cells #[.int .i64 kd, .slice (some ⟨b, off, none⟩) ps.length cap] 86) rfl))
  have gB := old_alloc (o' := .cells #[] 131) (new_alloc (w.alloc (.cells #[.int .i64 kd, .slice (some ⟨b, off, none⟩) ps.length cap] 86)) (w.heap.size + 1) (.cells #[.int .i64 0, .slice none 0 0] 86) (by simp))
  have hsz3 : (((w.alloc (.cells #[.int .i64 kd, .slice (some ⟨b, off, none⟩) ps.length cap] 86)).alloc (.cells #[.int .i64 0, .slice none 0 0] 86)).alloc (.cells #[] 131)).heap.size = w.heap.size + 3 := by simp
  have hsz2 : ((w.alloc (.cells #[.int .i64 kd, .slice (some ⟨b, off, none⟩) ps.length cap] 86)).alloc (.cells #[.int .i64 0, .slice none 0 0] 86)).heap.size = w.heap.size + 2 := by simp
  rw [hsz2] at hown
  have HNW := hid (fl2_news (HP.out.below hbs hB3))
  have HOW := hid hown
  have HGA := hid gA
  have HGB := hid gB
  have HB3 := hid hB3
  have HSZ := hid hsz3
  have HF1 := hid (fl2_one ps)
  clear hown gA gB hB3 hsz3 hsz2
  go_enter Tryz.func69, Tryz.ntmps69
  go_wp2_with (at_builtin; (refine wpList_append_lies _ rfl (.tmp 3) (.tmp 5) 84 rfl (w.heap.size + 2) 131 i0 _ 2 16 Tryz.underlying84 hi0 hz0 hz1 hz2 rfl (by decide) _ 0 [] (by rfl) HOW.out ⟨b, off, none⟩ ps.length cap (fl2 ps) (by rfl) hN HNW.out HF1.out h0 (by unfold maxLen; omega) (by omega) (by rw [HSZ.out]; omega) (w.heap.size + 3) HSZ.out ?_; intro gg cp w2 hown1 hgrow hat hlt; have gA := grown_blk (p := w.heap.size + 2) hgrow HGA.out (by omega); have gB := grown_blk (p := w.heap.size + 2) hgrow HGB.out (by omega); obtain ⟨a0, a1, f0, f1⟩ := cell2r gA; obtain ⟨b0, b1, e0, e1⟩ := cell2r gB))
  have HO1 := hid (own_pts (ps := ps) (by simpa using hown1) (by omega))
  have HB4 := hid (bgrown (p := w.heap.size + 2) HB3.out hgrow (by omega))
  clear hown1 hgrow
  obtain ⟨h1, h2, h3⟩ := HO1.out
  have gF := set2r (set_far (q := w.heap.size) (k := 1) (u := .slice (some ⟨gg, 0, none⟩) ps.length cp) gB (by omega)) (.int .i64 kd) (.slice (some ⟨gg, 0, none⟩) ps.length cp)
  have bF := bset (bset (bset HB4.out (q := w.heap.size) (k := 1) (Nat.le_refl _) (.slice (some ⟨gg, 0, none⟩) ps.length cp)) (q := w.heap.size + 1) (k := 0) (by omega) (.int .i64 kd)) (q := w.heap.size + 1) (k := 1) (by omega) (.slice (some ⟨gg, 0, none⟩) ps.length cp)
  have oF : PtsOwn (((w2.setCell ⟨w.heap.size, 1, none⟩ (.slice (some ⟨gg, 0, none⟩) ps.length cp)).setCell ⟨w.heap.size + 1, 0, none⟩ (.int .i64 kd)).setCell ⟨w.heap.size + 1, 1, none⟩ (.slice (some ⟨gg, 0, none⟩) ps.length cp)) gg ps := by
    refine own_blk h3 ?_ (by simp; exact h3.1)
    rw [Below.heap_setCell _ _ _ _ (by dsimp only; omega), Below.heap_setCell _ _ _ _ (by dsimp only; omega), Below.heap_setCell _ _ _ _ (by dsimp only; omega)]
  generalize ((w2.setCell ⟨w.heap.size, 1, none⟩ (.slice (some ⟨gg, 0, none⟩) ps.length cp)).setCell ⟨w.heap.size + 1, 0, none⟩ (.int .i64 kd)).setCell ⟨w.heap.size + 1, 1, none⟩ (.slice (some ⟨gg, 0, none⟩) ps.length cp) = wf at *
  obtain ⟨z0, z1, _, _⟩ := cell2r gF
  exact bodyPost_ret (v := .agg #[.int .i64 kd, .slice (some ⟨gg, 0, none⟩) ps.length cp]) (by simp [results, Tryz.results69, go_sem, z0, z1]) rfl ⟨gg, cp, rfl, by omega, by omega, oF, bF⟩
set_option maxRecDepth 100000 in
set_option maxHeartbeats 2000000 in
theorem impl_copy (kd : Int) (a : Option Addr) (cap : Nat) (ps : List (Int × Int)) (w : World) (h0 : 0 < ps.length) (hm : ps.length ≤ 1099511627776) (h : Pts w a ps) : Calls Tryz.prog 88 #[.agg #[.int .i64 kd, .slice a ps.length cap]] w fun e w' => CP w kd ps e w' := by
  obtain ⟨i0, hi0, hz0, hz1, hz2⟩ := info_parts Tryz.infoPC
  obtain ⟨b, off, rfl, hbs, hp⟩ : ∃ b off, a = some ⟨b, off, none⟩ ∧ b < w.heap.size ∧ PtsAt w b off ps := by
    rcases h with h | h
    · rw [h] at h0; simp at h0
    · exact h
  have hN := fl2_len ps
  have HP := hid hp
  have HF1 := hid (fl2_one ps)
  clear hp h
  go_enter Tryz.func88, Tryz.ntmps88
  go_upto_region 1 with fail
  have hB : Below w.heap.size w ((w.alloc (.cells #[.int .i64 kd, .slice (some ⟨b, off, none⟩) ps.length cap] 86)).alloc (.cells #[.int .i64 0, .slice none 0 0] 86)) := balloc (balloc (Below.refl _ _) _) _
  have gA := old_alloc (o' := .cells #[.int .i64 0, .slice none 0 0] 86) (new_alloc w w.heap.size (.cells #[.int .i64 kd, .slice (some ⟨b, off, none⟩) ps.length cap] 86) rfl)
  have gB := new_alloc (w.alloc (.cells #[.int .i64 kd, .slice (some ⟨b, off, none⟩) ps.length cap] 86)) (w.heap.size + 1) (.cells #[.int .i64 0, .slice none 0 0] 86) (by simp)
  have hsz : ((w.alloc (.cells #[.int .i64 kd, .slice (some ⟨b, off, none⟩) ps.length cap] 86)).alloc (.cells #[.int .i64 0, .slice none 0 0] 86)).heap.size = w.heap.size + 2 := by simp
  generalize ((w.alloc (.cells #[.int .i64 kd, .slice (some ⟨b, off, none⟩) ps.length cap] 86)).alloc (.cells #[.int .i64 0, .slice none 0 0] 86)) = W at *
  have HNW := hid (fl2_news (HP.out.below hbs (balloc hB (.cells #[] 131))))
  have HOW := hid (own_new (w := W) (B := w.heap.size + 2) (by omega))
  rw [hsz] at HOW
  have HGB := hid (old_alloc (o' := .cells #[] 131) gB)
  have hs3 : (W.alloc (.cells #[] 131)).heap.size = w.heap.size + 3 := by simp [hsz]
  have HB3 := hid (balloc hB (.cells #[] 131))
  obtain ⟨a0, a1, f0, f1⟩ := cell2r gA
  obtain ⟨b0, b1, e0, e1⟩ := cell2r gB
  clear gA gB hB
  go_region_held3 (fun w' => w'.cell? ⟨w.heap.size, 0, none⟩ = some (.int .i64 kd) ∧ w'.cell? ⟨w.heap.size, 1, none⟩ = some (.slice (some ⟨b, off, none⟩) ps.length cap)) ((go_split_ands; (repeat' apply And.intro) <;> (repeat (first | with_reducible assumption | with_reducible refine keepset3 ?_ (by dsimp only; omega) | with_reducible refine keepdrew ?_ | with_reducible refine keepalloc ?_ _ | (refine hgrow.cell ?_ (by simp [Value.ownBlock]; try omega))))))
    ((refine step_append_lies _ (by rfl) _ _ _ (by rfl) (w.heap.size + 2) 131 i0 _ 2 16 Tryz.underlying84 hi0 hz0 hz1 hz2 rfl (by omega) _ 0 [] (by rw [← hsz]; rfl) (HOW.out.drew) ⟨b, off, none⟩ ps.length cap (fl2 ps) (by rfl) hN HNW.out HF1.out h0 (by unfold maxLen; omega) (by omega) (by show _ ≤ (W.alloc (.cells #[] 131)).heap.size; omega) (w.heap.size + 3) hs3 ?_; intro gg cp w2 hown1 hgrow hat hlt; have gB := grown_blk (p := w.heap.size + 2) hgrow HGB.out (by omega); obtain ⟨y0, y1, x0, x1⟩ := cell2r gB))
  have HO1 := hid (own_pts (ps := ps) (by simpa using hown1) (by omega))
  have HB4 := hid (bgrown (p := w.heap.size + 2) (bdrew HB3.out) hgrow (by omega))
  clear hown1 hgrow
  go_wp2_with fail
  obtain ⟨h1, h2, h3⟩ := HO1.out
  have gF := set2r gB (.int .i64 kd) (.slice (some ⟨gg, 0, none⟩) ps.length cp)
  have bF := bset (bset HB4.out (q := w.heap.size + 1) (k := 0) (by omega) (.int .i64 kd)) (q := w.heap.size + 1) (k := 1) (by omega) (.slice (some ⟨gg, 0, none⟩) ps.length cp)
  have oF : PtsOwn ((w2.setCell ⟨w.heap.size + 1, 0, none⟩ (.int .i64 kd)).setCell ⟨w.heap.size + 1, 1, none⟩ (.slice (some ⟨gg, 0, none⟩) ps.length cp)) gg ps := by
    refine own_blk h3 ?_ (by simp; exact h3.1)
    rw [Below.heap_setCell _ _ _ _ (by dsimp only; omega), Below.heap_setCell _ _ _ _ (by dsimp only; omega)]
  generalize (w2.setCell ⟨w.heap.size + 1, 0, none⟩ (.int .i64 kd)).setCell ⟨w.heap.size + 1, 1, none⟩ (.slice (some ⟨gg, 0, none⟩) ps.length cp) = wf at *
  obtain ⟨z0, z1, _, _⟩ := cell2r gF
  exact bodyPost_ret (v := .agg #[.int .i64 kd, .slice (some ⟨gg, 0, none⟩) ps.length cp]) (by simp [results, Tryz.results88, go_sem, z0, z1]) rfl ⟨gg, cp, rfl, by omega, by omega, oF, bF⟩
set_option maxRecDepth 100000 in
set_option maxHeartbeats 2000000 in
theorem impl_copy0 (kd : Int) (w : World) : Calls Tryz.prog 88 #[.agg #[.int .i64 kd, .slice none 0 0]] w fun e w' => CP w kd [] e w' := by
  obtain ⟨i0, hi0, hz0, hz1, hz2⟩ := info_parts Tryz.infoPC
  go_enter Tryz.func88, Tryz.ntmps88
  go_upto_region 1 with fail
  have hB : Below w.heap.size w ((w.alloc (.cells #[.int .i64 kd, .slice none 0 0] 86)).alloc (.cells #[.int .i64 0, .slice none 0 0] 86)) := balloc (balloc (Below.refl _ _) _) _
  have gA := old_alloc (o' := .cells #[.int .i64 0, .slice none 0 0] 86) (new_alloc w w.heap.size (.cells #[.int .i64 kd, .slice none 0 0] 86) rfl)
  have gB := new_alloc (w.alloc (.cells #[.int .i64 kd, .slice none 0 0] 86)) (w.heap.size + 1) (.cells #[.int .i64 0, .slice none 0 0] 86) (by simp)
  have hsz : ((w.alloc (.cells #[.int .i64 kd, .slice none 0 0] 86)).alloc (.cells #[.int .i64 0, .slice none 0 0] 86)).heap.size = w.heap.size + 2 := by simp
  generalize ((w.alloc (.cells #[.int .i64 kd, .slice none 0 0] 86)).alloc (.cells #[.int .i64 0, .slice none 0 0] 86)) = W at *
  obtain ⟨a0, a1, f0, f1⟩ := cell2r gA
  obtain ⟨b0, b1, e0, e1⟩ := cell2r gB
  go_region_held3 (fun w' => w'.cell? ⟨w.heap.size, 0, none⟩ = some (.int .i64 kd) ∧ w'.cell? ⟨w.heap.size, 1, none⟩ = some (.slice none 0 0)) ((go_split_ands; (repeat' apply And.intro) <;> (repeat (first | with_reducible assumption | with_reducible refine keepset3 ?_ (by dsimp only; omega) | with_reducible refine keepdrew ?_ | with_reducible refine keepalloc ?_ _))))
    (fail)
  go_wp2_with fail
  have gF : ((((W.setCell ⟨w.heap.size + 1, 0, none⟩ (.int .i64 kd)).setCell ⟨w.heap.size + 1, 1, none⟩ (.slice (some ⟨w.heap.size + 2, 0, none⟩) 0 0)).alloc (.cells #[] 131)).drew).heap[w.heap.size + 1]? = some (.cells #[.int .i64 kd, .slice (some ⟨w.heap.size + 2, 0, none⟩) 0 0] 86 (0, 0)) := old_alloc (o' := .cells #[] 131) (set2r gB (.int .i64 kd) (.slice (some ⟨w.heap.size + 2, 0, none⟩) 0 0))
  have bF := bdrew (balloc (bset (bset hB (q := w.heap.size + 1) (k := 0) (by omega) (.int .i64 kd)) (q := w.heap.size + 1) (k := 1) (by omega) (.slice (some ⟨w.heap.size + 2, 0, none⟩) 0 0)) (.cells #[] 131))
  have oF : PtsOwn ((((W.setCell ⟨w.heap.size + 1, 0, none⟩ (.int .i64 kd)).setCell ⟨w.heap.size + 1, 1, none⟩ (.slice (some ⟨w.heap.size + 2, 0, none⟩) 0 0)).alloc (.cells #[] 131)).drew) (w.heap.size + 2) [] := ⟨by show _ < ((((W.setCell ⟨w.heap.size + 1, 0, none⟩ (.int .i64 kd)).setCell ⟨w.heap.size + 1, 1, none⟩ (.slice (some ⟨w.heap.size + 2, 0, none⟩) 0 0)).alloc (.cells #[] 131))).heap.size; simp [hsz], fun k hk => by simp at hk, fun j hj => by simp at hj⟩
  generalize (((W.setCell ⟨w.heap.size + 1, 0, none⟩ (.int .i64 kd)).setCell ⟨w.heap.size + 1, 1, none⟩ (.slice (some ⟨w.heap.size + 2, 0, none⟩) 0 0)).alloc (.cells #[] 131)).drew = wf at *
  obtain ⟨z0, z1, _, _⟩ := cell2r gF
  exact bodyPost_ret (v := .agg #[.int .i64 kd, .slice (some ⟨w.heap.size + 2, 0, none⟩) 0 0]) (by simp [results, Tryz.results88, go_sem, z0, z1]) rfl ⟨w.heap.size + 2, 0, rfl, by simp, by omega, oF, bF⟩
end Go.Proofs.YtigjdlpjibakjaaGreat
namespace Go.Proofs.YtigjdlpjibakjaaGreat
open Go.RowKit
set_option linter.unusedSimpArgs false
set_option linter.unusedVariables false
def elR (r : Rw) (c cap : Nat) : El := (r.1, r.2.1, r.2.2.1, r.2.2.2.1, some ⟨c, 0, none⟩, r.2.2.2.2.length, cap)
/-- Rows that the call has made: the list's block and the points' blocks lie from base on, below hi, each another one. -/
def RowsX (base hi : Nat) (w : World) (v : Value) (rs : List Rw) (xs : List El) : Prop :=
  xs.length = rs.length ∧ w.ownsRow base 88 5 v rs.length (flat5 xs) ∧ (∀ g, v.ownBlock = some g → g < hi) ∧ hi ≤ w.heap.size ∧
  ∃ c cp : Nat → Nat, (∀ j (h : j < rs.length), xs[j]? = some (elR rs[j] (c j) (cp j)) ∧ rs[j].2.2.2.2.length ≤ cp j ∧ rs[j].2.2.2.2.length ≤ 1099511627776 ∧ base ≤ c j ∧ c j < hi ∧ v.ownBlock ≠ some (c j) ∧ PtsOwn w (c j) rs[j].2.2.2.2) ∧ (∀ i j, i < j → j < rs.length → c i ≠ c j)
theorem own_frame {w w' : World} {B : Nat} {e : TypeId} {sz : Nat} {v : Value} {n : Nat} {xs : List Value} (h : w.ownsRow B e sz v n xs) (hb : ∀ g, v.ownBlock = some g → w'.heap[g]? = w.heap[g]?) : w'.ownsRow B e sz v n xs := by
  refine ⟨h.1, ?_⟩
  rcases h.2 with q | ⟨g, c, cur, e1, q1, q2, q3⟩
  · exact .inl q
  · refine .inr ⟨g, c, cur, e1, q1, ?_, q3⟩
    rw [hb g (by rw [e1]; rfl)]; exact q2
theorem RowsX.frame {base hi : Nat} {w w' : World} {v : Value} {rs : List Rw} {xs : List El} (h : RowsX base hi w v rs xs) (hb : ∀ c, base ≤ c → c < hi → w'.heap[c]? = w.heap[c]?) (hs : w.heap.size ≤ w'.heap.size) : RowsX base hi w' v rs xs := by
  obtain ⟨h1, h2, h3, h4, c, cp, h5, h6⟩ := h
  refine ⟨h1, own_frame h2 (fun g e => hb g (h2.lt g e).1 (h3 g e)), h3, by omega, c, cp, fun j hj => ?_, h6⟩
  obtain ⟨a1, a2, a3, a4, a5, a6, a7⟩ := h5 j hj
  exact ⟨a1, a2, a3, a4, a5, a6, own_blk a7 (hb _ a4 a5) (by omega)⟩
theorem RowsX.below {base hi : Nat} {w w' : World} {v : Value} {rs : List Rw} {xs : List El} (h : RowsX base hi w v rs xs) (H : Below w.heap.size w w') : RowsX base hi w' v rs xs :=
  h.frame (fun c _ h2 => H.block c (by have := h.2.2.2.1; omega)) H.size
theorem RowsX.mono {base base' hi hi' : Nat} {w : World} {v : Value} {rs : List Rw} {xs : List El} (h : RowsX base hi w v rs xs) (hb : base' ≤ base) (hh : hi ≤ hi') (hs : hi' ≤ w.heap.size) : RowsX base' hi' w v rs xs := by
  obtain ⟨h1, h2, h3, h4, c, cp, h5, h6⟩ := h
  refine ⟨h1, ⟨h2.1, ?_⟩, fun g e => by have := h3 g e; omega, hs, c, cp, fun j hj => ?_, h6⟩
  · rcases h2.2 with q | ⟨g, cc, cur, e1, q1, q2, q3⟩
    · exact .inl q
    · exact .inr ⟨g, cc, cur, e1, by omega, q2, q3⟩
  · obtain ⟨a1, a2, a3, a4, a5, a6, a7⟩ := h5 j hj
    exact ⟨a1, a2, a3, by omega, by omega, a6, a7⟩
theorem RowsX.nil {base hi : Nat} {w : World} {v : Value} (h : w.ownsRow base 88 5 v 0 []) (h3 : ∀ g, v.ownBlock = some g → g < hi) (h4 : hi ≤ w.heap.size) : RowsX base hi w v [] [] :=
  ⟨rfl, by simpa [flat5] using h, h3, h4, fun _ => 0, fun _ => 0, fun j hj => absurd hj (by simp), fun i j _ hj => absurd hj (by simp)⟩
theorem RowsX.snoc {base hi : Nat} {W w' : World} {v : Value} {rs : List Rw} {xs : List El} {r : Rw} {c cp g cap : Nat} (h : RowsX base hi W v rs xs) (hcb : base ≤ c) (hc1 : hi ≤ c) (hc2 : c < W.heap.size) (hcp : r.2.2.2.2.length ≤ cp) (hl : r.2.2.2.2.length ≤ 1099511627776) (hp : PtsOwn W c r.2.2.2.2)
    (hown : w'.ownsRow base 88 5 (.slice (some ⟨g, 0, none⟩) (rs.length + 1) cap) (rs.length + 1) (flat5 xs ++ ev (elR r c cp))) (hg : W.grownBy w' v.ownBlock) (hat : v.ownBlock = some g ∨ g = W.heap.size) (hlt : g < w'.heap.size) :
    RowsX base w'.heap.size w' (.slice (some ⟨g, 0, none⟩) (rs.length + 1) cap) (rs ++ [r]) (xs ++ [elR r c cp]) := by
  obtain ⟨h1, h2, h3, h4, cf, cpf, h5, h6⟩ := h
  have hgc : ∀ d, d < W.heap.size → v.ownBlock ≠ some d → g ≠ d := by
    intro d hd hne e
    subst e
    rcases hat with q | q
    · exact hne q
    · omega
  have hvc : v.ownBlock ≠ some c := fun e => by have := h3 c e; omega
  have hlr : (rs ++ [r]).length = rs.length + 1 := by simp
  refine ⟨by simp [h1], by rw [flat5_snoc, hlr]; exact hown, fun g' e => by simp [Value.ownBlock] at e; omega, Nat.le_refl _, fun j => if j = rs.length then c else cf j, fun j => if j = rs.length then cp else cpf j, fun j hj => ?_, fun i j hij hj => ?_⟩
  · by_cases e : j = rs.length
    · subst e
      simp only [if_true]
      have er : (rs ++ [r])[rs.length]'(by simp) = r := by simp
      rw [er]
      refine ⟨by rw [← h1]; simp, hcp, hl, hcb, by have := hg.size; omega, by simp only [Value.ownBlock, ne_eq, Option.some.injEq]; exact hgc c hc2 hvc, own_blk hp (hg.block c hc2 (fun e => hvc e.symm)) (by have := hg.size; omega)⟩
    · have hjl : j < rs.length := by simp at hj; omega
      simp only [if_neg e]
      have er : (rs ++ [r])[j]'(by simpa using hj) = rs[j] := by rw [List.getElem_append_left hjl]
      rw [er]
      obtain ⟨a1, a2, a3, a4, a5, a6, a7⟩ := h5 j hjl
      refine ⟨by rw [List.getElem?_append_left (by omega)]; exact a1, a2, a3, a4, by have := hg.size; omega, by simp only [Value.ownBlock, ne_eq, Option.some.injEq]; exact hgc _ (by omega) a6, own_blk a7 (hg.block _ (by omega) (fun e => a6 e.symm)) (by have := hg.size; omega)⟩
  · have hil : i < rs.length := by simp at hj; omega
    simp only [if_neg (show i ≠ rs.length by omega)]
    by_cases e : j = rs.length
    · simp only [if_pos e]
      obtain ⟨_, _, _, _, a5, _⟩ := h5 i hil
      omega
    · simp only [if_neg e]
      exact h6 i j hij (by simp at hj; omega)
/-- A row at a place, with its points' block. -/
def RowC (w : World) (g o : Nat) (r : Rw) (c cp : Nat) : Prop := w.cell? ⟨g, o, none⟩ = some (.int .i64 r.1) ∧ w.cell? ⟨g, o + 1, none⟩ = some (.int .i64 r.2.1) ∧ w.cell? ⟨g, o + 2, none⟩ = some (.int .i64 r.2.2.1) ∧ w.cell? ⟨g, o + 3, none⟩ = some (.int .i64 r.2.2.2.1) ∧ w.cell? ⟨g, o + 4, none⟩ = some (.slice (some ⟨c, 0, none⟩) r.2.2.2.2.length cp) ∧ PtsOwn w c r.2.2.2.2
theorem RowC.at {w : World} {g o : Nat} {r : Rw} {c cp : Nat} (h : RowC w g o r c cp) (h1 : r.2.2.2.2.length ≤ cp) (h2 : r.2.2.2.2.length ≤ 1099511627776) : RwAt (fun _ => True) w g o r := by
  obtain ⟨a0, a1, a2, a3, a4, a5⟩ := h
  exact ⟨_, _, a0, a1, a2, a3, a4, h1, h2, a5.pts, fun _ _ _ => trivial⟩
theorem RowsX.rows {base hi : Nat} {w : World} {v : Value} {rs : List Rw} {xs : List El} (h : RowsX base hi w v rs xs) : (rs = [] ∧ v.ownBlock = none ∧ v = .slice none 0 0) ∨ ∃ g cap, v = .slice (some ⟨g, 0, none⟩) rs.length cap ∧ base ≤ g ∧ g < hi ∧ hi ≤ w.heap.size ∧ rs.length ≤ cap ∧ w.there g 0 (rs.length * 5) ∧ ∃ c cp : Nat → Nat, (∀ j (h : j < rs.length), RowC w g (j * 5) rs[j] (c j) (cp j) ∧ rs[j].2.2.2.2.length ≤ cp j ∧ rs[j].2.2.2.2.length ≤ 1099511627776 ∧ base ≤ c j ∧ c j < hi ∧ c j ≠ g) ∧ (∀ i j, i < j → j < rs.length → c i ≠ c j) := by
  obtain ⟨h1, h2, h3, h4, c, cp, h5, h6⟩ := h
  have h2' := h2
  rcases h2.2 with ⟨q, hn⟩ | ⟨g, cap, cur, rfl, hb, hg, hc, _⟩
  · left
    subst q
    exact ⟨List.length_eq_zero_iff.1 hn, rfl, rfl⟩
  · right
    refine ⟨g, cap, rfl, hb, h3 g rfl, h4, hc, fun j hj => ?_, c, cp, fun j hj => ?_, h6⟩
    · simp only [Nat.zero_add]
      refine ⟨?_, World.ownsRow.frozenAt h2' j⟩
      rw [World.ownsRow.cellAt h2' j hj, List.getElem?_eq_getElem (by rw [flat5_len, h1]; exact hj)]
      rfl
    · obtain ⟨a1, a2, a3, a4, a5, a6, a7⟩ := h5 j hj
      have hjx : j < xs.length := by omega
      have ex : xs[j] = elR rs[j] (c j) (cp j) := by
        rw [List.getElem?_eq_getElem hjx] at a1
        exact Option.some.inj a1
      obtain ⟨f0, f1, f2, f3, f4⟩ := flat5_at xs j hjx
      rw [ex] at f0 f1 f2 f3 f4
      refine ⟨⟨?_, ?_, ?_, ?_, ?_, a7⟩, a2, a3, a4, a5, fun e => a6 (by rw [e]; rfl)⟩
      · rw [World.ownsRow.cellAt h2' _ (by omega)]; exact f0
      · rw [World.ownsRow.cellAt h2' _ (by omega)]; exact f1
      · rw [World.ownsRow.cellAt h2' _ (by omega)]; exact f2
      · rw [World.ownsRow.cellAt h2' _ (by omega)]; exact f3
      · rw [World.ownsRow.cellAt h2' _ (by omega)]; exact f4
theorem RowsX.rws {base hi : Nat} {w : World} {a : Option Addr} {n cap : Nat} {rs : List Rw} {xs : List El} (h : RowsX base hi w (.slice a n cap) rs xs) : Rws (fun _ => True) w a rs := by
  rcases h.rows with ⟨rfl, _⟩ | ⟨g, cp, e, h1, h2, h3, h4, h5, c, cpf, h6, h7⟩
  · exact .inl rfl
  · cases e
    exact .inr ⟨g, 0, rfl, by omega, fun j hj => by
      obtain ⟨a1, a2, a3, _⟩ := h6 j hj
      rw [Nat.zero_add]; exact a1.at a2 a3⟩
theorem RowC.grown {w w' : World} {g o : Nat} {r : Rw} {c cp d : Nat} (h : RowC w g o r c cp) (hg : w.grownBy w' (some d)) (h1 : d ≠ g) (h2 : d ≠ c) : RowC w' g o r c cp := by
  obtain ⟨a0, a1, a2, a3, a4, a5⟩ := h
  have hne : some g ≠ some d := fun e => h1 (by cases e; rfl)
  exact ⟨hg.cell a0 hne, hg.cell a1 hne, hg.cell a2 hne, hg.cell a3 hne, hg.cell a4 hne, own_blk a5 (hg.block c a5.1 (fun e => h2 (by cases e; rfl))) (Nat.lt_of_lt_of_le a5.1 hg.size)⟩
theorem RowC.setg {w : World} {g o k : Nat} {r : Rw} {c cp : Nat} (h : RowC w g o r c cp) (h1 : g ≠ c) (hk : k < o ∨ o + 5 ≤ k) (u : Value) : RowC (w.setCell ⟨g, k, none⟩ u) g o r c cp := by
  obtain ⟨a0, a1, a2, a3, a4, a5⟩ := h
  refine ⟨?_, ?_, ?_, ?_, ?_, own_blk a5 (Below.heap_setCell _ _ _ _ (by dsimp only; omega)) (by simpa using a5.1)⟩
  all_goals rw [World.cell?_setCell_other _ _ _ _ (by intro e; injection e; omega)]; assumption
def tkk (k : Int) (n : Nat) : List (Int × Int) := tk (fun i => (k + 2 * (i : Int), k + 2 * (i : Int) + 1)) n
theorem tkk_len (k : Int) (n : Nat) : (tkk k n).length = n := tk_len _ _
def kk (rs : List Rw) (j : Nat) : Int := 1 + ((rs.take j).map (fun r => 4 + 2 * (r.2.2.2.2.length : Int))).sum
theorem kk_next {rs : List Rw} {j : Nat} (h : j < rs.length) : kk rs (j + 1) = kk rs j + 4 + 2 * (rs[j].2.2.2.2.length : Int) := by
  unfold kk
  rw [List.take_add_one, List.getElem?_eq_getElem h, List.map_append, List.sum_append]
  simp only [Option.toList, List.map_cons, List.map_nil, List.sum_cons, List.sum_nil]
  omega
theorem kk_bound {rs : List Rw} (hl : ∀ m (h : m < rs.length), rs[m].2.2.2.2.length ≤ 1048576) : ∀ j, j ≤ rs.length → 1 ≤ kk rs j ∧ kk rs j ≤ 1 + (j : Int) * 2097156 := by
  intro j
  induction j with
  | zero => intro _; simp [kk]
  | succ j ih =>
    intro hj
    obtain ⟨h1, h2⟩ := ih (by omega)
    have h3 := hl j (by omega)
    rw [kk_next (by omega)]
    constructor <;> omega
def mrk (rs : List Rw) : List Rw := rs.mapIdx (fun j r => (kk rs j, kk rs j + 1, kk rs j + 2, kk rs j + 3, tkk (kk rs j + 4) r.2.2.2.2.length))
theorem mrk_len (rs : List Rw) : (mrk rs).length = rs.length := by simp [mrk]
theorem mrk_at {rs : List Rw} {j : Nat} (h : j < rs.length) : (mrk rs)[j]'(by rw [mrk_len]; exact h) = (kk rs j, kk rs j + 1, kk rs j + 2, kk rs j + 3, tkk (kk rs j + 4) rs[j].2.2.2.2.length) := by simp [mrk]
set_option maxRecDepth 100000 in
set_option maxHeartbeats 1000000 in
theorem mark_ptsK (w : World) (c n cap : Nat) (ps : List (Int × Int)) (k0 : Int) (h0 : 0 ≤ k0) (h1 : k0 ≤ 4611686018427387904) (hn : n ≤ 1048576) (hp : ps.length = n) (ho : PtsOwn w c ps) : Calls Tryz.prog 86 #[.slice (some ⟨c, 0, none⟩) n cap, .int .i64 k0] w fun e w' => e = .returned (.int .i64 (k0 + 2 * (n : Int))) ∧ PtsOwn w' c (tkk k0 n) ∧ w.grownBy w' (some c) := by
  obtain ⟨hb, _, ht⟩ := ho
  rw [hp] at ht
  go_enter Tryz.func86, Tryz.ntmps86
  go_wp2_with fail
  go_loopw [1, 5] (fun tk' ti wr => ∃ k : Nat, ti = .int .i64 k ∧ tk' = .int .i64 (k0 + 2 * (k : Int)) ∧ k ≤ n ∧ Hid (c < wr.heap.size ∧ PtsAt wr c 0 (tkk k0 k) ∧ wr.there c 0 (n * 2) ∧ w.grownBy wr (some c))) (fun _ ti _ => n - (intOf ti).toNat)
  case atStart => exact ⟨0, rfl, by simp, Nat.zero_le _, hid ⟨hb, fun j hj => by rw [tkk_len] at hj; omega, ht, grown_same _ _⟩⟩
  case round =>
    obtain ⟨k, rfl, rfl, hk, HH⟩ := hrel
    by_cases hlt : k < n
    · have c1 : (k : Int) < (n : Int) := by omega
      obtain ⟨u0, hu0, g0'⟩ := there_at HH.out.2.2.1 (show k * 2 < n * 2 by omega)
      obtain ⟨u1, hu1, g1'⟩ := there_at HH.out.2.2.1 (show k * 2 + 1 < n * 2 by omega)
      have hu1' : (wr.setCell ⟨c, k * 2, none⟩ (.int .i64 (k0 + 2 * (k : Int)))).cell? ⟨c, k * 2 + 1, none⟩ = some u1 := by
        rw [World.cell?_setCell_other _ _ _ _ (by simp)]; exact hu1
      have g1'' : (wr.setCell ⟨c, k * 2, none⟩ (.int .i64 (k0 + 2 * (k : Int)))).frozen? ⟨c, k * 2 + 1, none⟩ = false := by rw [World.frozen?_setCell]; exact g1'
      go_wp2_with fail
      go_roundw
      case rel =>
        have hq : PtsAt wr c 0 ((tkk k0 n).take k) := by unfold tkk; rw [take_of _ _ _ (by omega)]; exact HH.out.2.1
        obtain ⟨r1, r2⟩ := put_point (ps := tkk k0 n) (n := n * 2) HH.out.1 (by rw [tkk_len]; exact hlt) (by rw [tkk_len]) hq HH.out.2.2.1 (k0 + 2 * (k : Int)) (k0 + 2 * (k : Int) + 1) (by unfold tkk; rw [tk_getD _ _ _ hlt]) (by unfold tkk; rw [tk_getD _ _ _ hlt])
        have hq2 : (tkk k0 n).take (k + 1) = tkk k0 (k + 1) := by unfold tkk; rw [take_of _ _ _ (by omega)]
        rw [hq2] at r1
        exact ⟨k + 1, by go_num, by go_num, by omega, hid ⟨by simpa using HH.out.1, r1, r2, grown_setb (grown_setb HH.out.2.2.2 _) _⟩⟩
      case measure => simp [intOf]; omega
    · obtain rfl : k = n := by omega
      go_wp2_with fail
      go_ret
      exact ⟨rfl, ⟨HH.out.1, HH.out.2.1, by rw [tkk_len]; exact HH.out.2.2.1⟩, HH.out.2.2.2⟩
set_option maxRecDepth 100000 in
set_option maxHeartbeats 1000000 in
theorem held_ptsK (w : World) (a : Option Addr) (cap n : Nat) (k0 : Int) (h0 : 0 ≤ k0) (h1 : k0 ≤ 4611686018427387904) (hm : n ≤ 1048576) (h : Pts w a (tkk k0 n)) : Calls Tryz.prog 87 #[.slice a n cap, .int .i64 k0] w fun e w' => e = .returned (.int .i64 (k0 + 2 * (n : Int))) ∧ w' = w := by
  have HP := hid h
  clear h
  go_enter Tryz.func87, Tryz.ntmps87
  go_wp2_with fail
  go_loopw [1, 5] (fun tk' ti wr => ∃ k : Nat, ti = .int .i64 k ∧ tk' = .int .i64 (k0 + 2 * (k : Int)) ∧ k ≤ n ∧ wr = w) (fun _ ti _ => n - (intOf ti).toNat)
  case atStart => exact ⟨0, rfl, by simp, Nat.zero_le _, rfl⟩
  case round =>
    obtain ⟨k, rfl, rfl, hk, hw⟩ := hrel
    subst hw
    by_cases hlt : k < n
    · have c1 : (k : Int) < (n : Int) := by omega
      obtain ⟨b, off, rfl, hbs, hp⟩ : ∃ b off, a = some ⟨b, off, none⟩ ∧ b < wr.heap.size ∧ PtsAt wr b off (tkk k0 n) := by
        rcases HP.out with h | h
        · have := congrArg List.length h; rw [tkk_len] at this; simp at this; omega
        · exact h
      obtain ⟨d0, d1⟩ := hp k (by rw [tkk_len]; exact hlt)
      unfold tkk at d0 d1
      rw [tk_getD _ _ _ hlt] at d0 d1
      simp only at d0 d1
      clear hp
      go_wp2_with fail
      go_roundw
      case rel => exact ⟨k + 1, by go_num, by go_num, by omega, by first | rfl | trivial⟩
      case measure => simp [intOf]; omega
    · obtain rfl : k = n := by omega
      go_wp2_with fail
      go_ret
      exact ⟨rfl, rfl⟩
end Go.Proofs.YtigjdlpjibakjaaGreat
namespace Go.Proofs.YtigjdlpjibakjaaGreat
open Go.RowKit
set_option linter.unusedSimpArgs false
set_option linter.unusedVariables false
/-- A row at a place, of any length. -/
def RwL (w : World) (b o : Nat) (r : Rw) : Prop :=
  ∃ a cap, w.cell? ⟨b, o, none⟩ = some (.int .i64 r.1) ∧ w.cell? ⟨b, o + 1, none⟩ = some (.int .i64 r.2.1) ∧ w.cell? ⟨b, o + 2, none⟩ = some (.int .i64 r.2.2.1) ∧ w.cell? ⟨b, o + 3, none⟩ = some (.int .i64 r.2.2.2.1) ∧ w.cell? ⟨b, o + 4, none⟩ = some (.slice a r.2.2.2.2.length cap) ∧ r.2.2.2.2.length ≤ cap ∧ r.2.2.2.2.length ≤ 9223372036854775807 ∧ Pts w a r.2.2.2.2
def RwsL (w : World) (a : Option Addr) (rs : List Rw) : Prop := rs = [] ∨ ∃ b o, a = some ⟨b, o, none⟩ ∧ b < w.heap.size ∧ ∀ j (h : j < rs.length), RwL w b (o + j * 5) rs[j]
theorem RwL.below {w w' : World} {b o : Nat} {r : Rw} (hb : b < w.heap.size) (h : RwL w b o r) (H : Below w.heap.size w w') : RwL w' b o r := by
  obtain ⟨a, cap, h0, h1, h2, h3, h4, h5, h6, h7⟩ := h
  exact ⟨a, cap, keepcell H h0, keepcell H h1, keepcell H h2, keepcell H h3, keepcell H h4, h5, h6, h7.below H⟩
theorem RwsL.below {w w' : World} {a : Option Addr} {rs : List Rw} (h : RwsL w a rs) (H : Below w.heap.size w w') : RwsL w' a rs := by
  rcases h with h | ⟨b, o, h1, h2, h3⟩
  · exact .inl h
  · exact .inr ⟨b, o, h1, Nat.lt_of_lt_of_le h2 H.size, fun j hj => (h3 j hj).below h2 H⟩
theorem RwsL.at {w : World} {a : Option Addr} {rs : List Rw} (h : RwsL w a rs) (j : Nat) (hj : j < rs.length) : ∃ b o, a = some ⟨b, o, none⟩ ∧ b < w.heap.size ∧ RwL w b (o + j * 5) rs[j] := by
  rcases h with h | ⟨b, o, h1, h2, h3⟩
  · subst h; exact absurd hj (by simp)
  · exact ⟨b, o, h1, h2, h3 j hj⟩
theorem RwsL.rws {w : World} {a : Option Addr} {rs : List Rw} (h : RwsL w a rs) (hl : ∀ m (h : m < rs.length), rs[m].2.2.2.2.length ≤ 1048576) : Rws (fun _ => True) w a rs := by
  rcases h with h | ⟨b, o, h1, h2, h3⟩
  · exact .inl h
  · refine .inr ⟨b, o, h1, h2, fun j hj => ?_⟩
    obtain ⟨a, cap, k0, k1, k2, k3, k4, k5, k6, k7⟩ := h3 j hj
    have := hl j hj
    exact ⟨a, cap, k0, k1, k2, k3, k4, k5, by omega, k7, fun _ _ _ => trivial⟩
set_option maxHeartbeats 1000000 in
theorem sz_rowL (r : Rw) (a : Option Addr) (cap : Nat) (left : Int) (w : World) (hm : r.2.2.2.2.length ≤ 9223372036854775807) (h0 : 0 ≤ left) (h1 : left ≤ 1048576) : Calls Tryz.prog 67 #[rwv r a cap, .int .i64 left] w fun e w' => (∃ v : Int, e = .returned (.int .i64 v) ∧ (v = -1 ∨ (0 ≤ v ∧ v ≤ 1048576 ∧ r.2.2.2.2.length ≤ 1048576))) ∧ Below w.heap.size w w' := by
  obtain ⟨id, fr, te, kd, ps⟩ := r
  unfold rwv
  simp only at *
  by_cases h : left < (ps.length : Int)
  · go_enter Tryz.func67, Tryz.ntmps67
    go_wp2_with fail
    refine (szs_big kd a ps.length cap left _ (by omega) h0 h1 h).mono ?_
    rintro e w1 ⟨rfl, hb⟩
    go_wp2_with fail
    go_ret
    exact ⟨⟨_, rfl, .inl rfl⟩, btrans (balloc (Below.refl _ _) _) hb⟩
  · have h2 : ¬ (left - (ps.length : Int) < 0) := by omega
    go_enter Tryz.func67, Tryz.ntmps67
    go_wp2_with fail
    refine (szs_ok kd a ps.length cap left _ h0 h1 (by omega)).mono ?_
    rintro e w1 ⟨rfl, hb⟩
    go_wp2_with fail
    go_ret
    exact ⟨⟨_, rfl, .inr ⟨by omega, by omega, by omega⟩⟩, btrans (balloc (Below.refl _ _) _) hb⟩
set_option maxHeartbeats 1000000 in
theorem sz_rowsL (a : Option Addr) (cap : Nat) (rs : List Rw) (left : Int) (w : World) (hm : rs.length ≤ 9223372036854775807) (h0 : 0 ≤ left) (h1 : left ≤ 1048576) (h : RwsL w a rs) : Calls Tryz.prog 34 #[.slice a rs.length cap, .int .i64 left] w fun e w' => (∃ v : Int, e = .returned (.int .i64 v) ∧ (v = -1 ∨ (0 ≤ v ∧ v ≤ 1048576 ∧ Hid (rs.length ≤ 1048576 ∧ ∀ m (h : m < rs.length), rs[m].2.2.2.2.length ≤ 1048576)))) ∧ Below w.heap.size w w' := by
  have HR := hid h
  clear h
  by_cases hb : left < (rs.length : Int)
  · have h2 : left - (rs.length : Int) < 0 := by omega
    go_enter Tryz.func34, Tryz.ntmps34
    go_wp2_with fail
    go_ret
    exact ⟨⟨_, rfl, .inl rfl⟩, Below.refl _ _⟩
  · have h2 : ¬ (left - (rs.length : Int) < 0) := by omega
    go_enter Tryz.func34, Tryz.ntmps34
    go_wp2_with fail
    go_loopw [5, 1] (fun ti tl wr => ∃ j : Nat, ∃ l : Int, ti = .int .i64 j ∧ tl = .int .i64 l ∧ j ≤ rs.length ∧ 0 ≤ l ∧ l ≤ 1048576 ∧ Hid (∀ m (h : m < rs.length), m < j → rs[m].2.2.2.2.length ≤ 1048576) ∧ Hid (Below w.heap.size w wr)) (fun ti _ _ => rs.length - (intOf ti).toNat)
    case atStart => exact ⟨0, _, rfl, rfl, Nat.zero_le _, by omega, by omega, hid (fun m h hh => absurd hh (by omega)), hid (Below.refl _ _)⟩
    case round =>
      obtain ⟨j, l, rfl, rfl, hj, hl0, hl1, HM, HB⟩ := hrel
      by_cases hlt : j < rs.length
      · have c1 : (j : Int) < (rs.length : Int) := by omega
        obtain ⟨b, o, rfl, hbs, hr⟩ := (HR.out.below HB.out).at j hlt
        have hmr : rs[j].2.2.2.2.length ≤ 9223372036854775807 := by obtain ⟨_, _, _, _, _, _, _, _, h6, _⟩ := hr; exact h6
        have HX : Hid (rs[j].2.2.2.2.length ≤ 1048576 → ∀ m (h : m < rs.length), m < j + 1 → rs[m].2.2.2.2.length ≤ 1048576) := hid (fun hx m h hm => by
          by_cases e : m = j
          · subst e; exact hx
          · exact HM.out m h (by omega))
        obtain ⟨a', cap', k0, k1, k2, k3, k4, k5, k6, k7⟩ := hr
        have S := hid (fun w' => sz_rowL rs[j] a' cap' l w' hmr hl0 hl1)
        unfold rwv at S
        generalize rs[j].1 = id at *
        generalize rs[j].2.1 = fr at *
        generalize rs[j].2.2.1 = te at *
        generalize rs[j].2.2.2.1 = kd at *
        generalize rs[j].2.2.2.2 = ps at *
        clear k7 k5 k6 hmr
        go_wp2_with fail
        refine (S.out _).mono ?_
        rintro e w1 ⟨⟨v, rfl, hv⟩, hb1⟩
        have hB := btrans HB.out hb1
        rcases hv with rfl | ⟨hv0, hv1, hv3⟩
        · go_wp2_with fail
          go_ret
          exact ⟨⟨_, rfl, .inl rfl⟩, hB⟩
        · have hv2 : ¬ v < 0 := by omega
          have HX2 := hid (HX.out hv3)
          clear hv3
          go_wp2_with fail
          go_roundw
          case rel => exact ⟨j + 1, v, by go_num, rfl, by omega, hv0, hv1, HX2, hid hB⟩
          case measure => simp [intOf]; omega
      · have c1 : (rs.length : Int) ≤ (j : Int) := by omega
        go_wp2_with fail
        go_ret
        exact ⟨⟨_, rfl, .inr ⟨hl0, hl1, hid ⟨by omega, fun m h => HM.out m h (by omega)⟩⟩⟩, HB.out⟩
set_option maxHeartbeats 1000000 in
theorem sz_allL (now : Int) (a : Option Addr) (cap : Nat) (rs : List Rw) (w : World) (hm : rs.length ≤ 9223372036854775807) (h : RwsL w a rs) : Calls Tryz.prog 14 #[.agg #[.int .i64 now, .slice a rs.length cap], .int .i64 1048576] w fun e w' => (∃ v : Int, e = .returned (.int .i64 v) ∧ (v = -1 ∨ (0 ≤ v ∧ v ≤ 1048576 ∧ Hid (rs.length ≤ 1048576 ∧ ∀ m (h : m < rs.length), rs[m].2.2.2.2.length ≤ 1048576)))) ∧ Below w.heap.size w w' := by
  have HR := hid (fun (W : World) (hb : Below w.heap.size w W) => sz_rowsL a cap rs 1048576 W hm (by omega) (by omega) (h.below hb))
  clear h
  obtain ⟨G, hG⟩ : ∃ G : Prop, G = (rs.length ≤ 1048576 ∧ ∀ m (h : m < rs.length), rs[m].2.2.2.2.length ≤ 1048576) := ⟨_, rfl⟩
  have HR2 : Hid (∀ (W : World), Below w.heap.size w W → Calls Tryz.prog 34 #[.slice a rs.length cap, .int .i64 1048576] W fun e w' => (∃ v : Int, e = .returned (.int .i64 v) ∧ (v = -1 ∨ (0 ≤ v ∧ v ≤ 1048576 ∧ Hid G))) ∧ Below W.heap.size W w') := hid (by rw [hG]; exact HR.out)
  rw [← hG]
  clear hG HR
  generalize rs.length = n at *
  go_enter Tryz.func14, Tryz.ntmps14
  go_wp2_with fail
  refine (HR2.out _ (balloc (Below.refl _ _) _)).mono ?_
  rintro e w1 ⟨⟨v, rfl, hv⟩, hb⟩
  have hB := btrans (balloc (Below.refl _ w) _) hb
  rcases hv with rfl | ⟨hv0, hv1, HV⟩
  · go_wp2_with fail
    go_ret
    exact ⟨⟨_, rfl, .inl rfl⟩, hB⟩
  · have hv2 : ¬ v < 0 := by omega
    go_wp2_with fail
    go_ret
    exact ⟨⟨_, rfl, .inr ⟨hv0, hv1, HV⟩⟩, hB⟩
theorem cellsRow : Tryz.prog.cellsOf 101 = 5 := by kernel_rfl
theorem cellsShape : Tryz.prog.cellsOf 99 = 2 := by kernel_rfl
theorem cellsPoint : Tryz.prog.cellsOf 160 = 2 := by kernel_rfl
theorem open_points {H : Type} {enc : TypeId × Value → H} {W : World} {base fuel : Nat} {v : Value} {x : DataW H × List MemPlace} (h : DataW.trod enc Tryz.prog W base (fun _ => true) true fuel 97 [v] = some x) : ∃ (a : Option Addr) (cap : Nat) (ps : List (Int × Int)), v = .slice a ps.length cap ∧ PtsIn W a cap ps := by
  rcases Go.Deep.open_slice_pairs Tryz.underlying97 Tryz.underlying160 cellsPoint rfl rfl (by kernel_rfl) (by kernel_rfl) h with ⟨hcs, _⟩ | ⟨x, l, c, m, n, V0, V1, D0, D1, P0, P1, hcs, _, hl, hm, hmm, _, hall⟩
  · simp at hcs
    exact ⟨none, 0, [], hcs, ptsIn_nil _ _⟩
  · simp at hcs
    obtain ⟨ps, hp, hw⟩ := ptsIn_of hl hm (fun j hj => by
      obtain ⟨h1, h2, h3, h4⟩ := hall j (by rw [hmm]; simp; omega)
      obtain ⟨z0, e0, _, y0⟩ := DataW.trod_int Tryz.underlying3 h3
      obtain ⟨z1, e1, _, y1⟩ := DataW.trod_int Tryz.underlying3 h4
      simp at e0 e1
      exact ⟨z0, z1, by rw [h1, e0], by rw [h2, e1], y0, y1⟩)
    exact ⟨some x, c, ps, by rw [hcs, hp], hw⟩
set_option maxRecDepth 100000 in
theorem open_row {H : Type} {enc : TypeId × Value → H} {W : World} {base fuel : Nat} {cs : List Value} {x : DataW H × List MemPlace} (h : DataW.trod enc Tryz.prog W base (fun _ => true) true fuel 101 cs = some x) : ∃ (r : Rw) (a : Option Addr) (cap : Nat), cs = [.int .i64 r.1, .int .i64 r.2.1, .int .i64 r.2.2.1, .int .i64 r.2.2.2.1, .slice a r.2.2.2.2.length cap] ∧ PtsIn W a cap r.2.2.2.2 := by
  obtain ⟨xs, n, _, _, hlen, hxl, hf⟩ := DataW.trod_struct Tryz.underlying101 h
  rw [cellsRow] at hlen
  match xs, hxl, cs, hlen with
  | [y0, y1, y2, y3], _, [v0, v1, v2, v3, v4], _ =>
    have g0 : DataW.trod enc Tryz.prog W base (fun _ => true) true n 3 (([v0, v1, v2, v3, v4].drop 0).take (Tryz.prog.cellsOf 3)) = some y0 := hf 0 _ rfl
    have g1 : DataW.trod enc Tryz.prog W base (fun _ => true) true n 3 (([v0, v1, v2, v3, v4].drop 1).take (Tryz.prog.cellsOf 3)) = some y1 := hf 1 _ rfl
    have g2 : DataW.trod enc Tryz.prog W base (fun _ => true) true n 3 (([v0, v1, v2, v3, v4].drop 2).take (Tryz.prog.cellsOf 3)) = some y2 := hf 2 _ rfl
    have g3 : DataW.trod enc Tryz.prog W base (fun _ => true) true n 99 (([v0, v1, v2, v3, v4].drop 3).take (Tryz.prog.cellsOf 99)) = some y3 := hf 3 _ rfl
    rw [show Tryz.prog.cellsOf 3 = 1 by kernel_rfl] at g0 g1 g2
    rw [cellsShape] at g3
    simp at g0 g1 g2 g3
    obtain ⟨z0, e0, _, _⟩ := DataW.trod_int Tryz.underlying3 g0
    obtain ⟨z1, e1, _, _⟩ := DataW.trod_int Tryz.underlying3 g1
    obtain ⟨z2, e2, _, _⟩ := DataW.trod_int Tryz.underlying3 g2
    obtain ⟨xs', n', _, _, _, hxl', hf'⟩ := DataW.trod_struct Tryz.underlying99 g3
    match xs', hxl' with
    | [u0, u1], _ =>
      have q0 : DataW.trod enc Tryz.prog W base (fun _ => true) true n' 3 (([v3, v4].drop 0).take (Tryz.prog.cellsOf 3)) = some u0 := hf' 0 _ rfl
      have q1 : DataW.trod enc Tryz.prog W base (fun _ => true) true n' 97 (([v3, v4].drop 1).take (Tryz.prog.cellsOf 97)) = some u1 := hf' 1 _ rfl
      rw [show Tryz.prog.cellsOf 3 = 1 by kernel_rfl] at q0
      rw [show Tryz.prog.cellsOf 97 = 1 by kernel_rfl] at q1
      simp at q0 q1
      obtain ⟨z3, e3, _, _⟩ := DataW.trod_int Tryz.underlying3 q0
      obtain ⟨a, cap, ps, e4, hp⟩ := open_points q1
      simp at e0 e1 e2 e3
      exact ⟨(z0, z1, z2, z3, ps), a, cap, by simp [e0, e1, e2, e3, e4], hp⟩
theorem open_rows {H : Type} {enc : TypeId × Value → H} {W : World} {base fuel : Nat} {v : Value} {x : DataW H × List MemPlace} (h : DataW.trod enc Tryz.prog W base (fun _ => true) true fuel 22 [v] = some x) : ∃ (a : Option Addr) (cap : Nat) (rs : List Rw), v = .slice a rs.length cap ∧ rs.length ≤ 9223372036854775807 ∧ RwsL W a rs := by
  rcases Go.Deep.open_slice Tryz.underlying22 h with ⟨hcs, _⟩ | ⟨a, len, cap, m, n, D, Pl, hcs, _, hl, hm, hmm, _, hall⟩
  · simp at hcs
    exact ⟨none, 0, [], hcs, by simp, .inl rfl⟩
  · simp at hcs
    have hlm : len ≤ m := by rw [hmm]; simp; exact hl
    have hM : len ≤ 9223372036854775807 := Nat.le_trans hl hm
    by_cases h0 : len = 0
    · subst h0
      exact ⟨some a, cap, [], hcs, by simp, .inl rfl⟩
    rw [cellsRow] at hall
    have each : ∀ j : Nat, ∃ r : Rw, j < len → ∃ (a' : Option Addr) (cap' : Nat), W.cells? base (a.add (j * 5)) 5 = some [.int .i64 r.1, .int .i64 r.2.1, .int .i64 r.2.2.1, .int .i64 r.2.2.2.1, .slice a' r.2.2.2.2.length cap'] ∧ PtsIn W a' cap' r.2.2.2.2 := by
      intro j
      by_cases hj : j < len
      · obtain ⟨cs', h1, h2⟩ := hall j (by omega)
        obtain ⟨r, a', cap', e, hp⟩ := open_row h2
        subst e
        exact ⟨r, fun _ => ⟨a', cap', h1, hp⟩⟩
      · exact ⟨(0, 0, 0, 0, []), fun h' => absurd h' hj⟩
    have ⟨f, hf⟩ := Classical.axiomOfChoice each
    have hspot : a.spot = none := by
      obtain ⟨_, _, h1, _⟩ := hf 0 (by omega)
      have h00 := (World.cells?_some h1).2.2 0 (by omega)
      simp only [Nat.zero_mul, Addr.add, if_true] at h00
      unfold World.cell? at h00
      split at h00
      · split at h00
        · cases h00
        · rename_i q; simpa using q
      · cases h00
    obtain ⟨b, o, s⟩ := a
    simp only at hspot
    subst hspot
    have hblk : b < W.heap.size := by
      obtain ⟨_, _, h1, _⟩ := hf 0 (by omega)
      have h00 := (World.cells?_some h1).2.2 0 (by omega)
      rw [Go.Deep.add_add, Addr.add_mid] at h00
      exact World.block_lt_of_cell? W _ (h00.trans rfl)
    refine ⟨some ⟨b, o, none⟩, cap, (List.range len).map f, by simpa using hcs, by simpa using hM, .inr ⟨b, o, rfl, hblk, fun j hj => ?_⟩⟩
    simp only [List.length_map, List.length_range] at hj
    have e : ((List.range len).map f)[j]'(by simpa using hj) = f j := by simp
    rw [e]
    obtain ⟨a', cap', h1, hp⟩ := hf j hj
    have hc := (World.cells?_some h1).2.2
    have c0 := hc 0 (by omega)
    have c1 := hc 1 (by omega)
    have c2 := hc 2 (by omega)
    have c3 := hc 3 (by omega)
    have c4 := hc 4 (by omega)
    rw [Go.Deep.add_add, Addr.add_mid] at c0 c1 c2 c3 c4
    exact ⟨a', cap', c0, c1, c2, c3, c4, hp.2.1, Nat.le_trans hp.2.1 hp.2.2, hp.1⟩
end Go.Proofs.YtigjdlpjibakjaaGreat
