/- Texts of stores, joined: RwM. -/
import Derived.Test.YtenlhgnobfadgaaGreatDoorRows
set_option linter.unusedSimpArgs false
set_option linter.unusedVariables false
namespace Go.Proofs.YtenlhgnobfadgaaGreatDoor
/-- A row's Id, From and To. -/
abbrev Tr : Type := Int × Int × Int
def thr (r : Tr) (at_ : Int) : Bool := decide (r.2.1 ≤ at_) && (decide (r.2.2 = 0) || decide (at_ < r.2.2))
def clash (x y : Tr) : Bool := decide (y.1 = x.1) && (thr x y.2.1 || thr y x.2.1)
theorem clash_comm (x y : Tr) : clash x y = clash y x := by
  unfold clash
  rw [Bool.or_comm]
  congr 1
  exact decide_eq_decide.2 ⟨fun h => h.symm, fun h => h.symm⟩
/-- A row's time is one: it begins at 1 or later, and ends, where it does, behind its beginning. -/
def tmb (r : Tr) : Prop := 1 ≤ r.2.1 ∧ (r.2.2 = 0 ∨ r.2.1 < r.2.2)
def lex (x y : Tr) : Prop := x.1 < y.1 ∨ (x.1 = y.1 ∧ x.2.1 ≤ y.2.1)
/-- What is asked of neighbours. -/
def nbr (x y : Tr) : Bool := decide (x.1 = y.1) && thr x y.2.1
theorem nbr_clash {x y : Tr} (h : clash x y = false) : nbr x y = false := by
  unfold nbr
  unfold clash at h
  by_cases he : x.1 = y.1
  · simp only [he, decide_true, Bool.true_and, Bool.or_eq_false_iff] at h ⊢
    exact h.1
  · simp [he]
theorem far_clash {x y z : Tr} (hx : tmb x) (h1 : nbr x y = false) (l1 : lex x y) (l2 : lex y z) : clash x z = false := by
  unfold clash
  by_cases he : z.1 = x.1
  · have hid : x.1 = y.1 := by unfold lex at l1 l2; omega
    have hfr : y.2.1 ≤ z.2.1 := by unfold lex at l1 l2; omega
    have hxy : x.2.1 ≤ y.2.1 := by unfold lex at l1 l2; omega
    unfold nbr at h1
    simp only [hid, decide_true, Bool.true_and] at h1
    unfold thr at h1 ⊢
    unfold tmb at hx
    simp only [Bool.and_eq_false_iff, Bool.or_eq_false_iff, decide_eq_false_iff_not] at h1 ⊢
    right
    constructor
    · right
      omega
    · left
      omega
  · simp [he]
theorem near_clash {x y : Tr} (hx : tmb x) (h1 : nbr x y = false) (l1 : lex x y) : clash x y = false := far_clash hx h1 l1 (.inr ⟨rfl, Int.le_refl _⟩)
/-- Neighbours told one by one. -/
def nbrs : List Tr → Bool
  | [] => true
  | [_] => true
  | x :: y :: r => !nbr x y && nbrs (y :: r)
theorem nbrs_of : ∀ (l : List Tr), l.Pairwise (fun x y => clash x y = false) → nbrs l = true
  | [], _ => rfl
  | [_], _ => rfl
  | x :: y :: r, h => by
    have h' := List.pairwise_cons.1 h
    simp only [nbrs, Bool.and_eq_true, Bool.not_eq_true']
    exact ⟨nbr_clash (h'.1 y (List.mem_cons_self ..)), nbrs_of (y :: r) h'.2⟩
theorem of_nbrs : ∀ (l : List Tr), (∀ x ∈ l, tmb x) → l.Pairwise lex → nbrs l = true → l.Pairwise (fun x y => clash x y = false)
  | [], _, _, _ => List.Pairwise.nil
  | [_], _, _, _ => List.pairwise_singleton _ _
  | x :: y :: r, ht, hl, hn => by
    simp only [nbrs, Bool.and_eq_true, Bool.not_eq_true'] at hn
    have hl' := List.pairwise_cons.1 hl
    refine List.pairwise_cons.2 ⟨fun z hz => ?_, of_nbrs (y :: r) (fun x hx => ht x (List.mem_cons_of_mem _ hx)) hl'.2 hn.2⟩
    rcases List.mem_cons.1 hz with rfl | hz
    · exact near_clash (ht x (List.mem_cons_self ..)) hn.1 (hl'.1 z (List.mem_cons_self ..))
    · exact far_clash (ht x (List.mem_cons_self ..)) hn.1 (hl'.1 y (List.mem_cons_self ..)) ((List.pairwise_cons.1 hl'.2).1 z hz)
/-- No two of a list clash. -/
def apartR : List Tr → Bool
  | [] => true
  | x :: r => r.all (fun y => !clash x y) && apartR r
theorem apartR_iff : ∀ (l : List Tr), apartR l = true ↔ l.Pairwise (fun x y => clash x y = false)
  | [] => by simp [apartR]
  | x :: r => by
    rw [apartR, Bool.and_eq_true, List.pairwise_cons, apartR_iff r, List.all_eq_true]
    simp
theorem apartR_sorted {l s : List Tr} (hp : s.Perm l) (ht : ∀ x ∈ l, tmb x) (hs : s.Pairwise lex) : apartR l = nbrs s := by
  have hsym : ∀ {x y : Tr}, clash x y = false → clash y x = false := fun {x y} h => by rw [clash_comm]; exact h
  have e : l.Pairwise (fun x y => clash x y = false) ↔ s.Pairwise (fun x y => clash x y = false) := (hp.pairwise_iff (fun h => hsym h)).symm
  have hts : ∀ x ∈ s, tmb x := fun x hx => ht x (hp.mem_iff.1 hx)
  cases hn : nbrs s
  · cases ha : apartR l
    · rfl
    · rw [nbrs_of s (e.1 ((apartR_iff l).1 ha))] at hn; cases hn
  · exact (apartR_iff l).2 (e.2 (of_nbrs s hts hs hn))
/-- What the specification's two loops tell: row i against the rows ahead of it. -/
def upTo (l : List Tr) (i : Nat) : Bool := apartR (l.take i)
theorem apartR_snoc : ∀ (l : List Tr) (x : Tr), apartR (l ++ [x]) = (apartR l && l.all (fun y => !clash y x))
  | [], x => by simp [apartR]
  | y :: r, x => by
    rw [List.cons_append, apartR, apartR_snoc r x, apartR, List.all_append, List.all_cons]
    simp only [List.all_cons, List.all_nil, Bool.and_true]
    cases r.all (fun z => !clash y z) <;> cases apartR r <;> cases r.all (fun z => !clash z x) <;> cases clash y x <;> rfl
end Go.Proofs.YtenlhgnobfadgaaGreatDoor
