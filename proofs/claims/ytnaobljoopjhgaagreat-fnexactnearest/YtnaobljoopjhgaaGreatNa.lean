/- A heap of pairs, the least on top: mathematics. -/
import Derived.Test.YtnaobljoopjhgaaGreatRwM
namespace Go.Proofs.YtnaobljoopjhgaaGreat
set_option linter.unusedSimpArgs false
set_option linter.unusedVariables false
/-- A candidate: its id, and how far it is. -/
abbrev Cn : Type := Int × Int
def ltc (x y : Cn) : Prop := x.2 < y.2 ∨ (x.2 = y.2 ∧ x.1 < y.1)
def lec (x y : Cn) : Prop := x.2 < y.2 ∨ (x.2 = y.2 ∧ x.1 ≤ y.1)
theorem lec_of {x y : Cn} (h : ¬ ltc y x) : lec x y := by unfold ltc at h; unfold lec; omega
theorem lec_trans {x y z : Cn} (h : lec x y) (k : lec y z) : lec x z := by unfold lec at *; omega
theorem lec_of_lt {x y : Cn} (h : ltc x y) : lec x y := by unfold ltc at h; unfold lec; omega
theorem lec_refl (x : Cn) : lec x x := by unfold lec; omega
def at_ (hs : List Cn) (i : Nat) : Cn := hs.getD i (0, 0)
def swp (hs : List Cn) (i j : Nat) : List Cn := (hs.set i (at_ hs j)).set j (at_ hs i)
theorem swp_len (hs : List Cn) (i j : Nat) : (swp hs i j).length = hs.length := by simp [swp]
theorem at_set {hs : List Cn} {i k : Nat} {x : Cn} (hi : i < hs.length) : at_ (hs.set i x) k = if k = i then x else at_ hs k := by
  unfold at_
  rw [List.getD_eq_getElem?_getD, List.getElem?_set, List.getD_eq_getElem?_getD]
  by_cases h : i = k
  · subst h; simp [hi]
  · rw [if_neg h, if_neg (fun e => h e.symm)]
theorem at_swp {hs : List Cn} {i j k : Nat} (hi : i < hs.length) (hj : j < hs.length) : at_ (swp hs i j) k = if k = j then at_ hs i else if k = i then at_ hs j else at_ hs k := by
  unfold swp
  rw [at_set (by simpa using hj), at_set hi]
theorem set_perm {hs : List Cn} {i : Nat} {x : Cn} (hi : i < hs.length) : (hs[i] :: hs.set i x).Perm (x :: hs) := by
  induction hs generalizing i with
  | nil => simp at hi
  | cons y r ih =>
    cases i with
    | zero => simpa using List.Perm.swap x y r
    | succ i =>
      have hi' : i < r.length := by simpa using hi
      simp only [List.getElem_cons_succ, List.set_cons_succ]
      exact ((List.Perm.swap _ _ _).trans (List.Perm.cons y (ih hi'))).trans (List.Perm.swap _ _ _)
theorem at_lt {hs : List Cn} {i : Nat} (h : i < hs.length) : at_ hs i = hs[i] := by
  unfold at_; rw [List.getD_eq_getElem?_getD, List.getElem?_eq_getElem h]; rfl
theorem swp_perm {hs : List Cn} {i j : Nat} (hi : i < hs.length) (hj : j < hs.length) : (swp hs i j).Perm hs := by
  unfold swp
  have h1 := set_perm (x := at_ hs j) hi
  have hj' : j < (hs.set i (at_ hs j)).length := by simpa using hj
  have h2 := set_perm (x := at_ hs i) hj'
  have e : (hs.set i (at_ hs j))[j] = at_ hs j := by
    rw [List.getElem_set]
    split
    · rfl
    · exact (at_lt hj).symm
  rw [e] at h2
  have h3 := (h2.trans (by rw [at_lt hi]; exact h1) : (at_ hs j :: (hs.set i (at_ hs j)).set j (at_ hs i)).Perm (at_ hs j :: hs))
  exact h3.cons_inv
def Hp (hs : List Cn) (n : Nat) : Prop := ∀ k, 0 < k → k < n → lec (at_ hs ((k - 1) / 2)) (at_ hs k)
/-- A heap but for the place j, which may be less than its parent. -/
def UpI (hs : List Cn) (j : Nat) : Prop := j < hs.length ∧ (∀ k, 0 < k → k < hs.length → k ≠ j → lec (at_ hs ((k - 1) / 2)) (at_ hs k)) ∧ (∀ k, 0 < k → k < hs.length → (k - 1) / 2 = j → 0 < j → lec (at_ hs ((j - 1) / 2)) (at_ hs k))
theorem up_end {hs : List Cn} {j : Nat} (h : UpI hs j) (hj : j = 0 ∨ lec (at_ hs ((j - 1) / 2)) (at_ hs j)) : Hp hs hs.length := by
  intro k h0 hk
  by_cases e : k = j
  · subst e
    rcases hj with hj | hj
    · omega
    · exact hj
  · exact h.2.1 k h0 hk e
theorem up_step {hs : List Cn} {j : Nat} (h : UpI hs j) (h0 : 0 < j) (hl : ltc (at_ hs j) (at_ hs ((j - 1) / 2))) : UpI (swp hs ((j - 1) / 2) j) ((j - 1) / 2) := by
  obtain ⟨hj, h1, h2⟩ := h
  have hi : (j - 1) / 2 < hs.length := by omega
  have hij : (j - 1) / 2 < j := by omega
  refine ⟨by rw [swp_len]; exact hi, fun k k0 kl kn => ?_, fun k k0 kl ke kz => ?_⟩
  · rw [swp_len] at kl
    rw [at_swp hi hj, at_swp hi hj]
    by_cases e1 : k = j
    · subst e1
      rw [if_neg (by omega), if_pos rfl, if_pos rfl]
      exact lec_of_lt hl
    · rw [if_neg e1, if_neg kn]
      by_cases e2 : (k - 1) / 2 = j
      · rw [if_pos e2]
        exact h2 k k0 kl e2 h0
      · rw [if_neg e2]
        by_cases e3 : (k - 1) / 2 = (j - 1) / 2
        · rw [if_pos e3]
          have := h1 k k0 kl e1
          rw [e3] at this
          exact lec_trans (lec_of_lt hl) this
        · rw [if_neg e3]
          exact h1 k k0 kl e1
  · rw [swp_len] at kl
    have hp : ((j - 1) / 2 - 1) / 2 < (j - 1) / 2 := by omega
    rw [at_swp hi hj, at_swp hi hj, if_neg (by omega), if_neg (by omega)]
    have hpp := h1 ((j - 1) / 2) kz (by omega) (by omega)
    by_cases e1 : k = j
    · subst e1
      rw [if_pos rfl]
      exact hpp
    · rw [if_neg e1, if_neg (by omega)]
      have := h1 k k0 kl e1
      rw [ke] at this
      exact lec_trans hpp this
/-- A heap of the first n but for the place i, which may be more than its children. -/
def DnI (hs : List Cn) (n i : Nat) : Prop := (∀ k, 0 < k → k < n → (k - 1) / 2 ≠ i → lec (at_ hs ((k - 1) / 2)) (at_ hs k)) ∧ (∀ k, 0 < k → k < n → (k - 1) / 2 = i → 0 < i → lec (at_ hs ((i - 1) / 2)) (at_ hs k))
theorem dn_end {hs : List Cn} {n i : Nat} (h : DnI hs n i) (hc : ∀ k, 0 < k → k < n → (k - 1) / 2 = i → lec (at_ hs i) (at_ hs k)) : Hp hs n := by
  intro k h0 hk
  by_cases e : (k - 1) / 2 = i
  · rw [e]; exact hc k h0 hk e
  · exact h.1 k h0 hk e
theorem dn_step {hs : List Cn} {n i j : Nat} (hn : n ≤ hs.length) (h : DnI hs n i) (h0 : 0 < j) (hj : j < n) (hp : (j - 1) / 2 = i) (hl : ltc (at_ hs j) (at_ hs i)) (hm : ∀ k, 0 < k → k < n → (k - 1) / 2 = i → lec (at_ hs j) (at_ hs k)) : DnI (swp hs i j) n j := by
  obtain ⟨h1, h2⟩ := h
  have hil : i < hs.length := by omega
  have hjl : j < hs.length := by omega
  refine ⟨fun k k0 kl kn => ?_, fun k k0 kl ke kz => ?_⟩
  · rw [at_swp hil hjl, at_swp hil hjl]
    rw [if_neg kn]
    by_cases e1 : k = j
    · subst e1
      rw [if_pos hp, if_pos rfl]
      exact lec_of_lt hl
    · rw [if_neg e1]
      by_cases e2 : (k - 1) / 2 = i
      · rw [if_pos e2, if_neg (by omega)]
        exact hm k k0 kl e2
      · rw [if_neg e2]
        by_cases e3 : k = i
        · subst e3
          rw [if_pos rfl]
          exact h2 j h0 hj hp k0
        · rw [if_neg e3]
          exact h1 k k0 kl e2
  · rw [at_swp hil hjl, at_swp hil hjl, if_neg (by omega), if_pos hp, if_neg (by omega), if_neg (by omega)]
    have := h1 k k0 kl (by omega)
    rw [ke] at this
    exact this
theorem hp_root {hs : List Cn} {n : Nat} (h : Hp hs n) : ∀ k, k < n → lec (at_ hs 0) (at_ hs k) := by
  intro k
  induction k using Nat.strongRecOn with
  | ind k ih =>
    intro hk
    by_cases e : k = 0
    · subst e; exact lec_refl _
    · exact lec_trans (ih ((k - 1) / 2) (by omega) (by omega)) (h k (by omega) hk)
def leb (x y : Cn) : Bool := decide (x.2 < y.2) || (decide (x.2 = y.2) && decide (x.1 ≤ y.1))
theorem leb_iff (x y : Cn) : leb x y = true ↔ lec x y := by simp [leb, lec]
def srtc (l : List Cn) : List Cn := l.mergeSort leb
/-- The nearest: the first k ids, the nearest first. -/
def near (l : List Cn) (k : Nat) : List Int := ((srtc l).take k).map (fun x => x.1)
theorem srtc_sorted (l : List Cn) : (srtc l).Pairwise lec := by
  have := List.pairwise_mergeSort (le := leb) (by intro a b c h1 h2; rw [leb_iff] at *; exact lec_trans h1 h2) (by intro a b; simp [leb]; omega) l
  exact this.imp (fun h => (leb_iff _ _).1 h)
theorem srtc_of {l out : List Cn} (hp : out.Perm l) (hs : out.Pairwise lec) : out = srtc l := by
  refine List.Perm.eq_of_pairwise (le := lec) (fun a b _ _ h k => ?_) hs (srtc_sorted l) (hp.trans (List.mergeSort_perm l _).symm)
  unfold lec at h k
  exact Prod.ext (by omega) (by omega)
theorem near_of {l out rest : List Cn} (hp : (out ++ rest).Perm l) (hs : out.Pairwise lec) (hr : ∀ x ∈ out, ∀ y ∈ rest, lec x y) : near l out.length = out.map (fun x => x.1) := by
  have h : out ++ srtc rest = srtc l := by
    refine srtc_of ((List.Perm.append_left out (List.mergeSort_perm rest _)).trans hp) ?_
    rw [List.pairwise_append]
    exact ⟨hs, srtc_sorted rest, fun x hx y hy => hr x hx y ((List.mergeSort_perm rest leb).mem_iff.1 hy)⟩
  unfold near
  rw [← h, List.take_left]
end Go.Proofs.YtnaobljoopjhgaaGreat
