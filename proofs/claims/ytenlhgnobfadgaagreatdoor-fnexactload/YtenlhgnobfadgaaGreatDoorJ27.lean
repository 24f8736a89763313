/- Texts of stores, joined: GetS. -/
import Derived.Test.YtenlhgnobfadgaaGreatDoorJ14
import Derived.Test.YtenlhgnobfadgaaGreatDoorJ26
set_option linter.unusedSimpArgs false
set_option linter.unusedVariables false
namespace Go.Proofs.YtenlhgnobfadgaaGreatDoor
open Go.RowKit
/-- n points of s from i on, the last ahead of them x y; steps above m are refused. -/
def rdl (s : ByteArray) (m : Nat) : Nat → Int → Int → Int → Option (List (Int × Int) × Int)
  | 0, i, _, _ => some ([], i)
  | n + 1, i, x, y =>
    match rd s i with
    | none => none
    | some (dx, mid) =>
      match rd s mid with
      | none => none
      | some (dy, fin) =>
        if m < dx ∨ m < dy then none else
        match rdl s m n fin (x + unf dx) (y + unf dy) with
        | none => none
        | some (l, e) => some ((x + unf dx, y + unf dy) :: l, e)
theorem rdl_more (s : ByteArray) (m m' : Nat) (hm : m ≤ m') : ∀ (n : Nat) (i x y : Int) (r : List (Int × Int) × Int), rdl s m n i x y = some r → rdl s m' n i x y = some r
  | 0, i, x, y, r, h => h
  | n + 1, i, x, y, r, h => by
    simp only [rdl] at h ⊢
    cases h1 : rd s i with
    | none => rw [h1] at h; simp at h
    | some d1 =>
      obtain ⟨dx, mid⟩ := d1
      rw [h1] at h
      simp only at h ⊢
      cases h2 : rd s mid with
      | none => rw [h2] at h; simp at h
      | some d2 =>
        obtain ⟨dy, fin⟩ := d2
        rw [h2] at h
        simp only at h ⊢
        by_cases hc : m < dx ∨ m < dy
        · rw [if_pos hc] at h; simp at h
        · rw [if_neg hc] at h
          rw [if_neg (by omega)]
          cases h3 : rdl s m n fin (x + unf dx) (y + unf dy) with
          | none => rw [h3] at h; simp at h
          | some r2 =>
            rw [h3] at h
            rw [rdl_more s m m' hm n _ _ _ r2 h3]
            exact h
theorem unf_great (n : Nat) (h : 200000 < n) : unf n ≤ -100000 ∨ 100000 ≤ unf n := by unfold unf; split <;> omega
theorem rdl_less (s : ByteArray) (m : Nat) : ∀ (n : Nat) (i x y : Int) (l : List (Int × Int)) (e : Int), (-30000 ≤ x ∧ x ≤ 30000) → (-30000 ≤ y ∧ y ≤ 30000) → rdl s m n i x y = some (l, e) → (∀ p ∈ l, (-30000 ≤ p.1 ∧ p.1 ≤ 30000) ∧ (-30000 ≤ p.2 ∧ p.2 ≤ 30000)) → 200000 ≤ m → rdl s 200000 n i x y = some (l, e)
  | 0, i, x, y, l, e, _, _, h, _, _ => h
  | n + 1, i, x, y, l, e, hx, hy, h, hl, hm => by
    simp only [rdl] at h ⊢
    cases h1 : rd s i with
    | none => rw [h1] at h; simp at h
    | some d1 =>
      obtain ⟨dx, mid⟩ := d1
      rw [h1] at h
      simp only at h ⊢
      cases h2 : rd s mid with
      | none => rw [h2] at h; simp at h
      | some d2 =>
        obtain ⟨dy, fin⟩ := d2
        rw [h2] at h
        simp only at h ⊢
        by_cases hc : m < dx ∨ m < dy
        · rw [if_pos hc] at h; simp at h
        · rw [if_neg hc] at h
          cases h3 : rdl s m n fin (x + unf dx) (y + unf dy) with
          | none => rw [h3] at h; simp at h
          | some r2 =>
            obtain ⟨l2, e2⟩ := r2
            rw [h3] at h
            simp only [Option.some.injEq, Prod.mk.injEq] at h
            obtain ⟨rfl, rfl⟩ := h
            have hp := hl (x + unf dx, y + unf dy) (List.mem_cons_self ..)
            simp only at hp
            have hd : ¬ (200000 < dx ∨ 200000 < dy) := by
              rintro (hd | hd)
              · have := unf_great dx hd; omega
              · have := unf_great dy hd; omega
            rw [if_neg hd, rdl_less s m n fin _ _ l2 e2 hp.1 hp.2 h3 (fun p hp => hl p (List.mem_cons_of_mem _ hp)) hm]
theorem rdl_len (s : ByteArray) (m : Nat) : ∀ (n : Nat) (i x y : Int) (l : List (Int × Int)) (e : Int), rdl s m n i x y = some (l, e) → l.length = n
  | 0, i, x, y, l, e, h => by simp only [rdl, Option.some.injEq, Prod.mk.injEq] at h; rw [← h.1]; rfl
  | n + 1, i, x, y, l, e, h => by
    simp only [rdl] at h
    split at h
    · cases h
    · split at h
      · cases h
      · split at h
        · cases h
        · split at h
          · cases h
          · rename_i l2 e2 h3
            simp only [Option.some.injEq, Prod.mk.injEq] at h
            rw [← h.1, List.length_cons, rdl_len s m n _ _ _ _ _ h3]
/-- The points of a shape that is as its kind wants it. -/
def gsh (s : ByteArray) (m : Nat) (k : Int) (n : Nat) (i : Int) : Option (List (Int × Int) × Int) :=
  match rdl s m n i 0 0 with
  | none => none
  | some (l, e) => if shok k l = true then some (l, e) else none
theorem shok_in {k : Int} {l : List (Int × Int)} (h : shok k l = true) : ∀ p ∈ l, (-30000 ≤ p.1 ∧ p.1 ≤ 30000) ∧ (-30000 ≤ p.2 ∧ p.2 ≤ 30000) := by
  have ha : allok l = true := by
    cases ha : allok l
    · rw [shok_no ha] at h; cases h
    · rfl
  intro p hp
  exact in_of_pok (List.all_eq_true.1 ha p hp)
theorem gsh_same (s : ByteArray) (m : Nat) (hm : 200000 ≤ m) (k : Int) (n : Nat) (i : Int) : gsh s m k n i = gsh s 200000 k n i := by
  unfold gsh
  cases h : rdl s 200000 n i 0 0 with
  | some r =>
    obtain ⟨l, e⟩ := r
    rw [rdl_more s 200000 m hm n i 0 0 _ h]
  | none =>
    cases h2 : rdl s m n i 0 0 with
    | none => rfl
    | some r =>
      obtain ⟨l, e⟩ := r
      simp only
      split
      · rename_i hk
        have := rdl_less s m n i 0 0 l e (by omega) (by omega) h2 (shok_in hk) hm
        rw [h] at this
        cases this
      · rfl
end Go.Proofs.YtenlhgnobfadgaaGreatDoor
