/- What was read is what would be put, and what was put is read again: in the form that the law of folding asks. -/
import Derived.Test.YtaiifgmlnjgkpaaBack
import Derived.Test.YtaiifgmlnjgkpaaDraw4
namespace Go.Proofs.Ytaiifgmlnjgkpaa
open Go.RowKit
theorem gt_sound (u : ByteArray) (i : Int) (h : 0 < gnK (gt u i)) : ∃ a b c : Nat, i = (a : Int) ∧ gnN (gt u i) = (b : Int) ∧ gnK (gt u i) = (c : Int) ∧ a ≤ c ∧ c ≤ u.size ∧ ((pn (b : Int)).toList == (u.extract a c).toList) = true := by
  unfold gt at *
  by_cases h1 : i < 0 ∨ (u.size : Int) ≤ i
  · rw [if_pos h1] at h; simp [gnK] at h
  · rw [if_neg h1] at *
    obtain ⟨a, rfl⟩ := Int.eq_ofNat_of_zero_le (show 0 ≤ i by omega)
    rw [Int.toNat_natCast] at *
    cases hg : gn u a 5 0 with
    | none => rw [hg] at h; simp [gnK] at h
    | some x =>
      obtain ⟨n, k⟩ := x
      obtain ⟨h2, h3, h4, h5⟩ := gn_sound u a 5 0 (by omega) (fun t ht => by omega) n k hg
      refine ⟨a, n, k, rfl, rfl, rfl, by omega, h4, ?_⟩
      have : pn (n : Int) = strOfNums (G 5 n) := by unfold pn; rw [if_neg (by omega), Int.toNat_natCast]
      rw [this]; exact h5
theorem gt_back (n : Int) (h : (pn n).toList.isEmpty = false) : gnN (gt ((⟨#[97]⟩ : ByteArray) ++ pn n ++ ⟨#[98]⟩) 1) = n ∧ gnK (gt ((⟨#[97]⟩ : ByteArray) ++ pn n ++ ⟨#[98]⟩) 1) = 1 + ((pn n).size : Int) := by
  unfold pn at *
  by_cases h1 : n < 0 ∨ 4000000000 < n
  · rw [if_pos h1] at h; rw [ByteArray.toList_eq] at h; simp at h
  · rw [if_neg h1] at *
    obtain ⟨a, rfl⟩ := Int.eq_ofNat_of_zero_le (show 0 ≤ n by omega)
    rw [Int.toNat_natCast] at *
    have hb := back a (by omega)
    have hs := mid_size (G 5 a)
    have hg : gt ((⟨#[97]⟩ : ByteArray) ++ strOfNums (G 5 a) ++ ⟨#[98]⟩) 1 = some (a, 1 + (strOfNums (G 5 a)).size) := by
      unfold gt; rw [if_neg (by omega)]; exact hb
    rw [hg]
    exact ⟨rfl, by simp [gnK]⟩
end Go.Proofs.Ytaiifgmlnjgkpaa
