/- A number comes back from its groups of seven bits, whatever stands ahead of them and behind. -/
import Derived.Test.YtaiifgmlnjgkpaaNum
namespace Go.Proofs.Ytaiifgmlnjgkpaa
open Go.RowKit
theorem G_val : ∀ (f r : Nat), r < 128 ^ f → val ((G f r).map Int.toNat) = r
  | 0, r, h => by simp at h; simp [G, val]; omega
  | f + 1, r, h => by
    by_cases hr : r ≤ 127
    · rw [G_last _ _ hr]; simp [val]; omega
    · rw [G_more _ _ (by omega)]
      have ih := G_val f (r / 128) (by rw [Nat.pow_succ] at h; omega)
      simp only [List.map_cons, val, ih, Int.toNat_natCast]; omega
theorem G_shape : ∀ (f r : Nat), r < 128 ^ (f + 1) → ∃ l d, (G (f + 1) r).map Int.toNat = l ++ [d] ∧ (∀ x ∈ l, 128 ≤ x) ∧ d < 128 ∧ (l = [] ∨ d ≠ 0)
  | 0, r, h => ⟨[], r, by rw [G_last _ _ (by simp at h; omega)]; simp, by simp, by simp at h; omega, .inl rfl⟩
  | f + 1, r, h => by
    by_cases hr : r ≤ 127
    · exact ⟨[], r, by rw [G_last _ _ hr]; simp, by simp, by omega, .inl rfl⟩
    · obtain ⟨l, d, e, h1, h2, h3⟩ := G_shape f (r / 128) (by rw [Nat.pow_succ] at h; omega)
      refine ⟨(128 + r % 128) :: l, d, by rw [G_more _ _ (by omega)]; simp only [List.map_cons, e, Int.toNat_natCast]; rfl, ?_, h2, .inr ?_⟩
      · intro x hx
        rcases List.mem_cons.1 hx with rfl | hx
        · omega
        · exact h1 x hx
      · rcases h3 with rfl | h3
        · intro hd
          subst hd
          have hv := G_val (f + 1) (r / 128) (by rw [Nat.pow_succ] at h; omega)
          rw [e] at hv
          simp [val] at hv
          omega
        · exact h3
theorem gn_read (s : ByteArray) (i len : Nat) (hl : i + len < s.size) (hall : ∀ t, t < len → 128 ≤ Sum.by8 s (i + t)) (hd : Sum.by8 s (i + len) < 128) (hc : ¬ ((Sum.by8 s (i + len) = 0 ∧ 0 < len) ∨ 4000000000 < acc s i (len + 1))) :
    ∀ (f j : Nat), j ≤ len → len + 1 ≤ j + f → gn s i f j = some (acc s i (len + 1), i + len + 1)
  | 0, j, h1, h2 => by omega
  | f + 1, j, h1, h2 => by
    by_cases e : j = len
    · subst e; exact gn_good s i f j hl hd hc
    · rw [gn_go s i f j (by omega) (hall j (by omega))]
      exact gn_read s i len hl hall hd hc f (j + 1) (by omega) (by omega)
theorem by8_data (s : ByteArray) (k : Nat) (h : k < s.size) : s.data.toList[k]? = some (UInt8.ofNat (Sum.by8 s k)) := by
  rw [byte_at s k h, ← Sum.by8_at s k h]; simp
theorem by8_of (s : ByteArray) (k : Nat) (b : UInt8) (h : s.data.toList[k]? = some b) : Sum.by8 s k = b.toNat := by
  have hk : k < s.size := by
    have := List.getElem?_eq_some_iff.1 h
    obtain ⟨hlt, _⟩ := this
    simpa using hlt
  rw [byte_at s k hk] at h
  rw [← Sum.by8_at s k hk]
  simp at h; rw [h]
theorem mid_data (xs : List Int) : ((⟨#[97]⟩ : ByteArray) ++ strOfNums xs ++ ⟨#[98]⟩).data.toList = 97 :: ((xs.map fun n => UInt8.ofNat n.toNat) ++ [98]) := by
  rw [ByteArray.data_append, ByteArray.data_append]
  simp [strOfNums]
theorem mid_size (xs : List Int) : ((⟨#[97]⟩ : ByteArray) ++ strOfNums xs ++ ⟨#[98]⟩).size = xs.length + 2 := by
  rw [ByteArray.size_append, ByteArray.size_append, strOfNums_size]
  show 1 + xs.length + 1 = _
  omega
theorem mid_by8 (xs : List Int) (hx : ∀ x ∈ xs, 0 ≤ x ∧ x < 256) (t : Nat) (ht : t < xs.length) : Sum.by8 ((⟨#[97]⟩ : ByteArray) ++ strOfNums xs ++ ⟨#[98]⟩) (1 + t) = (xs[t]).toNat := by
  have h := hx xs[t] (List.getElem_mem ht)
  rw [by8_of _ _ (UInt8.ofNat (xs[t]).toNat)]
  · simp; omega
  · rw [mid_data, Nat.add_comm, List.getElem?_cons_succ, List.getElem?_append_left (by simpa using ht)]
    simp [ht]
theorem back (n : Nat) (hn : n ≤ 4000000000) : gn ((⟨#[97]⟩ : ByteArray) ++ strOfNums (G 5 n) ++ ⟨#[98]⟩) 1 5 0 = some (n, 1 + (strOfNums (G 5 n)).size) := by
  obtain ⟨l, d, e, h1, h2, h3⟩ := G_shape 4 n (by omega)
  have hv := G_val 5 n (by omega)
  have hlen : (G 5 n).length = l.length + 1 := by have := congrArg List.length e; simpa using this
  have hin := G_in 5 n
  have hb : ∀ t (ht : t < (G 5 n).length), Sum.by8 ((⟨#[97]⟩ : ByteArray) ++ strOfNums (G 5 n) ++ ⟨#[98]⟩) (1 + t) = ((G 5 n)[t]).toNat := fun t ht => mid_by8 (G 5 n) hin t ht
  have hb' : ∀ t (ht : t < l.length + 1), Sum.by8 ((⟨#[97]⟩ : ByteArray) ++ strOfNums (G 5 n) ++ ⟨#[98]⟩) (1 + t) = (l ++ [d])[t]'(by simpa using ht) := by
    intro t ht
    rw [hb t (by omega)]
    have : ((G 5 n).map Int.toNat)[t]? = (l ++ [d])[t]? := by rw [e]
    rw [List.getElem?_map, List.getElem?_eq_getElem (show t < (G 5 n).length by omega), List.getElem?_eq_getElem (show t < (l ++ [d]).length by simpa using ht)] at this
    simpa using this
  have hs := mid_size (G 5 n)
  have hseg : seg ((⟨#[97]⟩ : ByteArray) ++ strOfNums (G 5 n) ++ ⟨#[98]⟩) 1 (l.length + 1) = l ++ [d] := by
    apply List.ext_getElem
    · simp [seg]
    · intro t a b
      rw [← hb' t (by simpa using b)]
      simp [seg]
  have hacc : acc ((⟨#[97]⟩ : ByteArray) ++ strOfNums (G 5 n) ++ ⟨#[98]⟩) 1 (l.length + 1) = n := by
    rw [acc_val, hseg, ← e, hv]
  have hlast : Sum.by8 ((⟨#[97]⟩ : ByteArray) ++ strOfNums (G 5 n) ++ ⟨#[98]⟩) (1 + l.length) = d := by
    rw [hb' l.length (by omega)]; simp
  have hok : ¬ ((d = 0 ∧ 0 < l.length) ∨ 4000000000 < n) := by
    rcases h3 with rfl | h3
    · simp; omega
    · omega
  have hrd := gn_read ((⟨#[97]⟩ : ByteArray) ++ strOfNums (G 5 n) ++ ⟨#[98]⟩) 1 l.length (by omega) (fun t ht => by
    rw [hb' t (by omega), List.getElem_append_left ht]
    exact h1 _ (List.getElem_mem ht)) (by omega) (by rw [hlast, hacc]; exact hok) 5 0 (by omega) (by have := G_len 5 n; omega)
  rw [hrd, hacc, strOfNums_size, hlen]
  congr 2
end Go.Proofs.Ytaiifgmlnjgkpaa
