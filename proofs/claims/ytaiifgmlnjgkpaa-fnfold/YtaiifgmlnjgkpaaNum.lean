/- Folding, numbers as bytes and back, each at every argument by one function; and how they undo each other. -/
import Derived.Test.YtaiifgmlnjgkpaaGet2
import Derived.Test.YtaiifgmlnjgkpaaDraw2
namespace Go.Proofs.Ytaiifgmlnjgkpaa
open Go.RowKit
def fo (x : Int) : Int := if x < -1000000000 ∨ 1000000000 < x then -1 else if x < 0 then -2 * x - 1 else 2 * x
def un (n : Int) : Int := if n < 0 ∨ 2000000000 < n then 0 else if n % 2 = 1 then -((n + 1) / 2) else n / 2
theorem un_fo (x : Int) (h : 0 ≤ fo x) : un (fo x) = x := by
  unfold fo at *
  unfold un
  by_cases h1 : x < -1000000000 ∨ 1000000000 < x
  · rw [if_pos h1] at h; omega
  · rw [if_neg h1]
    by_cases h2 : x < 0
    · rw [if_pos h2, if_neg (by omega), if_pos (by omega)]; omega
    · rw [if_neg h2, if_neg (by omega), if_neg (by omega)]; omega
set_option maxHeartbeats 400000 in
theorem impl_fold (x : Int) (w : World) : Calls Try.prog 7 #[.int .i64 x] w fun e w' => e = .returned (.int .i64 (fo x)) ∧ w' = w := by
  unfold fo
  by_cases h1 : x < -1000000000 ∨ 1000000000 < x
  · rw [if_pos h1]
    rcases h1 with h | h
    all_goals
      go_enter Try.func7, Try.ntmps7
      go_wp2
      go_ret
      exact ⟨rfl, rfl⟩
  · rw [if_neg h1]
    have a1 : -1000000000 ≤ x := by omega
    have a2 : x ≤ 1000000000 := by omega
    clear h1
    by_cases h2 : x < 0
    · rw [if_pos h2]
      go_enter Try.func7, Try.ntmps7
      go_wp2
      go_ret
      exact ⟨rfl, rfl⟩
    · rw [if_neg h2]
      have h3 : 0 ≤ x := by omega
      clear h2
      go_enter Try.func7, Try.ntmps7
      go_wp2
      go_ret
      exact ⟨rfl, rfl⟩
set_option maxHeartbeats 400000 in
theorem spec_fold (x : Int) (w : World) : Calls Try.prog 14 #[.int .i64 x] w fun e w' => e = .returned (.int .i64 (fo x)) ∧ w' = w := by
  unfold fo
  by_cases h1 : x < -1000000000 ∨ 1000000000 < x
  · rw [if_pos h1]
    have hx : (decide (-1000000000 ≤ x) && decide (x ≤ 1000000000)) = false := by simp; omega
    go_enter Try.func14, Try.ntmps14
    go_wp2_with (go_at_call 30; refine (in_calls _ _ _ _).mono ?_; rintro e w' ⟨rfl, rfl⟩)
    all_goals first | (exfalso; omega) | (go_ret; exact ⟨rfl, rfl⟩)
  · rw [if_neg h1]
    have a1 : -1000000000 ≤ x := by omega
    have a2 : x ≤ 1000000000 := by omega
    clear h1
    by_cases h2 : x < 0
    · rw [if_pos h2]
      go_enter Try.func14, Try.ntmps14
      go_wp2_with (go_at_call 30; refine (in_calls _ _ _ _).mono ?_; rintro e w' ⟨rfl, rfl⟩)
      go_ret
      exact ⟨rfl, rfl⟩
    · rw [if_neg h2]
      have h3 : 0 ≤ x := by omega
      clear h2
      go_enter Try.func14, Try.ntmps14
      go_wp2_with (go_at_call 30; refine (in_calls _ _ _ _).mono ?_; rintro e w' ⟨rfl, rfl⟩)
      go_ret
      exact ⟨rfl, rfl⟩
theorem half_neg (n : Int) (h0 : 0 ≤ n) (h1 : n ≤ 2000000000) : wrap64 (-(n + 1).tdiv 2) = -((n + 1) / 2) := by
  rw [Int.tdiv_eq_ediv_of_nonneg (by omega)]
  exact IntWalk.wrap64_in _ ⟨by omega, by omega⟩
set_option maxHeartbeats 400000 in
theorem impl_unfold (n : Int) (w : World) : Calls Try.prog 16 #[.int .i64 n] w fun e w' => e = .returned (.int .i64 (un n)) ∧ w' = w := by
  unfold un
  by_cases h1 : n < 0 ∨ 2000000000 < n
  · rw [if_pos h1]
    rcases h1 with h | h
    all_goals
      go_enter Try.func16, Try.ntmps16
      go_wp2
      go_ret
      exact ⟨rfl, rfl⟩
  · rw [if_neg h1]
    have a1 : 0 ≤ n := by omega
    have a2 : n ≤ 2000000000 := by omega
    clear h1
    by_cases h2 : n % 2 = 1
    · rw [if_pos h2]
      go_enter Try.func16, Try.ntmps16
      go_wp2
      go_ret
      exact ⟨ret_int (half_neg n a1 a2), rfl⟩
    · rw [if_neg h2]
      have h3 : n % 2 = 0 := by omega
      clear h2
      go_enter Try.func16, Try.ntmps16
      go_wp2
      go_ret
      exact ⟨rfl, rfl⟩
set_option maxHeartbeats 400000 in
theorem spec_unfold (n : Int) (w : World) : Calls Try.prog 17 #[.int .i64 n] w fun e w' => e = .returned (.int .i64 (un n)) ∧ w' = w := by
  unfold un
  by_cases h1 : n < 0 ∨ 2000000000 < n
  · rw [if_pos h1]
    have hx : (decide (0 ≤ n) && decide (n ≤ 2000000000)) = false := by simp; omega
    go_enter Try.func17, Try.ntmps17
    go_wp2_with (go_at_call 30; refine (in_calls _ _ _ _).mono ?_; rintro e w' ⟨rfl, rfl⟩)
    all_goals first | (exfalso; omega) | (go_ret; exact ⟨rfl, rfl⟩)
  · rw [if_neg h1]
    have a1 : 0 ≤ n := by omega
    have a2 : n ≤ 2000000000 := by omega
    clear h1
    by_cases h2 : n % 2 = 1
    · rw [if_pos h2]
      go_enter Try.func17, Try.ntmps17
      go_wp2_with (go_at_call 30; refine (in_calls _ _ _ _).mono ?_; rintro e w' ⟨rfl, rfl⟩)
      go_ret
      exact ⟨ret_int (half_neg n a1 a2), rfl⟩
    · rw [if_neg h2]
      have h3 : n % 2 = 0 := by omega
      clear h2
      go_enter Try.func17, Try.ntmps17
      go_wp2_with (go_at_call 30; refine (in_calls _ _ _ _).mono ?_; rintro e w' ⟨rfl, rfl⟩)
      go_ret
      exact ⟨rfl, rfl⟩
/-! ### Numbers as bytes -/
def pn (n : Int) : ByteArray := if n < 0 ∨ 4000000000 < n then ⟨#[]⟩ else strOfNums (G 5 n.toNat)
theorem G_len : ∀ (f r : Nat), (G f r).length ≤ f
  | 0, _ => by simp [G]
  | f + 1, r => by
    by_cases h : r ≤ 127
    · rw [G_last _ _ h]; simp
    · rw [G_more _ _ (by omega)]; have := G_len f (r / 128); simp; omega
theorem pn_size (n : Int) : (pn n).size ≤ 5 := by
  unfold pn
  split
  · simp [ByteArray.size]
  · rw [strOfNums_size]; exact G_len 5 _
theorem impl_put_any (n : Int) (w : World) : Calls Try.prog 9 #[.int .i64 n] w fun e w' => e = .returned (.string (pn n)) ∧ Below w.heap.size w w' := by
  unfold pn
  by_cases h : n < 0 ∨ 4000000000 < n
  · rw [if_pos h]
    refine (impl_put_no n h w).mono ?_
    rintro e w' ⟨rfl, rfl⟩
    exact ⟨rfl, Below.refl _ _⟩
  · rw [if_neg h]
    obtain ⟨a, rfl⟩ := Int.eq_ofNat_of_zero_le (show 0 ≤ n by omega)
    exact impl_put a (by omega) w
theorem spec_put_any (n : Int) (w : World) : Calls Try.prog 15 #[.int .i64 n] w fun e w' => e = .returned (.string (pn n)) ∧ Below w.heap.size w w' := by
  unfold pn
  by_cases h : n < 0 ∨ 4000000000 < n
  · rw [if_pos h]
    refine (spec_put_no n h w).mono ?_
    rintro e w' ⟨rfl, rfl⟩
    exact ⟨rfl, Below.refl _ _⟩
  · rw [if_neg h]
    obtain ⟨a, rfl⟩ := Int.eq_ofNat_of_zero_le (show 0 ≤ n by omega)
    exact spec_put a (by omega) w
/-- What is read at i, wherever i lies. -/
def gt (s : ByteArray) (i : Int) : Option (Nat × Nat) := if i < 0 ∨ (s.size : Int) ≤ i then none else gn s i.toNat 5 0
theorem impl_get_any (s : ByteArray) (i : Int) (hs : s.size ≤ 1000) (w : World) : Calls Try.prog 11 #[.string s, .int .i64 i] w fun e w' => e = .returned (.tuple #[.int .i64 (gnN (gt s i)), .int .i64 (gnK (gt s i))]) ∧ w' = w := by
  unfold gt
  by_cases h : i < 0 ∨ (s.size : Int) ≤ i
  · rw [if_pos h]; exact impl_get_no s i (by unfold maxLen; omega) h w
  · rw [if_neg h]
    obtain ⟨a, rfl⟩ := Int.eq_ofNat_of_zero_le (show 0 ≤ i by omega)
    exact impl_get s a (by unfold maxLen; omega) (by omega) w
theorem spec_get_any (s : ByteArray) (i : Int) (hs : s.size ≤ 1000) (hi : I64 i) (w : World) : Calls Try.prog 12 #[.string s, .int .i64 i] w fun e w' => e = .returned (.tuple #[.int .i64 (gnN (gt s i)), .int .i64 (gnK (gt s i))]) ∧ Below w.heap.size w w' := by
  unfold gt
  by_cases h : i < 0 ∨ (s.size : Int) ≤ i
  · rw [if_pos h]
    refine (spec_get_no s i (by unfold maxLen; omega) hi.1 hi.2 h w).mono ?_
    rintro e w' ⟨rfl, rfl⟩
    exact ⟨rfl, Below.refl _ _⟩
  · rw [if_neg h]
    obtain ⟨a, rfl⟩ := Int.eq_ofNat_of_zero_le (show 0 ≤ i by omega)
    exact spec_get s a (by unfold maxLen; omega) (by omega) w
theorem gn_sound (s : ByteArray) (i : Nat) : ∀ (f j : Nat), j + f ≤ 5 → (∀ t, t < j → 128 ≤ Sum.by8 s (i + t)) → ∀ n k, gn s i f j = some (n, k) → n ≤ 4000000000 ∧ i < k ∧ k ≤ s.size ∧ ((strOfNums (G 5 n)).toList == (s.extract i k).toList) = true
  | 0, j, _, _, n, k, h => by simp [gn] at h
  | f + 1, j, hj, hall, n, k, h => by
    by_cases h1 : i + j < s.size
    · by_cases h2 : Sum.by8 s (i + j) < 128
      · by_cases h3 : (Sum.by8 s (i + j) = 0 ∧ 0 < j) ∨ 4000000000 < acc s i (j + 1)
        · rw [gn_bad s i f j h1 h2 h3] at h; cases h
        · rw [gn_good s i f j h1 h2 h3] at h
          simp only [Option.some.injEq, Prod.mk.injEq] at h
          obtain ⟨rfl, rfl⟩ := h
          exact ⟨by omega, by omega, by omega, cmp_eq s i j (by omega) h1 hall h2 (by omega)⟩
      · rw [gn_go s i f j h1 (by omega)] at h
        refine gn_sound s i f (j + 1) (by omega) (fun t ht => ?_) n k h
        by_cases e : t = j
        · rw [e]; omega
        · exact hall t (by omega)
    · rw [gn_end s i (f + 1) j (by omega)] at h; cases h
end Go.Proofs.Ytaiifgmlnjgkpaa
