/- Chapter 5's small functions: contracts, over a memory that holds the table of the tiles' sides. -/
import Derived.Test.YtdhdfgobefapiaaDoorGeo
import Derived.Test.YtdhdfgobefapiaaDoorWeave
namespace Go.Proofs.YtdhdfgobefapiaaDoor
open Go.RowKit
set_option linter.unusedSimpArgs false
set_option linter.unusedVariables false
/-- A level; how many columns it has; the side of one of its tiles; a tile. -/
def lok (l : Int) : Bool := decide (0 ≤ l) && decide (l ≤ 8)
def cols (l : Int) : Int := 2 ^ l.toNat
def sid (l : Int) : Int := 65536 / 2 ^ l.toNat
def plok (c l : Int) : Bool := decide (0 ≤ c) && decide (c < cols l)
def tok (l c r : Int) : Bool := lok l && plok c l && plok r l
/-- The table lies in its place. -/
def Tab (w : World) : Prop := ∀ k : Nat, k ≤ 8 → w.cell? ⟨0, k, none⟩ = some (.int .i64 (sid k))
theorem Tab.below {w w' : World} (h : Tab w) (hb : Below w.heap.size w w') : Tab w' := fun k hk => keepcell hb (h k hk)
theorem Tab.alloc {w : World} (h : Tab w) (o : Obj) : Tab (w.alloc o) := fun k hk => keepalloc (h k hk) o
theorem lok_nat {l : Int} (h : lok l = true) : ∃ k : Nat, l = k ∧ k ≤ 8 := by
  simp [lok] at h
  exact ⟨l.toNat, by omega, by omega⟩
theorem sid_bounds (k : Nat) (hk : k ≤ 8) : 256 ≤ sid k ∧ sid k ≤ 65536 ∧ sid k * cols k = 65536 ∧ 1 ≤ cols k ∧ cols k ≤ 256 ∧ 65536 / sid k = cols k ∧ 65536 / cols k = sid k := by
  rcases (show k = 0 ∨ k = 1 ∨ k = 2 ∨ k = 3 ∨ k = 4 ∨ k = 5 ∨ k = 6 ∨ k = 7 ∨ k = 8 by omega) with h | h | h | h | h | h | h | h | h <;> subst h <;> decide
theorem level_ok (l : Int) (w : World) : Calls Tryd.prog 40 #[.int .i64 l] w fun e w' => e = .returned (.bool (lok l)) ∧ w' = w := by
  by_cases h : 0 ≤ l
  · go_enter Tryd.func40, Tryd.ntmps40
    go_wp2
    go_ret
    exact ⟨by simp [lok, h], rfl⟩
  · have hd : decide (0 ≤ l) = false := by simpa using h
    go_enter Tryd.func40, Tryd.ntmps40
    go_wp2
    go_ret
    exact ⟨by simp [lok, hd], rfl⟩
theorem place_ok (c : Int) (k : Nat) (hk : k ≤ 8) (w : World) (ht : Tab w) : Calls Tryd.prog 41 #[.int .i64 c, .int .i64 k] w fun e w' => e = .returned (.bool (plok c k)) ∧ w' = w := by
  obtain ⟨s1, s2, _, c1, c2, s3, _⟩ := sid_bounds k hk
  have hc := ht k hk
  generalize hs : sid (k : Int) = s at *
  have h0 : ¬ s = 0 := by omega
  have h1 : (65536 : Int) / s = cols k := s3
  by_cases h : 0 ≤ c
  · go_enter Tryd.func41, Tryd.ntmps41
    go_wp2
    go_ret
    exact ⟨by simp [plok, h], rfl⟩
  · have hd : decide (0 ≤ c) = false := by simpa using h
    go_enter Tryd.func41, Tryd.ntmps41
    go_wp2
    go_ret
    exact ⟨by simp [plok, hd], rfl⟩
theorem impl_tileok (l c r : Int) (w : World) (ht : Tab w) : Calls Tryd.prog 28 #[.agg #[.int .i64 l, .int .i64 c, .int .i64 r]] w fun e w' => e = .returned (.bool (tok l c r)) ∧ w' = w.alloc (.cells #[.int .i64 l, .int .i64 c, .int .i64 r] 50) := by
  have Ht := hid ht
  clear ht
  go_enter Tryd.func28, Tryd.ntmps28
  go_wp2_with fail
  refine (level_ok _ _).mono ?_
  rintro e w' ⟨rfl, hw⟩
  replace hw := hw.symm
  subst hw
  cases h : lok l
  · go_wp2_with fail
    go_ret
    exact ⟨by simp [tok, h], rfl⟩
  · obtain ⟨k, rfl, hk⟩ := lok_nat h
    go_wp2_with fail
    refine (place_ok c k hk _ (Ht.out.alloc _)).mono ?_
    rintro e w' ⟨rfl, hw⟩
    replace hw := hw.symm
    subst hw
    cases h2 : plok c k
    · go_wp2_with fail
      go_ret
      exact ⟨by simp [tok, h, h2], rfl⟩
    · go_wp2_with fail
      refine (place_ok r k hk _ (Ht.out.alloc _)).mono ?_
      rintro e w' ⟨rfl, hw⟩
      replace hw := hw.symm
      subst hw
      go_wp2_with fail
      go_ret
      exact ⟨by simp [tok, h, h2], rfl⟩
theorem count_calls (k : Nat) (hk : k ≤ 8) (w : World) : Calls Tryd.prog 35 #[.int .i64 k] w fun e w' => e = .returned (.int .i64 (cols k)) ∧ w' = w := by
  go_enter Tryd.func35, Tryd.ntmps35
  go_wp2_with fail
  go_loop [3, 4] (fun tn ti => ∃ i n : Nat, tn = .int .i64 n ∧ ti = .int .i64 i ∧ i ≤ k ∧ n ≤ 256 ∧ Hid (n = 2 ^ i)) (fun _ ti => k - (intOf ti).toNat)
  case atStart => exact ⟨0, 1, rfl, rfl, Nat.zero_le _, by omega, hid rfl⟩
  case round =>
    obtain ⟨i, n, rfl, rfl, hi, hn, H⟩ := hrel
    by_cases hlt : i < k
    · have hn2 : n ≤ 128 := by
        rw [H.out]
        have := Nat.pow_le_pow_right (n := 2) (by omega) (show i ≤ 7 by omega)
        simpa using this
      go_wp2
      go_round
      case rel => exact ⟨i + 1, 2 * n, by go_num, by go_num, by omega, by omega, hid (by rw [H.out, Nat.pow_succ]; omega)⟩
      case measure => simp [intOf]; omega
    · have hik : i = k := by omega
      subst hik
      go_wp2
      go_ret
      exact ⟨by rw [H.out]; simp [cols], rfl⟩
theorem spec_tileok (l c r : Int) (w : World) : Calls Tryd.prog 20 #[.agg #[.int .i64 l, .int .i64 c, .int .i64 r]] w fun e w' => e = .returned (.bool (tok l c r)) ∧ w' = w.alloc (.cells #[.int .i64 l, .int .i64 c, .int .i64 r] 50) := by
  go_enter Tryd.func20, Tryd.ntmps20
  go_wp2_with fail
  refine (inn_calls _ _ _ _).mono ?_
  rintro e w' ⟨rfl, hw⟩
  replace hw := hw.symm
  subst hw
  cases h : lok l
  · have h' : (decide (0 ≤ l) && decide (l ≤ 8)) = false := h
    rw [h']
    go_wp2_with fail
    go_ret
    exact ⟨by simp [tok, h], rfl⟩
  · have h' : (decide (0 ≤ l) && decide (l ≤ 8)) = true := h
    rw [h']
    obtain ⟨k, rfl, hk⟩ := lok_nat h
    obtain ⟨_, _, _, c1, c2, _, _⟩ := sid_bounds k hk
    have hp : ∀ z : Int, (decide (0 ≤ z) && decide (z ≤ cols (k : Int) - 1)) = plok z k := by
      intro z
      unfold plok
      congr 1
      exact decide_eq_decide.2 (by omega)
    have Hp := hid hp
    clear hp h'
    go_wp2_with fail
    refine (count_calls k hk _).mono ?_
    rintro e w' ⟨rfl, hw⟩
    replace hw := hw.symm
    subst hw
    go_wp2_with fail
    refine (inn_calls _ _ _ _).mono ?_
    rw [Hp.out]
    rintro e w' ⟨rfl, hw⟩
    replace hw := hw.symm
    subst hw
    cases h2 : plok c k
    · go_wp2_with fail
      go_ret
      exact ⟨by simp [tok, h, h2], rfl⟩
    · go_wp2_with fail
      refine (inn_calls _ _ _ _).mono ?_
      rw [Hp.out]
      rintro e w' ⟨rfl, hw⟩
      replace hw := hw.symm
      subst hw
      go_wp2_with fail
      go_ret
      exact ⟨by simp [tok, h, h2], rfl⟩
end Go.Proofs.YtdhdfgobefapiaaDoor
