/- Texts of stores, joined: Rd. -/
import Derived.Test.YtjafahhoihlliaaGreatDoorJ13
import Derived.WalkLawsBesides
set_option linter.unusedSimpArgs false
set_option linter.unusedVariables false
namespace Go.Proofs.YtjafahhoihlliaaGreatDoor
open Go.RowKit
/-- The number that lies in s at i, and the place behind it. -/
def rd (s : ByteArray) (i : Int) : Option (Nat × Nat) := if 0 ≤ i ∧ i < (s.size : Int) then gn s i.toNat 5 0 else none
theorem rd_in (s : ByteArray) (i : Nat) (h : i < s.size) : rd s (i : Int) = gn s i 5 0 := by unfold rd; rw [if_pos (by omega)]; rfl
theorem rd_out (s : ByteArray) (i : Int) (h : i < 0 ∨ (s.size : Int) ≤ i) : rd s i = none := by unfold rd; rw [if_neg (by omega)]
theorem impl_rd (s : ByteArray) (i : Int) (hs : s.size ≤ maxLen) (w : World) : Calls Tryz.prog 101 #[.string s, .int .i64 i] w fun e w' => e = .returned (.tuple #[.int .i64 (gnN (rd s i)), .int .i64 (gnK (rd s i))]) ∧ w' = w := by
  by_cases h : 0 ≤ i ∧ i < (s.size : Int)
  · obtain ⟨k, rfl⟩ := Int.eq_ofNat_of_zero_le h.1
    rw [rd_in s k (by omega)]
    exact impl_get s k hs (by omega) w
  · rw [rd_out s i (by omega)]
    exact impl_get_no s i hs (by omega) w
theorem spec_rd (s : ByteArray) (i : Int) (hs : s.size ≤ maxLen) (h0 : -9223372036854775808 ≤ i) (h1 : i ≤ 9223372036854775807) (w : World) : Calls Tryz.prog 49 #[.string s, .int .i64 i] w fun e w' => e = .returned (.tuple #[.int .i64 (gnN (rd s i)), .int .i64 (gnK (rd s i))]) ∧ Below w.heap.size w w' := by
  by_cases h : 0 ≤ i ∧ i < (s.size : Int)
  · obtain ⟨k, rfl⟩ := Int.eq_ofNat_of_zero_le h.1
    rw [rd_in s k (by omega)]
    exact spec_get s k hs (by omega) w
  · rw [rd_out s i (by omega)]
    refine (spec_get_no s i hs h0 h1 (by omega) w).mono ?_
    rintro e w' ⟨he, hb⟩
    exact ⟨he, by first | exact hb | (subst hb; exact Below.refl _ _)⟩
/-- A reader's block. -/
def RdAt (w : World) (R : Nat) (s : ByteArray) (i : Int) : Prop := w.heap[R]? = some (.cells #[.string s, .int .i64 i] 102 (0, 0))
/-- A reader's refusal. -/
def Refused (e : Ending) : Prop := ∃ t, e = .panicked [{ v := .iface 96 (.agg #[.string t]), recovered := false }]
theorem gn_small (s : ByteArray) (i : Nat) : ∀ (f j : Nat) (n k : Nat), gn s i f j = some (n, k) → n ≤ 4000000000 ∧ k ≤ s.size
  | 0, j, n, k, h => by simp [gn] at h
  | f + 1, j, n, k, h => by
    simp only [gn] at h
    split at h
    · split at h
      · split at h
        · cases h
        · simp at h; omega
      · exact gn_small s i f (j + 1) n k h
    · cases h
theorem rd_small (s : ByteArray) (i : Int) (n k : Nat) (h : rd s i = some (n, k)) : n ≤ 4000000000 ∧ k ≤ s.size := by
  unfold rd at h
  split at h
  · exact gn_small s _ 5 0 n k h
  · cases h
set_option maxHeartbeats 1000000 in
theorem number_no (w : World) (R : Nat) (s : ByteArray) (i : Int) (hs : s.size ≤ maxLen) (hb : RdAt w R s i) (h : rd s i = none) : Calls Tryz.prog 89 #[.pointer (some ⟨R, 0, none⟩)] w fun e w' => Refused e ∧ ∃ q, w' = w.drewN q := by
  obtain ⟨c0, c1, f0, f1⟩ := cell2g hb
  have HG := hid (fun w' => impl_rd s i hs w')
  rw [h] at HG
  clear hb h
  go_enter Tryz.func89, Tryz.ntmps89
  go_wp2_with fail
  go_quiet ((go_at_call 101; exact Calls.quiet_of_same (HG.out _)))
  go_wp2_with fail
  exact ⟨rfl, ⟨_, rfl⟩, nq, rfl⟩
theorem set2_1 {w : World} {p : Nat} {x y u : Value} {t : TypeId} (h : w.heap[p]? = some (.cells #[x, y] t (0, 0))) : (w.setCell ⟨p, 1, none⟩ u).heap[p]? = some (.cells #[x, u] t (0, 0)) := by
  have hlt := lt_of_block h
  have h' : w.heap[p] = .cells #[x, y] t (0, 0) := by simpa [Array.getElem?_eq_getElem hlt] using h
  show (w.heap.modify p _)[p]? = _
  rw [Array.getElem?_eq_getElem (by simpa using hlt), Array.getElem_modify_self, h']
  rfl
set_option maxHeartbeats 1000000 in
theorem number_ok (w : World) (R : Nat) (s : ByteArray) (i : Int) (n k : Nat) (hs : s.size ≤ maxLen) (hb : RdAt w R s i) (h : rd s i = some (n, k)) : Calls Tryz.prog 89 #[.pointer (some ⟨R, 0, none⟩)] w fun e w' => e = .returned (.int .i64 n) ∧ RdAt w' R s k ∧ w.grownBy w' (some R) := by
  obtain ⟨c0, c1, f0, f1⟩ := cell2g hb
  have HB := hid hb
  have HG := hid (fun w' => impl_rd s i hs w')
  rw [h] at HG
  clear hb h
  go_enter Tryz.func89, Tryz.ntmps89
  go_wp2_with fail
  go_quiet ((go_at_call 101; exact Calls.quiet_of_same (HG.out _)))
  go_wp2_with fail
  go_ret
  exact ⟨rfl, set2_1 (w := w.drewN nq) HB.out, grown_trans (grown_drew (grown_same w _) nq) (grown_set _ R 1 _)⟩
theorem count_no (w : World) (R : Nat) (s : ByteArray) (i : Int) (hs : s.size ≤ maxLen) (hb : RdAt w R s i) (h : rd s i = none) : Calls Tryz.prog 67 #[.pointer (some ⟨R, 0, none⟩)] w fun e w' => Refused e ∧ w.grownBy w' (some R) := by
  go_enter Tryz.func67, Tryz.ntmps67
  go_wp2_with fail
  refine (number_no _ R s i hs hb h).mono ?_
  rintro e w1 ⟨⟨v, rfl⟩, q, rfl⟩
  go_wp2_with fail
  exact ⟨rfl, ⟨_, rfl⟩, grown_drew (grown_same w _) q⟩
theorem count_great (w : World) (R : Nat) (s : ByteArray) (i : Int) (n k : Nat) (hs : s.size ≤ maxLen) (hb : RdAt w R s i) (h : rd s i = some (n, k)) (hn : 60 < n) : Calls Tryz.prog 67 #[.pointer (some ⟨R, 0, none⟩)] w fun e w' => Refused e ∧ w.grownBy w' (some R) := by
  have hn' : (60 : Int) < (n : Int) := by omega
  go_enter Tryz.func67, Tryz.ntmps67
  go_wp2_with fail
  refine (number_ok _ R s i n k hs hb h).mono ?_
  rintro e w1 ⟨rfl, hb1, hg⟩
  go_wp2_with fail
  exact ⟨rfl, ⟨_, rfl⟩, hg⟩
theorem count_ok (w : World) (R : Nat) (s : ByteArray) (i : Int) (n k : Nat) (hs : s.size ≤ maxLen) (hb : RdAt w R s i) (h : rd s i = some (n, k)) (hn : n ≤ 60) : Calls Tryz.prog 67 #[.pointer (some ⟨R, 0, none⟩)] w fun e w' => e = .returned (.int .i64 n) ∧ RdAt w' R s k ∧ w.grownBy w' (some R) := by
  have hn' : (n : Int) ≤ 60 := by omega
  go_enter Tryz.func67, Tryz.ntmps67
  go_wp2_with fail
  refine (number_ok _ R s i n k hs hb h).mono ?_
  rintro e w1 ⟨rfl, hb1, hg⟩
  go_wp2_with fail
  go_ret
  exact ⟨rfl, hb1, hg⟩
/-- The number that folds to n. -/
def unf (n : Nat) : Int := if n % 2 = 1 then -(((n + 1) / 2 : Nat) : Int) else ((n / 2 : Nat) : Int)
theorem neg_half (n : Nat) (h : n ≤ 2000000000) : wrap64 (-((n : Int) + 1).tdiv 2) = -(((n + 1) / 2 : Nat) : Int) := by
  have e : ((n : Int) + 1).tdiv 2 = (((n + 1) / 2 : Nat) : Int) := rfl
  rw [e, IntWalk.wrap64_in _ ⟨by omega, by omega⟩]
theorem impl_unf (n : Nat) (h : n ≤ 2000000000) (w : World) : Calls Tryz.prog 90 #[.int .i64 n] w fun e w' => e = .returned (.int .i64 (unf n)) ∧ w' = w := by
  have h0 : (0 : Int) ≤ (n : Int) := by omega
  have h1 : (n : Int) ≤ 2000000000 := by omega
  by_cases ho : n % 2 = 1
  · have hp : (n : Int) % 2 = 1 := by omega
    have e : unf n = -(((n + 1) / 2 : Nat) : Int) := if_pos ho
    go_enter Tryz.func90, Tryz.ntmps90
    go_wp2
    go_ret
    refine ⟨?_, rfl⟩
    rw [e, ← neg_half n (by omega)]
    rfl
  · have hp : ¬ (n : Int) % 2 = 1 := by omega
    have e : unf n = ((n / 2 : Nat) : Int) := if_neg ho
    go_enter Tryz.func90, Tryz.ntmps90
    go_wp2
    go_ret
    refine ⟨?_, rfl⟩
    rw [e]
    congr 2
theorem impl_unf_no (n : Nat) (h : 2000000000 < n) (hn : n ≤ 4000000000) (w : World) : Calls Tryz.prog 90 #[.int .i64 n] w fun e w' => e = .returned (.int .i64 0) ∧ w' = w := by
  have h0 : (0 : Int) ≤ (n : Int) := by omega
  have h1 : (2000000000 : Int) < (n : Int) := by omega
  have h2 : (n : Int) ≤ 4000000000 := by omega
  go_enter Tryz.func90, Tryz.ntmps90
  go_wp2
  go_ret
  exact ⟨rfl, rfl⟩
theorem spec_unf (n : Nat) (h : n ≤ 200000) (w : World) : Calls Tryz.prog 50 #[.int .i64 n] w fun e w' => e = .returned (.int .i64 (unf n)) ∧ w' = w := by
  have h0 : (0 : Int) ≤ (n : Int) := by omega
  have h1 : (n : Int) ≤ 2000000000 := by omega
  by_cases ho : n % 2 = 1
  · have hp : ¬ (n : Int) % 2 = 0 := by omega
    have e : unf n = -(((n + 1) / 2 : Nat) : Int) := if_pos ho
    go_enter Tryz.func50, Tryz.ntmps50
    go_wp2
    go_ret
    refine ⟨?_, rfl⟩
    rw [e, ← neg_half n (by omega)]
    rfl
  · have hp : (n : Int) % 2 = 0 := by omega
    have e : unf n = ((n / 2 : Nat) : Int) := if_neg ho
    go_enter Tryz.func50, Tryz.ntmps50
    go_wp2
    go_ret
    refine ⟨?_, rfl⟩
    rw [e]
    congr 2
theorem fold_unf (n : Nat) : fold (unf n) = n := by
  unfold fold unf
  split <;> split <;> omega
/-- Fold, wherever Unfold comes to. -/
theorem impl_fold_all (x : Int) (h1 : -1000000000 ≤ x) (h2 : x ≤ 1000000000) (w : World) : Calls Tryz.prog 27 #[.int .i64 x] w fun e w' => e = .returned (.int .i64 (fold x)) ∧ w' = w := by
  by_cases h : x < 0
  · have e : fold x = -2 * x - 1 := if_pos h
    rw [e]
    go_enter Tryz.func27, Tryz.ntmps27
    go_wp2
    go_ret
    exact ⟨rfl, rfl⟩
  · have e : fold x = 2 * x := if_neg h
    have h0 : 0 ≤ x := by omega
    rw [e]
    go_enter Tryz.func27, Tryz.ntmps27
    go_wp2
    go_ret
    exact ⟨rfl, rfl⟩
theorem unf_in (n : Nat) (h : n ≤ 2000000000) : -1000000000 ≤ unf n ∧ unf n ≤ 1000000000 := by unfold unf; split <;> omega
theorem step_no (w : World) (R : Nat) (s : ByteArray) (i : Int) (hs : s.size ≤ maxLen) (hb : RdAt w R s i) (h : rd s i = none) : Calls Tryz.prog 68 #[.pointer (some ⟨R, 0, none⟩)] w fun e w' => Refused e ∧ w.grownBy w' (some R) := by
  go_enter Tryz.func68, Tryz.ntmps68
  go_wp2_with fail
  refine (number_no _ R s i hs hb h).mono ?_
  rintro e w1 ⟨⟨v, rfl⟩, q, rfl⟩
  go_wp2_with fail
  exact ⟨rfl, ⟨_, rfl⟩, grown_drew (grown_same w _) q⟩
theorem step_great (w : World) (R : Nat) (s : ByteArray) (i : Int) (n k : Nat) (hs : s.size ≤ maxLen) (hb : RdAt w R s i) (h : rd s i = some (n, k)) (hn : 2000000000 < n) : Calls Tryz.prog 68 #[.pointer (some ⟨R, 0, none⟩)] w fun e w' => Refused e ∧ w.grownBy w' (some R) := by
  have hsm := rd_small s i n k h
  have hn' : ((0 : Int) != (n : Int)) = true := by rw [bne_iff_ne]; omega
  have HF := hid (fun w' => impl_fold_all 0 (by omega) (by omega) w')
  rw [show fold 0 = 0 from rfl] at HF
  go_enter Tryz.func68, Tryz.ntmps68
  go_wp2_with fail
  refine (number_ok _ R s i n k hs hb h).mono ?_
  rintro e w1 ⟨rfl, hb1, hg⟩
  go_wp2_with fail
  refine (impl_unf_no n hn (by omega) _).mono ?_
  rintro e w2 ⟨rfl, rfl⟩
  go_wp2_with fail
  refine (HF.out _).mono ?_
  rintro e w3 ⟨rfl, rfl⟩
  go_wp2_with fail
  exact ⟨rfl, ⟨_, rfl⟩, hg⟩
theorem step_ok (w : World) (R : Nat) (s : ByteArray) (i : Int) (n k : Nat) (hs : s.size ≤ maxLen) (hb : RdAt w R s i) (h : rd s i = some (n, k)) (hn : n ≤ 2000000000) : Calls Tryz.prog 68 #[.pointer (some ⟨R, 0, none⟩)] w fun e w' => e = .returned (.int .i64 (unf n)) ∧ RdAt w' R s k ∧ w.grownBy w' (some R) := by
  have hu := unf_in n hn
  have HF := hid (fun w' => impl_fold_all (unf n) hu.1 hu.2 w')
  have HU := hid (fun w' => impl_unf n hn w')
  rw [fold_unf n] at HF
  generalize unf n = x at HF HU ⊢
  go_enter Tryz.func68, Tryz.ntmps68
  go_wp2_with fail
  refine (number_ok _ R s i n k hs hb h).mono ?_
  rintro e w1 ⟨rfl, hb1, hg⟩
  go_wp2_with fail
  refine (HU.out _).mono ?_
  rintro e w2 ⟨rfl, rfl⟩
  go_wp2_with fail
  refine (HF.out _).mono ?_
  rintro e w3 ⟨rfl, rfl⟩
  go_wp2_with fail
  go_ret
  exact ⟨rfl, hb1, hg⟩
end Go.Proofs.YtjafahhoihlliaaGreatDoor
