/- Lists of pairs of whole numbers, as a law holds them one against the other and marks them. -/
import Derived.Test.YtpgcnadmhbjlgaaGreatRwA0
import Derived.Test.YtpgcnadmhbjlgaaGreatRwG
namespace Go.Proofs.YtpgcnadmhbjlgaaGreat
open Go.RowKit
set_option linter.unusedSimpArgs false
set_option linter.unusedVariables false
set_option maxRecDepth 100000 in
set_option maxHeartbeats 1000000 in
theorem eq_arr (x y : Int) (w : World) : Calls Tryz.prog 24 #[.agg #[.int .i64 x, .int .i64 y], .agg #[.int .i64 x, .int .i64 y]] w fun e w' => e = .returned (.bool true) ∧ Below w.heap.size w w' := by
  have hB : Below w.heap.size w ((w.alloc (.cells #[.int .i64 x, .int .i64 y] 51)).alloc (.cells #[.int .i64 x, .int .i64 y] 51)) := balloc (balloc (Below.refl _ _) _) _
  have g0 := old_alloc (o' := .cells #[.int .i64 x, .int .i64 y] 51) (new_alloc w w.heap.size (.cells #[.int .i64 x, .int .i64 y] 51) rfl)
  have g1 := new_alloc (w.alloc (.cells #[.int .i64 x, .int .i64 y] 51)) (w.heap.size + 1) (.cells #[.int .i64 x, .int .i64 y] 51) (by simp)
  go_enter Tryz.func24, Tryz.ntmps24
  go_upto_region 1 with fail
  generalize (w.alloc (.cells #[.int .i64 x, .int .i64 y] 51)).alloc (.cells #[.int .i64 x, .int .i64 y] 51) = W at *
  go_wp2_with fail
  go_loopw [5] (fun ti wr => ∃ k : Nat, ti = .int .i64 k ∧ k ≤ 2 ∧ Hid (wr.heap[w.heap.size]? = some (.cells #[.int .i64 x, .int .i64 y] 51 (0, 0)) ∧ wr.heap[w.heap.size + 1]? = some (.cells #[.int .i64 x, .int .i64 y] 51 (0, 0)) ∧ Below w.heap.size w wr)) (fun ti _ => 2 - (intOf ti).toNat)
  case atStart => exact ⟨0, rfl, Nat.zero_le _, hid ⟨g0, g1, hB⟩⟩
  case round =>
    clear g0 g1 hB
    obtain ⟨k, rfl, hk, HH⟩ := hrel
    obtain ⟨x0, x1, _, _⟩ := cell2r HH.out.1
    obtain ⟨y0, y1, _, _⟩ := cell2r HH.out.2.1
    by_cases hlt : k < 2
    · have c1 : (k : Int) < 2 := by omega
      have hk0 : (0 : Int) ≤ (k : Int) := by omega
      obtain ⟨z, hx, hy⟩ : ∃ z, wr.cell? ⟨w.heap.size, k, none⟩ = some (.int .i64 z) ∧ wr.cell? ⟨w.heap.size + 1, k, none⟩ = some (.int .i64 z) := by
        obtain rfl | rfl : k = 0 ∨ k = 1 := by omega
        · exact ⟨x, x0, y0⟩
        · exact ⟨y, x1, y1⟩
      clear x0 x1 y0 y1
      go_wp2_with fail
      go_quiet (fail)
      go_wp2_with fail
      go_roundw
      case rel => exact ⟨k + 1, by go_num, by omega, hid ⟨HH.out.1, HH.out.2.1, HH.out.2.2.trans ⟨rfl, rfl, rfl, Nat.le_refl _, fun _ _ => rfl⟩⟩⟩
      case measure => simp [intOf]; omega
    · have hk2 : k = 2 := by omega
      subst hk2
      go_wp2_with fail
      go_ret
      exact ⟨rfl, HH.out.2.2⟩
set_option maxHeartbeats 1000000 in
theorem eq_prs (a b : Option Addr) (cap cap' : Nat) (ps : List (Int × Int)) (w : World) (hm : ps.length ≤ 1099511627776) (h : Pts w a ps) (h' : Pts w b ps) : Calls Tryz.prog 9 #[.slice a ps.length cap, .slice b ps.length cap'] w fun e w' => e = .returned (.bool true) ∧ Below w.heap.size w w' := by
  go_enter Tryz.func9, Tryz.ntmps9
  go_wp2_with fail
  go_loopw [5] (fun ti wr => ∃ k : Nat, ti = .int .i64 k ∧ k ≤ ps.length ∧ Below w.heap.size w wr) (fun ti _ => ps.length - (intOf ti).toNat)
  case atStart => exact ⟨0, rfl, Nat.zero_le _, Below.refl _ _⟩
  case round =>
    obtain ⟨k, rfl, hk, hb⟩ := hrel
    by_cases hlt : k < ps.length
    · rcases h with rfl | ⟨p, off, rfl, hps, hp⟩
      · simp at hlt
      rcases h' with rfl | ⟨q, off', rfl, hqs, hq⟩
      · simp at hlt
      obtain ⟨c0, c1⟩ := hp.below hps hb k hlt
      obtain ⟨d0, d1⟩ := hq.below hqs hb k hlt
      generalize hx : (ps.getD k (0, 0)).1 = x at c0 d0
      generalize hy : (ps.getD k (0, 0)).2 = y at c1 d1
      have Hp := hid hp
      have Hq := hid hq
      clear hx hy hp hq
      have hk0 : (0 : Int) ≤ (k : Int) := by omega
      have hk1 : (k : Int) < (ps.length : Int) := by omega
      go_wp2_with fail
      go_region_held3 (fun w' => w'.cell? ⟨p, off + k * 2, none⟩ = some (.int .i64 x) ∧ w'.cell? ⟨p, off + k * 2 + 1, none⟩ = some (.int .i64 y) ∧ w'.cell? ⟨q, off' + k * 2, none⟩ = some (.int .i64 x) ∧ w'.cell? ⟨q, off' + k * 2 + 1, none⟩ = some (.int .i64 y)) (first | (obtain ⟨zz0, zz1, zz2, zz3⟩ := (by with_reducible assumption : _ ∧ _); (repeat' apply And.intro) <;> (repeat (first | with_reducible assumption | refine keepcell (by with_reducible assumption) ?_ | refine keepdrew ?_ | refine keepalloc ?_ _)); done) | ((repeat' apply And.intro) <;> (repeat (first | with_reducible assumption | (refine newcell _ _ _ _ _ _ ?_ rfl; simp; done) | refine keepcell (by with_reducible assumption) ?_ | refine keepdrew ?_ | refine keepalloc ?_ _))))
        (first
          | (go_at_call 24; refine (eq_arr _ _ _).mono ?_; rintro e w1 ⟨rfl, hb1⟩))
      go_wp2_with fail
      go_roundw
      case rel => exact ⟨k + 1, by go_num, by omega, by (repeat (first | exact Below.refl _ _ | (refine btrans ?_ (by with_reducible assumption)) | refine bdrew ?_ | refine balloc ?_ _))⟩
      case measure => simp [intOf]; omega
    · have hk' : k = ps.length := by omega
      go_wp2_with fail
      go_ret
      exact ⟨rfl, hb⟩
/-- A list of pairs whose first m numbers are marked. -/
def MH (w : World) (b n m : Nat) (wr : World) : Prop := b < wr.heap.size ∧ (∀ i, i < m → wr.cell? ⟨b, i, none⟩ = some (.int .i64 (1 + (i : Int)))) ∧ wr.there b 0 (n * 2) ∧ w.grownBy wr (some b)
def Mk2 (w : World) (b n : Nat) : Prop := b < w.heap.size ∧ (∀ i, i < n * 2 → w.cell? ⟨b, i, none⟩ = some (.int .i64 (1 + (i : Int))))
theorem MH.next {w wr : World} {b n m : Nat} (h : MH w b n m wr) (hm : m < n * 2) : MH w b n (m + 1) (wr.setCell ⟨b, m, none⟩ (.int .i64 (1 + (m : Int)))) := by
  obtain ⟨r1, r2⟩ := setI (v := 1 + (m : Int)) h.1 hm h.2.1 h.2.2.1 rfl
  exact ⟨by simpa using h.1, r1, r2, grown_trans h.2.2.2 (grown_set _ _ _ _)⟩
set_option maxRecDepth 100000 in
set_option maxHeartbeats 1000000 in
theorem mark_prs (w : World) (b cap : Nat) (ps : List (Int × Int)) (hm : ps.length ≤ 1099511627776) (h : PtsOwn w b ps) : Calls Tryz.prog 12 #[.slice (some ⟨b, 0, none⟩) ps.length cap, .int .i64 1] w fun e w' => e = .returned (.int .i64 (1 + 2 * (ps.length : Int))) ∧ Mk2 w' b ps.length ∧ w.grownBy w' (some b) := by
  obtain ⟨hb, _, ht⟩ := h
  generalize ps.length = n at *
  have HM0 : Hid (MH w b n 0 w) := hid ⟨hb, fun j hj => absurd hj (by omega), ht, grown_same _ _⟩
  clear ht
  go_enter Tryz.func12, Tryz.ntmps12
  go_wp2_with fail
  go_loopw [1, 5] (fun tk' ti wr => ∃ k : Nat, ti = .int .i64 k ∧ tk' = .int .i64 (1 + 2 * (k : Int)) ∧ k ≤ n ∧ Hid (MH w b n (k * 2) wr)) (fun _ ti _ => n - (intOf ti).toNat)
  case atStart => exact ⟨0, rfl, rfl, Nat.zero_le _, HM0⟩
  case round =>
    clear HM0
    obtain ⟨k, rfl, rfl, hk, HH⟩ := hrel
    by_cases hlt : k < n
    · have c1 : (k : Int) < (n : Int) := by omega
      go_wp2_with fail
      go_loopw [1, 6] (fun tk' tj wr' => ∃ j : Nat, tj = .int .i64 j ∧ tk' = .int .i64 (1 + 2 * (k : Int) + (j : Int)) ∧ j ≤ 2 ∧ Hid (MH w b n (k * 2 + j) wr')) (fun _ tj _ => 2 - (intOf tj).toNat)
      case atStart => exact ⟨0, rfl, by simp, Nat.zero_le _, HH⟩
      case round =>
        clear HH
        obtain ⟨j, rfl, rfl, hj, HH⟩ := hrel
        by_cases hl2 : j < 2
        · have c2 : (j : Int) < 2 := by omega
          have c3 : (0 : Int) ≤ (j : Int) := by omega
          have c4 : (0 : Int) ≤ (k : Int) := by omega
          obtain ⟨g0, g0'⟩ := HH.out.2.2.1 (k * 2 + j) (by omega)
          obtain ⟨u0, hu0⟩ := Option.isSome_iff_exists.1 g0
          simp only [Nat.zero_add] at hu0 g0'
          have HN := hid (HH.out.next (by omega))
          rw [show (1 : Int) + ((k * 2 + j : Nat) : Int) = 1 + 2 * (k : Int) + (j : Int) by omega] at HN
          clear g0 HH
          go_wp2_with fail
          go_roundw
          case rel => exact ⟨j + 1, by go_num, by go_num, by omega, HN⟩
          case measure => simp [intOf]; omega
        · have hj2 : j = 2 := by omega
          subst hj2
          go_wp2_with fail
          go_roundw
          case rel => exact ⟨k + 1, by go_num, by go_num, by omega, hid (by have := HH.out; rw [show (k + 1) * 2 = k * 2 + 2 by omega]; exact this)⟩
          case measure => simp [intOf]; omega
    · obtain rfl : k = n := by omega
      go_wp2_with fail
      go_ret
      exact ⟨rfl, ⟨HH.out.1, HH.out.2.1⟩, HH.out.2.2.2⟩
set_option maxRecDepth 100000 in
set_option maxHeartbeats 1000000 in
theorem held_prs (w : World) (b cap n : Nat) (hm : n ≤ 1099511627776) (h : Mk2 w b n) : Calls Tryz.prog 13 #[.slice (some ⟨b, 0, none⟩) n cap, .int .i64 1] w fun e w' => e = .returned (.int .i64 (1 + 2 * (n : Int))) ∧ Below w.heap.size w w' := by
  have HP := hid h
  clear h
  go_enter Tryz.func13, Tryz.ntmps13
  go_wp2_with fail
  go_loopw [1, 5] (fun tk' ti wr => ∃ k : Nat, ti = .int .i64 k ∧ tk' = .int .i64 (1 + 2 * (k : Int)) ∧ k ≤ n ∧ wr = w) (fun _ ti _ => n - (intOf ti).toNat)
  case atStart => exact ⟨0, rfl, rfl, Nat.zero_le _, rfl⟩
  case round =>
    obtain ⟨k, rfl, rfl, hk, hw⟩ := hrel
    subst hw
    by_cases hlt : k < n
    · have c1 : (k : Int) < (n : Int) := by omega
      go_wp2_with fail
      go_loopw [1, 6] (fun tk' tj wr' => ∃ j : Nat, tj = .int .i64 j ∧ tk' = .int .i64 (1 + 2 * (k : Int) + (j : Int)) ∧ j ≤ 2 ∧ wr' = wr) (fun _ tj _ => 2 - (intOf tj).toNat)
      case atStart => exact ⟨0, rfl, by simp, Nat.zero_le _, rfl⟩
      case round =>
        obtain ⟨j, rfl, rfl, hj, hw⟩ := hrel
        subst hw
        by_cases hl2 : j < 2
        · have c2 : (j : Int) < 2 := by omega
          have c3 : (0 : Int) ≤ (j : Int) := by omega
          have c4 : (0 : Int) ≤ (k : Int) := by omega
          have d0 := HP.out.2 (k * 2 + j) (by omega)
          rw [show (1 : Int) + ((k * 2 + j : Nat) : Int) = 1 + 2 * (k : Int) + (j : Int) by omega] at d0
          go_wp2_with fail
          go_roundw
          case rel => exact ⟨j + 1, by go_num, by go_num, by omega, by first | rfl | trivial⟩
          case measure => simp [intOf]; omega
        · have hj2 : j = 2 := by omega
          subst hj2
          go_wp2_with fail
          go_roundw
          case rel => exact ⟨k + 1, by go_num, by go_num, by omega, by first | rfl | trivial⟩
          case measure => simp [intOf]; omega
    · obtain rfl : k = n := by omega
      go_wp2_with fail
      go_ret
      exact ⟨rfl, Below.refl _ _⟩
end Go.Proofs.YtpgcnadmhbjlgaaGreat
