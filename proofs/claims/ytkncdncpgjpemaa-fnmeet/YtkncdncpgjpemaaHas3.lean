/- Whether a shape has a point: the landed ShapeHas. -/
import Derived.Test.YtkncdncpgjpemaaHas2
namespace Go.Proofs.Ytkncdncpgjpemaa
open Go.RowKit
set_option linter.unusedSimpArgs false
set_option linter.unusedVariables false
def hasP (k : Int) (ps : List (Int × Int)) (px py : Int) : Bool := if k = 0 then ((ps.getD 0 (0, 0)).1 == px && (ps.getD 0 (0, 0)).2 == py) else if k = 1 then anyOn px py (alongSides ps) (alongSides ps).length else if k = 2 then hasb (ps.getD 0 (0, 0)).1 (ps.getD 0 (0, 0)).2 (ps.getD 1 (0, 0)).1 (ps.getD 1 (0, 0)).2 px py else (ringv px py ps != 0)
theorem shok_allok {k : Int} {ps : List (Int × Int)} (h : shok k ps = true) : allok ps = true := by
  cases ha : allok ps
  · rw [shok_no ha] at h; cases h
  · rfl
theorem shok_kind {k : Int} {ps : List (Int × Int)} (h : shok k ps = true) : (k = 0 ∧ ps.length = 1) ∨ (k = 1 ∧ 2 ≤ ps.length ∧ ps.length ≤ 60) ∨ (k = 2 ∧ ps.length = 2) ∨ (k = 3 ∧ 3 ≤ ps.length ∧ ps.length ≤ 60) := by
  unfold shok at h
  split at h
  · rename_i e
    simp only [Bool.and_eq_true, decide_eq_true_eq] at h
    exact .inl ⟨e, h.1⟩
  split at h
  · rename_i e
    simp only [lineb, Bool.and_eq_true, decide_eq_true_eq] at h
    exact .inr (.inl ⟨e, h.1.1.1, h.1.1.2⟩)
  split at h
  · rename_i e
    simp only [rectb, Bool.and_eq_true, decide_eq_true_eq] at h
    exact .inr (.inr (.inl ⟨e, h.1.1⟩))
  split at h
  · rename_i e
    simp only [ringOk, Bool.and_eq_true, decide_eq_true_eq] at h
    exact .inr (.inr (.inr ⟨e, h.1.1.1, h.1.1.2⟩))
  · cases h
set_option maxHeartbeats 2000000 in
theorem impl_ShapeHas (k px py : Int) (a : Option Addr) (cap : Nat) (ps : List (Int × Int)) (w : World) (hm : ps.length ≤ 1099511627776) (hc : ps.length ≤ cap) (h : Pts w a ps) : Calls Try.prog 51 #[shv k a ps.length cap, .agg #[.int .i64 px, .int .i64 py]] w fun e w' => e = .returned (.bool (pok px py && shok k ps && hasP k ps px py)) ∧ Below w.heap.size w w' := by
  have hpk := fun w' => ok_b px py w'
  have hok := fun w' (hw : Pts w' a ps) => impl_ShapeOk k a cap ps w' hm hc hw
  have Hh := hid h
  clear h
  cases hp : pok px py
  · rw [Bool.false_and, Bool.false_and]
    rw [hp] at hpk
    have Hpk := hid hpk
    have Hok := hid hok
    clear hpk hok
    go_enter Try.func51, Try.ntmps51
    go_wp2_with fail
    have q0 : ((w.alloc (.cells #[.int .i64 k, .slice a ps.length cap] 52)).alloc (.cells #[.int .i64 px, .int .i64 py] 25)).cell? ⟨w.heap.size, 0, none⟩ = some (.int .i64 k) := by (repeat (first | with_reducible assumption | (refine newcell _ _ _ _ _ _ ?_ rfl; simp; done) | refine keepcell (by with_reducible assumption) ?_ | refine keepdrew ?_ | refine keepalloc ?_ _))
    have q1 : ((w.alloc (.cells #[.int .i64 k, .slice a ps.length cap] 52)).alloc (.cells #[.int .i64 px, .int .i64 py] 25)).cell? ⟨w.heap.size, 1, none⟩ = some (.slice a ps.length cap) := by (repeat (first | with_reducible assumption | (refine newcell _ _ _ _ _ _ ?_ rfl; simp; done) | refine keepcell (by with_reducible assumption) ?_ | refine keepdrew ?_ | refine keepalloc ?_ _))
    have q2 : ((w.alloc (.cells #[.int .i64 k, .slice a ps.length cap] 52)).alloc (.cells #[.int .i64 px, .int .i64 py] 25)).cell? ⟨w.heap.size + 1, 0, none⟩ = some (.int .i64 px) := by (repeat (first | with_reducible assumption | (refine newcell _ _ _ _ _ _ ?_ rfl; simp; done) | refine keepcell (by with_reducible assumption) ?_ | refine keepdrew ?_ | refine keepalloc ?_ _))
    have q3 : ((w.alloc (.cells #[.int .i64 k, .slice a ps.length cap] 52)).alloc (.cells #[.int .i64 px, .int .i64 py] 25)).cell? ⟨w.heap.size + 1, 1, none⟩ = some (.int .i64 py) := by (repeat (first | with_reducible assumption | (refine newcell _ _ _ _ _ _ ?_ rfl; simp; done) | refine keepcell (by with_reducible assumption) ?_ | refine keepdrew ?_ | refine keepalloc ?_ _))
    have hBW : Below w.heap.size w ((w.alloc (.cells #[.int .i64 k, .slice a ps.length cap] 52)).alloc (.cells #[.int .i64 px, .int .i64 py] 25)) := by (repeat (first | with_reducible exact Below.refl _ _ | with_reducible assumption | (with_reducible refine btrans ?_ (by with_reducible assumption)) | with_reducible refine bdrew ?_ | with_reducible refine balloc ?_ _))
    generalize ((w.alloc (.cells #[.int .i64 k, .slice a ps.length cap] 52)).alloc (.cells #[.int .i64 px, .int .i64 py] 25)) = W at *
    refine wp_region_held_drew (S := (fun w' => w'.cell? ⟨w.heap.size, 0, none⟩ = some (.int .i64 k) ∧ w'.cell? ⟨w.heap.size, 1, none⟩ = some (.slice a ps.length cap) ∧ w'.cell? ⟨w.heap.size + 1, 0, none⟩ = some (.int .i64 px) ∧ w'.cell? ⟨w.heap.size + 1, 1, none⟩ = some (.int .i64 py))) (by kernel_rfl) ?_ (fun hHeld => ?_)
    · (repeat' apply And.intro) <;> (repeat (first | with_reducible assumption | with_reducible refine keepset ?_ (by dsimp only; omega) | with_reducible refine keepdrew ?_ | with_reducible refine keepcell (by with_reducible assumption) ?_ | with_reducible refine keepalloc ?_ _))
    refine wpAnyH_take (i := 0) (v := ?_) rfl (by kernel_rfl) (by kernel_rfl) (by kernel_rfl) (fun _ _ _ h => h) (Or.inl ⟨by rfl, ?_⟩) hHeld ?_
    rotate_left
    · intro w hSw; (try dsimp only at hSw); go_simp; try (with_reducible rfl)
    try simp only [sq]
    refine wpAnyH_ready (rs := [1]) (by kernel_rfl) (by simp) ?_
    refine AllReadyH.cons rfl (fun K hK => ?_) AllReadyH.nil
    try simp only [sq]
    go_simp
    (first
        | (go_at_call 79; refine (Hpk.out _).mono ?_; rintro e v1 ⟨rfl, hbv1⟩))
    go_wp2_with fail
    refine hK.out _ _ ?_ (fun hHeld => ?_)
    · (repeat' apply And.intro) <;> (repeat (first | with_reducible assumption | with_reducible refine keepset ?_ (by dsimp only; omega) | with_reducible refine keepdrew ?_ | with_reducible refine keepcell (by with_reducible assumption) ?_ | with_reducible refine keepalloc ?_ _))
    clear hK K
    try simp only [sq]
    refine wpAnyH_take (i := 2) (v := ?_) rfl (by kernel_rfl) (by kernel_rfl) (by kernel_rfl) (fun _ _ _ h => h) (Or.inl ⟨by rfl, ?_⟩) hHeld ?_
    rotate_left
    · intro w hSw; (try dsimp only at hSw); go_simp; try (with_reducible rfl)
    try simp only [sq]
    refine wpAnyH_take (i := 3) (v := undef) rfl (by kernel_rfl) (by kernel_rfl) (by kernel_rfl) (fun _ _ _ h => h) (Or.inr ⟨by rfl, rfl⟩) hHeld ?_
    try simp only [sq]
    refine wpAnyH_take (i := 4) (v := undef) rfl (by kernel_rfl) (by kernel_rfl) (by kernel_rfl) (fun _ _ _ h => h) (Or.inr ⟨by rfl, rfl⟩) hHeld ?_
    try simp only [sq]
    refine wpAnyH_take (i := 5) (v := ?_) rfl (by kernel_rfl) (by kernel_rfl) (by kernel_rfl) (fun _ _ _ h => h) (Or.inl ⟨by rfl, ?_⟩) hHeld ?_
    rotate_left
    · intro w hSw; (try dsimp only at hSw); go_simp; try (with_reducible rfl)
    try simp only [sq]
    refine wpAnyH_take (i := 6) (v := ?_) rfl (by kernel_rfl) (by kernel_rfl) (by kernel_rfl) (fun _ _ _ h => h) (Or.inl ⟨by rfl, ?_⟩) hHeld ?_
    rotate_left
    · intro w hSw; (try dsimp only at hSw); go_simp; try (with_reducible rfl)
    try simp only [sq]
    refine wpAnyH_take (i := 7) (v := undef) rfl (by kernel_rfl) (by kernel_rfl) (by kernel_rfl) (fun _ _ _ h => h) (Or.inr ⟨by rfl, rfl⟩) hHeld ?_
    try simp only [sq]
    refine wpAnyH_take (i := 8) (v := undef) rfl (by kernel_rfl) (by kernel_rfl) (by kernel_rfl) (fun _ _ _ h => h) (Or.inr ⟨by rfl, rfl⟩) hHeld ?_
    try simp only [sq]
    refine wpAnyH_take (i := 9) (v := undef) rfl (by kernel_rfl) (by kernel_rfl) (by kernel_rfl) (fun _ _ _ h => h) (Or.inr ⟨by rfl, rfl⟩) hHeld ?_
    try simp only [sq]
    refine wpAnyH_take (i := 10) (v := undef) rfl (by kernel_rfl) (by kernel_rfl) (by kernel_rfl) (fun _ _ _ h => h) (Or.inr ⟨by rfl, rfl⟩) hHeld ?_
    try simp only [sq]
    refine wpAnyH_take (i := 11) (v := ?_) rfl (by kernel_rfl) (by kernel_rfl) (by kernel_rfl) (fun _ _ _ h => h) (Or.inl ⟨by rfl, ?_⟩) hHeld ?_
    rotate_left
    · intro w hSw; (try dsimp only at hSw); go_simp; try (with_reducible rfl)
    try simp only [sq]
    refine wpAnyH_take (i := 12) (v := ?_) rfl (by kernel_rfl) (by kernel_rfl) (by kernel_rfl) (fun _ _ _ h => h) (Or.inl ⟨by rfl, ?_⟩) hHeld ?_
    rotate_left
    · intro w hSw; (try dsimp only at hSw); go_simp; try (with_reducible rfl)
    try simp only [sq]
    refine wpAnyH_done (by kernel_rfl) ?_ _
    go_wp2_with fail
    go_ret
    exact ⟨rfl, by (repeat (first | with_reducible exact Below.refl _ _ | with_reducible assumption | (with_reducible refine btrans ?_ (by with_reducible assumption)) | with_reducible refine bdrew ?_ | with_reducible refine balloc ?_ _))⟩
  obtain ⟨hi1, hi2⟩ := in_of_pok hp
  rw [hp] at hpk
  have Hpk := hid hpk
  clear hpk hp
  cases hs : shok k ps
  · rw [Bool.and_false, Bool.false_and]
    rw [hs] at hok
    have Hok := hid hok
    clear hok
    go_enter Try.func51, Try.ntmps51
    go_wp2_with fail
    have q0 : ((w.alloc (.cells #[.int .i64 k, .slice a ps.length cap] 52)).alloc (.cells #[.int .i64 px, .int .i64 py] 25)).cell? ⟨w.heap.size, 0, none⟩ = some (.int .i64 k) := by (repeat (first | with_reducible assumption | (refine newcell _ _ _ _ _ _ ?_ rfl; simp; done) | refine keepcell (by with_reducible assumption) ?_ | refine keepdrew ?_ | refine keepalloc ?_ _))
    have q1 : ((w.alloc (.cells #[.int .i64 k, .slice a ps.length cap] 52)).alloc (.cells #[.int .i64 px, .int .i64 py] 25)).cell? ⟨w.heap.size, 1, none⟩ = some (.slice a ps.length cap) := by (repeat (first | with_reducible assumption | (refine newcell _ _ _ _ _ _ ?_ rfl; simp; done) | refine keepcell (by with_reducible assumption) ?_ | refine keepdrew ?_ | refine keepalloc ?_ _))
    have q2 : ((w.alloc (.cells #[.int .i64 k, .slice a ps.length cap] 52)).alloc (.cells #[.int .i64 px, .int .i64 py] 25)).cell? ⟨w.heap.size + 1, 0, none⟩ = some (.int .i64 px) := by (repeat (first | with_reducible assumption | (refine newcell _ _ _ _ _ _ ?_ rfl; simp; done) | refine keepcell (by with_reducible assumption) ?_ | refine keepdrew ?_ | refine keepalloc ?_ _))
    have q3 : ((w.alloc (.cells #[.int .i64 k, .slice a ps.length cap] 52)).alloc (.cells #[.int .i64 px, .int .i64 py] 25)).cell? ⟨w.heap.size + 1, 1, none⟩ = some (.int .i64 py) := by (repeat (first | with_reducible assumption | (refine newcell _ _ _ _ _ _ ?_ rfl; simp; done) | refine keepcell (by with_reducible assumption) ?_ | refine keepdrew ?_ | refine keepalloc ?_ _))
    have hBW : Below w.heap.size w ((w.alloc (.cells #[.int .i64 k, .slice a ps.length cap] 52)).alloc (.cells #[.int .i64 px, .int .i64 py] 25)) := by (repeat (first | with_reducible exact Below.refl _ _ | with_reducible assumption | (with_reducible refine btrans ?_ (by with_reducible assumption)) | with_reducible refine bdrew ?_ | with_reducible refine balloc ?_ _))
    generalize ((w.alloc (.cells #[.int .i64 k, .slice a ps.length cap] 52)).alloc (.cells #[.int .i64 px, .int .i64 py] 25)) = W at *
    refine wp_region_held_drew (S := (fun w' => w'.cell? ⟨w.heap.size, 0, none⟩ = some (.int .i64 k) ∧ w'.cell? ⟨w.heap.size, 1, none⟩ = some (.slice a ps.length cap) ∧ w'.cell? ⟨w.heap.size + 1, 0, none⟩ = some (.int .i64 px) ∧ w'.cell? ⟨w.heap.size + 1, 1, none⟩ = some (.int .i64 py))) (by kernel_rfl) ?_ (fun hHeld => ?_)
    · (repeat' apply And.intro) <;> (repeat (first | with_reducible assumption | with_reducible refine keepset ?_ (by dsimp only; omega) | with_reducible refine keepdrew ?_ | with_reducible refine keepcell (by with_reducible assumption) ?_ | with_reducible refine keepalloc ?_ _))
    refine wpAnyH_take (i := 0) (v := ?_) rfl (by kernel_rfl) (by kernel_rfl) (by kernel_rfl) (fun _ _ _ h => h) (Or.inl ⟨by rfl, ?_⟩) hHeld ?_
    rotate_left
    · intro w hSw; (try dsimp only at hSw); go_simp; try (with_reducible rfl)
    try simp only [sq]
    refine wpAnyH_ready (rs := [1]) (by kernel_rfl) (by simp) ?_
    refine AllReadyH.cons rfl (fun K hK => ?_) AllReadyH.nil
    try simp only [sq]
    go_simp
    (first
        | (go_at_call 79; refine (Hpk.out _).mono ?_; rintro e v1 ⟨rfl, hbv1⟩)
        | (go_at_call 94; refine (Hok.out _ (Hh.out.below ?_)).mono ?_; exact (by (repeat (first | with_reducible exact Below.refl _ _ | with_reducible assumption | (with_reducible refine btrans ?_ (by with_reducible assumption)) | with_reducible refine bdrew ?_ | with_reducible refine balloc ?_ _))); rintro e v2 ⟨rfl, hbv2⟩))
    go_wp2_with fail
    refine hK.out _ _ ?_ (fun hHeld => ?_)
    · (repeat' apply And.intro) <;> (repeat (first | with_reducible assumption | with_reducible refine keepset ?_ (by dsimp only; omega) | with_reducible refine keepdrew ?_ | with_reducible refine keepcell (by with_reducible assumption) ?_ | with_reducible refine keepalloc ?_ _))
    clear hK K
    try simp only [sq]
    refine wpAnyH_take (i := 2) (v := ?_) rfl (by kernel_rfl) (by kernel_rfl) (by kernel_rfl) (fun _ _ _ h => h) (Or.inl ⟨by rfl, ?_⟩) hHeld ?_
    rotate_left
    · intro w hSw; (try dsimp only at hSw); go_simp; try (with_reducible rfl)
    try simp only [sq]
    refine wpAnyH_take (i := 3) (v := ?_) rfl (by kernel_rfl) (by kernel_rfl) (by kernel_rfl) (fun _ _ _ h => h) (Or.inl ⟨by rfl, ?_⟩) hHeld ?_
    rotate_left
    · intro w hSw; (try dsimp only at hSw); go_simp; try (with_reducible rfl)
    try simp only [sq]
    refine wpAnyH_ready (rs := [4]) (by kernel_rfl) (by simp) ?_
    refine AllReadyH.cons rfl (fun K hK => ?_) AllReadyH.nil
    try simp only [sq]
    go_simp
    (first
        | (go_at_call 79; refine (Hpk.out _).mono ?_; rintro e v1 ⟨rfl, hbv1⟩)
        | (go_at_call 94; refine (Hok.out _ (Hh.out.below ?_)).mono ?_; exact (by (repeat (first | with_reducible exact Below.refl _ _ | with_reducible assumption | (with_reducible refine btrans ?_ (by with_reducible assumption)) | with_reducible refine bdrew ?_ | with_reducible refine balloc ?_ _))); rintro e v2 ⟨rfl, hbv2⟩))
    go_wp2_with fail
    refine hK.out _ _ ?_ (fun hHeld => ?_)
    · (repeat' apply And.intro) <;> (repeat (first | with_reducible assumption | with_reducible refine keepset ?_ (by dsimp only; omega) | with_reducible refine keepdrew ?_ | with_reducible refine keepcell (by with_reducible assumption) ?_ | with_reducible refine keepalloc ?_ _))
    clear hK K
    try simp only [sq]
    refine wpAnyH_take (i := 5) (v := ?_) rfl (by kernel_rfl) (by kernel_rfl) (by kernel_rfl) (fun _ _ _ h => h) (Or.inl ⟨by rfl, ?_⟩) hHeld ?_
    rotate_left
    · intro w hSw; (try dsimp only at hSw); go_simp; try (with_reducible rfl)
    try simp only [sq]
    refine wpAnyH_take (i := 6) (v := ?_) rfl (by kernel_rfl) (by kernel_rfl) (by kernel_rfl) (fun _ _ _ h => h) (Or.inl ⟨by rfl, ?_⟩) hHeld ?_
    rotate_left
    · intro w hSw; (try dsimp only at hSw); go_simp; try (with_reducible rfl)
    try simp only [sq]
    refine wpAnyH_take (i := 7) (v := undef) rfl (by kernel_rfl) (by kernel_rfl) (by kernel_rfl) (fun _ _ _ h => h) (Or.inr ⟨by rfl, rfl⟩) hHeld ?_
    try simp only [sq]
    refine wpAnyH_take (i := 8) (v := undef) rfl (by kernel_rfl) (by kernel_rfl) (by kernel_rfl) (fun _ _ _ h => h) (Or.inr ⟨by rfl, rfl⟩) hHeld ?_
    try simp only [sq]
    refine wpAnyH_take (i := 9) (v := undef) rfl (by kernel_rfl) (by kernel_rfl) (by kernel_rfl) (fun _ _ _ h => h) (Or.inr ⟨by rfl, rfl⟩) hHeld ?_
    try simp only [sq]
    refine wpAnyH_take (i := 10) (v := undef) rfl (by kernel_rfl) (by kernel_rfl) (by kernel_rfl) (fun _ _ _ h => h) (Or.inr ⟨by rfl, rfl⟩) hHeld ?_
    try simp only [sq]
    refine wpAnyH_take (i := 11) (v := ?_) rfl (by kernel_rfl) (by kernel_rfl) (by kernel_rfl) (fun _ _ _ h => h) (Or.inl ⟨by rfl, ?_⟩) hHeld ?_
    rotate_left
    · intro w hSw; (try dsimp only at hSw); go_simp; try (with_reducible rfl)
    try simp only [sq]
    refine wpAnyH_take (i := 12) (v := ?_) rfl (by kernel_rfl) (by kernel_rfl) (by kernel_rfl) (fun _ _ _ h => h) (Or.inl ⟨by rfl, ?_⟩) hHeld ?_
    rotate_left
    · intro w hSw; (try dsimp only at hSw); go_simp; try (with_reducible rfl)
    try simp only [sq]
    refine wpAnyH_done (by kernel_rfl) ?_ _
    go_wp2_with fail
    go_ret
    exact ⟨rfl, by (repeat (first | with_reducible exact Below.refl _ _ | with_reducible assumption | (with_reducible refine btrans ?_ (by with_reducible assumption)) | with_reducible refine bdrew ?_ | with_reducible refine balloc ?_ _))⟩
  rw [Bool.and_true, Bool.true_and]
  rw [hs] at hok
  have ha := shok_allok hs
  rcases shok_kind hs with ⟨rfl, hl⟩ | ⟨rfl, hl⟩ | ⟨rfl, hl⟩ | ⟨rfl, hl⟩
  · obtain ⟨⟨x, y⟩, rfl⟩ := List.length_eq_one_iff.1 hl
    have hv : hasP 0 [(x, y)] px py = (x == px && y == py) := rfl
    rw [hv]
    have hhs := fun w' (hw : Pts w' a [(x, y)]) => dot_has x y px py a cap w' hw
    generalize (x == px && y == py) = V at *
    have Hok := hid hok
    have Hhs := hid hhs
    clear hok hhs hv hs ha hl hm
    simp only [List.length_cons, List.length_nil, Nat.zero_add] at *
    go_enter Try.func51, Try.ntmps51
    go_wp2_with fail
    have q0 : ((w.alloc (.cells #[.int .i64 0, .slice a 1 cap] 52)).alloc (.cells #[.int .i64 px, .int .i64 py] 25)).cell? ⟨w.heap.size, 0, none⟩ = some (.int .i64 0) := by (repeat (first | with_reducible assumption | (refine newcell _ _ _ _ _ _ ?_ rfl; simp; done) | refine keepcell (by with_reducible assumption) ?_ | refine keepdrew ?_ | refine keepalloc ?_ _))
    have q1 : ((w.alloc (.cells #[.int .i64 0, .slice a 1 cap] 52)).alloc (.cells #[.int .i64 px, .int .i64 py] 25)).cell? ⟨w.heap.size, 1, none⟩ = some (.slice a 1 cap) := by (repeat (first | with_reducible assumption | (refine newcell _ _ _ _ _ _ ?_ rfl; simp; done) | refine keepcell (by with_reducible assumption) ?_ | refine keepdrew ?_ | refine keepalloc ?_ _))
    have q2 : ((w.alloc (.cells #[.int .i64 0, .slice a 1 cap] 52)).alloc (.cells #[.int .i64 px, .int .i64 py] 25)).cell? ⟨w.heap.size + 1, 0, none⟩ = some (.int .i64 px) := by (repeat (first | with_reducible assumption | (refine newcell _ _ _ _ _ _ ?_ rfl; simp; done) | refine keepcell (by with_reducible assumption) ?_ | refine keepdrew ?_ | refine keepalloc ?_ _))
    have q3 : ((w.alloc (.cells #[.int .i64 0, .slice a 1 cap] 52)).alloc (.cells #[.int .i64 px, .int .i64 py] 25)).cell? ⟨w.heap.size + 1, 1, none⟩ = some (.int .i64 py) := by (repeat (first | with_reducible assumption | (refine newcell _ _ _ _ _ _ ?_ rfl; simp; done) | refine keepcell (by with_reducible assumption) ?_ | refine keepdrew ?_ | refine keepalloc ?_ _))
    have hBW : Below w.heap.size w ((w.alloc (.cells #[.int .i64 0, .slice a 1 cap] 52)).alloc (.cells #[.int .i64 px, .int .i64 py] 25)) := by (repeat (first | with_reducible exact Below.refl _ _ | with_reducible assumption | (with_reducible refine btrans ?_ (by with_reducible assumption)) | with_reducible refine bdrew ?_ | with_reducible refine balloc ?_ _))
    generalize ((w.alloc (.cells #[.int .i64 0, .slice a 1 cap] 52)).alloc (.cells #[.int .i64 px, .int .i64 py] 25)) = W at *
    go_region_held3 (fun w' => w'.cell? ⟨w.heap.size, 0, none⟩ = some (.int .i64 0) ∧ w'.cell? ⟨w.heap.size, 1, none⟩ = some (.slice a 1 cap) ∧ w'.cell? ⟨w.heap.size + 1, 0, none⟩ = some (.int .i64 px) ∧ w'.cell? ⟨w.heap.size + 1, 1, none⟩ = some (.int .i64 py)) ((go_split_ands; (repeat' apply And.intro) <;> (repeat (first | with_reducible assumption | with_reducible refine keepset ?_ (by dsimp only; omega) | with_reducible refine keepdrew ?_ | with_reducible refine keepcell (by with_reducible assumption) ?_ | with_reducible refine keepalloc ?_ _))))
      (first
        | (go_at_call 79; refine (Hpk.out _).mono ?_; rintro e v1 ⟨rfl, hbv1⟩)
        | (go_at_call 94; refine (Hok.out _ (Hh.out.below ?_)).mono ?_; exact (by (repeat (first | with_reducible exact Below.refl _ _ | with_reducible assumption | (with_reducible refine btrans ?_ (by with_reducible assumption)) | with_reducible refine bdrew ?_ | with_reducible refine balloc ?_ _))); rintro e v2 ⟨rfl, hbv2⟩)
        | (go_at_call 96; refine (fig_dot _ _ _ _).mono ?_; rintro e v3 ⟨rfl, hbv3⟩)
        | (go_at_call 152; refine (Hhs.out _ (Hh.out.below ?_)).mono ?_; exact (by (repeat (first | with_reducible exact Below.refl _ _ | with_reducible assumption | (with_reducible refine btrans ?_ (by with_reducible assumption)) | with_reducible refine bdrew ?_ | with_reducible refine balloc ?_ _))); rintro e v4 ⟨rfl, hbv4⟩))
    go_wp2_with fail
    go_ret
    exact ⟨rfl, by (repeat (first | with_reducible exact Below.refl _ _ | with_reducible assumption | (with_reducible refine btrans ?_ (by with_reducible assumption)) | with_reducible refine bdrew ?_ | with_reducible refine balloc ?_ _))⟩
  · have hv : hasP 1 ps px py = anyOn px py (alongSides ps) (alongSides ps).length := rfl
    rw [hv]
    have hhs := fun w' (hw : Pts w' a ps) => path_has px py a cap ps w' hm hc hw (by omega) hi1 hi2 ha
    generalize anyOn px py (alongSides ps) (alongSides ps).length = V at *
    have Hok := hid hok
    have Hhs := hid hhs
    clear hok hhs hv hs ha
    go_enter Try.func51, Try.ntmps51
    go_wp2_with fail
    have q0 : ((w.alloc (.cells #[.int .i64 1, .slice a ps.length cap] 52)).alloc (.cells #[.int .i64 px, .int .i64 py] 25)).cell? ⟨w.heap.size, 0, none⟩ = some (.int .i64 1) := by (repeat (first | with_reducible assumption | (refine newcell _ _ _ _ _ _ ?_ rfl; simp; done) | refine keepcell (by with_reducible assumption) ?_ | refine keepdrew ?_ | refine keepalloc ?_ _))
    have q1 : ((w.alloc (.cells #[.int .i64 1, .slice a ps.length cap] 52)).alloc (.cells #[.int .i64 px, .int .i64 py] 25)).cell? ⟨w.heap.size, 1, none⟩ = some (.slice a ps.length cap) := by (repeat (first | with_reducible assumption | (refine newcell _ _ _ _ _ _ ?_ rfl; simp; done) | refine keepcell (by with_reducible assumption) ?_ | refine keepdrew ?_ | refine keepalloc ?_ _))
    have q2 : ((w.alloc (.cells #[.int .i64 1, .slice a ps.length cap] 52)).alloc (.cells #[.int .i64 px, .int .i64 py] 25)).cell? ⟨w.heap.size + 1, 0, none⟩ = some (.int .i64 px) := by (repeat (first | with_reducible assumption | (refine newcell _ _ _ _ _ _ ?_ rfl; simp; done) | refine keepcell (by with_reducible assumption) ?_ | refine keepdrew ?_ | refine keepalloc ?_ _))
    have q3 : ((w.alloc (.cells #[.int .i64 1, .slice a ps.length cap] 52)).alloc (.cells #[.int .i64 px, .int .i64 py] 25)).cell? ⟨w.heap.size + 1, 1, none⟩ = some (.int .i64 py) := by (repeat (first | with_reducible assumption | (refine newcell _ _ _ _ _ _ ?_ rfl; simp; done) | refine keepcell (by with_reducible assumption) ?_ | refine keepdrew ?_ | refine keepalloc ?_ _))
    have hBW : Below w.heap.size w ((w.alloc (.cells #[.int .i64 1, .slice a ps.length cap] 52)).alloc (.cells #[.int .i64 px, .int .i64 py] 25)) := by (repeat (first | with_reducible exact Below.refl _ _ | with_reducible assumption | (with_reducible refine btrans ?_ (by with_reducible assumption)) | with_reducible refine bdrew ?_ | with_reducible refine balloc ?_ _))
    generalize ((w.alloc (.cells #[.int .i64 1, .slice a ps.length cap] 52)).alloc (.cells #[.int .i64 px, .int .i64 py] 25)) = W at *
    go_region_held3 (fun w' => w'.cell? ⟨w.heap.size, 0, none⟩ = some (.int .i64 1) ∧ w'.cell? ⟨w.heap.size, 1, none⟩ = some (.slice a ps.length cap) ∧ w'.cell? ⟨w.heap.size + 1, 0, none⟩ = some (.int .i64 px) ∧ w'.cell? ⟨w.heap.size + 1, 1, none⟩ = some (.int .i64 py)) ((go_split_ands; (repeat' apply And.intro) <;> (repeat (first | with_reducible assumption | with_reducible refine keepset ?_ (by dsimp only; omega) | with_reducible refine keepdrew ?_ | with_reducible refine keepcell (by with_reducible assumption) ?_ | with_reducible refine keepalloc ?_ _))))
      (first
        | (go_at_call 79; refine (Hpk.out _).mono ?_; rintro e v1 ⟨rfl, hbv1⟩)
        | (go_at_call 94; refine (Hok.out _ (Hh.out.below ?_)).mono ?_; exact (by (repeat (first | with_reducible exact Below.refl _ _ | with_reducible assumption | (with_reducible refine btrans ?_ (by with_reducible assumption)) | with_reducible refine bdrew ?_ | with_reducible refine balloc ?_ _))); rintro e v2 ⟨rfl, hbv2⟩)
        | (go_at_call 96; refine (fig_path _ _ _ _).mono ?_; rintro e v3 ⟨rfl, hbv3⟩)
        | (go_at_call 154; refine (Hhs.out _ (Hh.out.below ?_)).mono ?_; exact (by (repeat (first | with_reducible exact Below.refl _ _ | with_reducible assumption | (with_reducible refine btrans ?_ (by with_reducible assumption)) | with_reducible refine bdrew ?_ | with_reducible refine balloc ?_ _))); rintro e v4 ⟨rfl, hbv4⟩))
    go_wp2_with fail
    go_ret
    exact ⟨rfl, by (repeat (first | with_reducible exact Below.refl _ _ | with_reducible assumption | (with_reducible refine btrans ?_ (by with_reducible assumption)) | with_reducible refine bdrew ?_ | with_reducible refine balloc ?_ _))⟩
  · obtain ⟨x, y, u, v, rfl⟩ := len2 hl
    have hv : hasP 2 [(x, y), (u, v)] px py = hasb x y u v px py := rfl
    rw [hv]
    have hhs := fun w' (hw : Pts w' a [(x, y), (u, v)]) => block_has x y u v px py a cap w' hc hw
    generalize hasb x y u v px py = V at *
    have Hok := hid hok
    have Hhs := hid hhs
    clear hok hhs hv hs ha hl hm
    simp only [List.length_cons, List.length_nil, Nat.zero_add, Nat.reduceAdd] at *
    go_enter Try.func51, Try.ntmps51
    go_wp2_with fail
    have q0 : ((w.alloc (.cells #[.int .i64 2, .slice a 2 cap] 52)).alloc (.cells #[.int .i64 px, .int .i64 py] 25)).cell? ⟨w.heap.size, 0, none⟩ = some (.int .i64 2) := by (repeat (first | with_reducible assumption | (refine newcell _ _ _ _ _ _ ?_ rfl; simp; done) | refine keepcell (by with_reducible assumption) ?_ | refine keepdrew ?_ | refine keepalloc ?_ _))
    have q1 : ((w.alloc (.cells #[.int .i64 2, .slice a 2 cap] 52)).alloc (.cells #[.int .i64 px, .int .i64 py] 25)).cell? ⟨w.heap.size, 1, none⟩ = some (.slice a 2 cap) := by (repeat (first | with_reducible assumption | (refine newcell _ _ _ _ _ _ ?_ rfl; simp; done) | refine keepcell (by with_reducible assumption) ?_ | refine keepdrew ?_ | refine keepalloc ?_ _))
    have q2 : ((w.alloc (.cells #[.int .i64 2, .slice a 2 cap] 52)).alloc (.cells #[.int .i64 px, .int .i64 py] 25)).cell? ⟨w.heap.size + 1, 0, none⟩ = some (.int .i64 px) := by (repeat (first | with_reducible assumption | (refine newcell _ _ _ _ _ _ ?_ rfl; simp; done) | refine keepcell (by with_reducible assumption) ?_ | refine keepdrew ?_ | refine keepalloc ?_ _))
    have q3 : ((w.alloc (.cells #[.int .i64 2, .slice a 2 cap] 52)).alloc (.cells #[.int .i64 px, .int .i64 py] 25)).cell? ⟨w.heap.size + 1, 1, none⟩ = some (.int .i64 py) := by (repeat (first | with_reducible assumption | (refine newcell _ _ _ _ _ _ ?_ rfl; simp; done) | refine keepcell (by with_reducible assumption) ?_ | refine keepdrew ?_ | refine keepalloc ?_ _))
    have hBW : Below w.heap.size w ((w.alloc (.cells #[.int .i64 2, .slice a 2 cap] 52)).alloc (.cells #[.int .i64 px, .int .i64 py] 25)) := by (repeat (first | with_reducible exact Below.refl _ _ | with_reducible assumption | (with_reducible refine btrans ?_ (by with_reducible assumption)) | with_reducible refine bdrew ?_ | with_reducible refine balloc ?_ _))
    generalize ((w.alloc (.cells #[.int .i64 2, .slice a 2 cap] 52)).alloc (.cells #[.int .i64 px, .int .i64 py] 25)) = W at *
    go_region_held3 (fun w' => w'.cell? ⟨w.heap.size, 0, none⟩ = some (.int .i64 2) ∧ w'.cell? ⟨w.heap.size, 1, none⟩ = some (.slice a 2 cap) ∧ w'.cell? ⟨w.heap.size + 1, 0, none⟩ = some (.int .i64 px) ∧ w'.cell? ⟨w.heap.size + 1, 1, none⟩ = some (.int .i64 py)) ((go_split_ands; (repeat' apply And.intro) <;> (repeat (first | with_reducible assumption | with_reducible refine keepset ?_ (by dsimp only; omega) | with_reducible refine keepdrew ?_ | with_reducible refine keepcell (by with_reducible assumption) ?_ | with_reducible refine keepalloc ?_ _))))
      (first
        | (go_at_call 79; refine (Hpk.out _).mono ?_; rintro e v1 ⟨rfl, hbv1⟩)
        | (go_at_call 94; refine (Hok.out _ (Hh.out.below ?_)).mono ?_; exact (by (repeat (first | with_reducible exact Below.refl _ _ | with_reducible assumption | (with_reducible refine btrans ?_ (by with_reducible assumption)) | with_reducible refine bdrew ?_ | with_reducible refine balloc ?_ _))); rintro e v2 ⟨rfl, hbv2⟩)
        | (go_at_call 96; refine (fig_block _ _ _ _).mono ?_; rintro e v3 ⟨rfl, hbv3⟩)
        | (go_at_call 156; refine (Hhs.out _ (Hh.out.below ?_)).mono ?_; exact (by (repeat (first | with_reducible exact Below.refl _ _ | with_reducible assumption | (with_reducible refine btrans ?_ (by with_reducible assumption)) | with_reducible refine bdrew ?_ | with_reducible refine balloc ?_ _))); rintro e v4 ⟨rfl, hbv4⟩))
    go_wp2_with fail
    go_ret
    exact ⟨rfl, by (repeat (first | with_reducible exact Below.refl _ _ | with_reducible assumption | (with_reducible refine btrans ?_ (by with_reducible assumption)) | with_reducible refine bdrew ?_ | with_reducible refine balloc ?_ _))⟩
  · have hv : hasP 3 ps px py = (ringv px py ps != 0) := rfl
    rw [hv]
    have hhs := fun w' (hw : Pts w' a ps) => ring_has px py a cap ps w' hm hc hw hi1 hi2 ha
    generalize (ringv px py ps != 0) = V at *
    have Hok := hid hok
    have Hhs := hid hhs
    clear hok hhs hv hs ha
    go_enter Try.func51, Try.ntmps51
    go_wp2_with fail
    have q0 : ((w.alloc (.cells #[.int .i64 3, .slice a ps.length cap] 52)).alloc (.cells #[.int .i64 px, .int .i64 py] 25)).cell? ⟨w.heap.size, 0, none⟩ = some (.int .i64 3) := by (repeat (first | with_reducible assumption | (refine newcell _ _ _ _ _ _ ?_ rfl; simp; done) | refine keepcell (by with_reducible assumption) ?_ | refine keepdrew ?_ | refine keepalloc ?_ _))
    have q1 : ((w.alloc (.cells #[.int .i64 3, .slice a ps.length cap] 52)).alloc (.cells #[.int .i64 px, .int .i64 py] 25)).cell? ⟨w.heap.size, 1, none⟩ = some (.slice a ps.length cap) := by (repeat (first | with_reducible assumption | (refine newcell _ _ _ _ _ _ ?_ rfl; simp; done) | refine keepcell (by with_reducible assumption) ?_ | refine keepdrew ?_ | refine keepalloc ?_ _))
    have q2 : ((w.alloc (.cells #[.int .i64 3, .slice a ps.length cap] 52)).alloc (.cells #[.int .i64 px, .int .i64 py] 25)).cell? ⟨w.heap.size + 1, 0, none⟩ = some (.int .i64 px) := by (repeat (first | with_reducible assumption | (refine newcell _ _ _ _ _ _ ?_ rfl; simp; done) | refine keepcell (by with_reducible assumption) ?_ | refine keepdrew ?_ | refine keepalloc ?_ _))
    have q3 : ((w.alloc (.cells #[.int .i64 3, .slice a ps.length cap] 52)).alloc (.cells #[.int .i64 px, .int .i64 py] 25)).cell? ⟨w.heap.size + 1, 1, none⟩ = some (.int .i64 py) := by (repeat (first | with_reducible assumption | (refine newcell _ _ _ _ _ _ ?_ rfl; simp; done) | refine keepcell (by with_reducible assumption) ?_ | refine keepdrew ?_ | refine keepalloc ?_ _))
    have hBW : Below w.heap.size w ((w.alloc (.cells #[.int .i64 3, .slice a ps.length cap] 52)).alloc (.cells #[.int .i64 px, .int .i64 py] 25)) := by (repeat (first | with_reducible exact Below.refl _ _ | with_reducible assumption | (with_reducible refine btrans ?_ (by with_reducible assumption)) | with_reducible refine bdrew ?_ | with_reducible refine balloc ?_ _))
    generalize ((w.alloc (.cells #[.int .i64 3, .slice a ps.length cap] 52)).alloc (.cells #[.int .i64 px, .int .i64 py] 25)) = W at *
    go_region_held3 (fun w' => w'.cell? ⟨w.heap.size, 0, none⟩ = some (.int .i64 3) ∧ w'.cell? ⟨w.heap.size, 1, none⟩ = some (.slice a ps.length cap) ∧ w'.cell? ⟨w.heap.size + 1, 0, none⟩ = some (.int .i64 px) ∧ w'.cell? ⟨w.heap.size + 1, 1, none⟩ = some (.int .i64 py)) ((go_split_ands; (repeat' apply And.intro) <;> (repeat (first | with_reducible assumption | with_reducible refine keepset ?_ (by dsimp only; omega) | with_reducible refine keepdrew ?_ | with_reducible refine keepcell (by with_reducible assumption) ?_ | with_reducible refine keepalloc ?_ _))))
      (first
        | (go_at_call 79; refine (Hpk.out _).mono ?_; rintro e v1 ⟨rfl, hbv1⟩)
        | (go_at_call 94; refine (Hok.out _ (Hh.out.below ?_)).mono ?_; exact (by (repeat (first | with_reducible exact Below.refl _ _ | with_reducible assumption | (with_reducible refine btrans ?_ (by with_reducible assumption)) | with_reducible refine bdrew ?_ | with_reducible refine balloc ?_ _))); rintro e v2 ⟨rfl, hbv2⟩)
        | (go_at_call 96; refine (fig_ring _ _ _ _).mono ?_; rintro e v3 ⟨rfl, hbv3⟩)
        | (go_at_call 159; refine (Hhs.out _ (Hh.out.below ?_)).mono ?_; exact (by (repeat (first | with_reducible exact Below.refl _ _ | with_reducible assumption | (with_reducible refine btrans ?_ (by with_reducible assumption)) | with_reducible refine bdrew ?_ | with_reducible refine balloc ?_ _))); rintro e v4 ⟨rfl, hbv4⟩))
    go_wp2_with fail
    go_ret
    exact ⟨rfl, by (repeat (first | with_reducible exact Below.refl _ _ | with_reducible assumption | (with_reducible refine btrans ?_ (by with_reducible assumption)) | with_reducible refine bdrew ?_ | with_reducible refine balloc ?_ _))⟩
end Go.Proofs.Ytkncdncpgjpemaa
