/- Texts of stores, joined: Geo2. -/
import Derived.Test.YtenlhgnobfadgaaGreatDoorJ9
namespace Go.Proofs.YtenlhgnobfadgaaGreatDoor
open Go.RowKit
set_option linter.unusedSimpArgs false
set_option linter.unusedVariables false
set_option maxHeartbeats 4000000 in
theorem impl_boxok (a b c d : Int) (w : World) : Calls Tryz.prog 248 #[.agg #[.int .i64 a, .int .i64 b, .int .i64 c, .int .i64 d]] w fun e w' => e = .returned (.bool (bok a b c d)) ∧ Below w.heap.size w w' := by
  have hr : bok a b c d = (allok [(a, b), (c, d)] && decide (a ≤ c) && decide (b ≤ d)) := by
    simp only [bok, allok, pok, List.all_cons, List.all_nil, Bool.and_true, Bool.and_assoc]
  rw [hr]
  clear hr
  cases hA : allok [(a, b), (c, d)]
  · go_enter Tryz.func248, Tryz.ntmps248
    go_wp2_with fail
    refine wp_region_held_drew (S := (fun w' => w'.cell? ⟨w.heap.size, 0, none⟩ = some (.int .i64 a) ∧ w'.cell? ⟨w.heap.size, 1, none⟩ = some (.int .i64 b) ∧ w'.cell? ⟨w.heap.size, 2, none⟩ = some (.int .i64 c) ∧ w'.cell? ⟨w.heap.size, 3, none⟩ = some (.int .i64 d))) (by kernel_rfl) ?_ (fun hHeld => ?_)
    · (repeat' apply And.intro) <;> (repeat (first | assumption | (refine newcell _ _ _ _ _ _ ?_ rfl; simp; done) | refine keepcell (by assumption) ?_ | refine keepdrew ?_ | refine keepalloc ?_ _))
    refine wpAnyH_take (i := 0) (v := ?_) rfl (by kernel_rfl) (by kernel_rfl) (by kernel_rfl) (fun _ _ _ h => h) (Or.inl ⟨by rfl, ?_⟩) hHeld ?_
    rotate_left
    · intro w hSw; (try dsimp only at hSw); go_simp; try (with_reducible rfl)
    try simp only [sq]
    refine wpAnyH_take (i := 2) (v := ?_) rfl (by kernel_rfl) (by kernel_rfl) (by kernel_rfl) (fun _ _ _ h => h) (Or.inl ⟨by rfl, ?_⟩) hHeld ?_
    rotate_left
    · intro w hSw; (try dsimp only at hSw); go_simp; try (with_reducible rfl)
    try simp only [sq]
    refine wpAnyH_ready (rs := [1]) (by kernel_rfl) (by simp) ?_
    refine AllReadyH.cons rfl (fun K hK => ?_) AllReadyH.nil
    try simp only [sq]
    go_simp
    (first
        | (go_at_call 250; refine (impl_low _ _ _ _ _).mono ?_; rintro e w' ⟨rfl, rfl⟩)
        | (go_at_call 251; refine (impl_high _ _ _ _ _).mono ?_; rintro e w' ⟨rfl, rfl⟩)
        | (go_at_call 245; refine (impl_all _ 2 [(a, b), (c, d)] _ (by simp) (by simp) (pts2 (by (repeat (first | assumption | (refine newcell _ _ _ _ _ _ ?_ rfl; simp; done) | refine keepcell (by assumption) ?_ | refine keepdrew ?_ | refine keepalloc ?_ _))) (by (repeat (first | assumption | (refine newcell _ _ _ _ _ _ ?_ rfl; simp; done) | refine keepcell (by assumption) ?_ | refine keepdrew ?_ | refine keepalloc ?_ _))) (by (repeat (first | assumption | (refine newcell _ _ _ _ _ _ ?_ rfl; simp; done) | refine keepcell (by assumption) ?_ | refine keepdrew ?_ | refine keepalloc ?_ _))) (by (repeat (first | assumption | (refine newcell _ _ _ _ _ _ ?_ rfl; simp; done) | refine keepcell (by assumption) ?_ | refine keepdrew ?_ | refine keepalloc ?_ _))))).mono ?_; rw [hA]; rintro e w' ⟨rfl, hb⟩))
    go_wp2_with fail
    refine hK.out _ _ ?_ (fun hHeld => ?_)
    · (repeat' apply And.intro) <;> (repeat (first | assumption | (refine newcell _ _ _ _ _ _ ?_ rfl; simp; done) | refine keepcell (by assumption) ?_ | refine keepdrew ?_ | refine keepalloc ?_ _))
    clear hK K
    try simp only [sq]
    refine wpAnyH_ready (rs := [3]) (by kernel_rfl) (by simp) ?_
    refine AllReadyH.cons rfl (fun K hK => ?_) AllReadyH.nil
    try simp only [sq]
    go_simp
    (first
        | (go_at_call 250; refine (impl_low _ _ _ _ _).mono ?_; rintro e w' ⟨rfl, rfl⟩)
        | (go_at_call 251; refine (impl_high _ _ _ _ _).mono ?_; rintro e w' ⟨rfl, rfl⟩)
        | (go_at_call 245; refine (impl_all _ 2 [(a, b), (c, d)] _ (by simp) (by simp) (pts2 (by (repeat (first | assumption | (refine newcell _ _ _ _ _ _ ?_ rfl; simp; done) | refine keepcell (by assumption) ?_ | refine keepdrew ?_ | refine keepalloc ?_ _))) (by (repeat (first | assumption | (refine newcell _ _ _ _ _ _ ?_ rfl; simp; done) | refine keepcell (by assumption) ?_ | refine keepdrew ?_ | refine keepalloc ?_ _))) (by (repeat (first | assumption | (refine newcell _ _ _ _ _ _ ?_ rfl; simp; done) | refine keepcell (by assumption) ?_ | refine keepdrew ?_ | refine keepalloc ?_ _))) (by (repeat (first | assumption | (refine newcell _ _ _ _ _ _ ?_ rfl; simp; done) | refine keepcell (by assumption) ?_ | refine keepdrew ?_ | refine keepalloc ?_ _))))).mono ?_; rw [hA]; rintro e w' ⟨rfl, hb⟩))
    go_wp2_with fail
    refine hK.out _ _ ?_ (fun hHeld => ?_)
    · (repeat' apply And.intro) <;> (repeat (first | assumption | (refine newcell _ _ _ _ _ _ ?_ rfl; simp; done) | refine keepcell (by assumption) ?_ | refine keepdrew ?_ | refine keepalloc ?_ _))
    clear hK K
    try simp only [sq]
    refine wpAnyH_ready (rs := [4]) (by kernel_rfl) (by simp) ?_
    refine AllReadyH.cons rfl (fun K hK => ?_) AllReadyH.nil
    try simp only [sq]
    go_simp
    refine hK.out _ _ ?_ (fun hHeld => ?_)
    · (repeat' apply And.intro) <;> (repeat (first | assumption | (refine newcell _ _ _ _ _ _ ?_ rfl; simp; done) | refine keepcell (by assumption) ?_ | refine keepdrew ?_ | refine keepalloc ?_ _))
    clear hK K
    try simp only [sq]
    refine wpAnyH_ready (rs := [5]) (by kernel_rfl) (by simp) ?_
    refine AllReadyH.cons rfl (fun K hK => ?_) AllReadyH.nil
    try simp only [sq]
    go_simp
    (first
        | (go_at_call 250; refine (impl_low _ _ _ _ _).mono ?_; rintro e w' ⟨rfl, rfl⟩)
        | (go_at_call 251; refine (impl_high _ _ _ _ _).mono ?_; rintro e w' ⟨rfl, rfl⟩)
        | (go_at_call 245; refine (impl_all _ 2 [(a, b), (c, d)] _ (by simp) (by simp) (pts2 (by (repeat (first | assumption | (refine newcell _ _ _ _ _ _ ?_ rfl; simp; done) | refine keepcell (by assumption) ?_ | refine keepdrew ?_ | refine keepalloc ?_ _))) (by (repeat (first | assumption | (refine newcell _ _ _ _ _ _ ?_ rfl; simp; done) | refine keepcell (by assumption) ?_ | refine keepdrew ?_ | refine keepalloc ?_ _))) (by (repeat (first | assumption | (refine newcell _ _ _ _ _ _ ?_ rfl; simp; done) | refine keepcell (by assumption) ?_ | refine keepdrew ?_ | refine keepalloc ?_ _))) (by (repeat (first | assumption | (refine newcell _ _ _ _ _ _ ?_ rfl; simp; done) | refine keepcell (by assumption) ?_ | refine keepdrew ?_ | refine keepalloc ?_ _))))).mono ?_; rw [hA]; rintro e w' ⟨rfl, hb⟩))
    go_wp2_with fail
    refine hK.out _ _ ?_ (fun hHeld => ?_)
    · (repeat' apply And.intro) <;> (repeat (first | assumption | (refine newcell _ _ _ _ _ _ ?_ rfl; simp; done) | refine keepcell (by assumption) ?_ | refine keepdrew ?_ | refine keepalloc ?_ _))
    clear hK K
    try simp only [sq]
    refine wpAnyH_take (i := 6) (v := ?_) rfl (by kernel_rfl) (by kernel_rfl) (by kernel_rfl) (fun _ _ _ h => h) (Or.inl ⟨by rfl, ?_⟩) hHeld ?_
    rotate_left
    · intro w hSw; (try dsimp only at hSw); go_simp; try (with_reducible rfl)
    try simp only [sq]
    refine wpAnyH_take (i := 7) (v := undef) rfl (by kernel_rfl) (by kernel_rfl) (by kernel_rfl) (fun _ _ _ h => h) (Or.inr ⟨by rfl, rfl⟩) hHeld ?_
    try simp only [sq]
    refine wpAnyH_take (i := 8) (v := undef) rfl (by kernel_rfl) (by kernel_rfl) (by kernel_rfl) (fun _ _ _ h => h) (Or.inr ⟨by rfl, rfl⟩) hHeld ?_
    try simp only [sq]
    refine wpAnyH_take (i := 9) (v := undef) rfl (by kernel_rfl) (by kernel_rfl) (by kernel_rfl) (fun _ _ _ h => h) (Or.inr ⟨by rfl, rfl⟩) hHeld ?_
    try simp only [sq]
    refine wpAnyH_take (i := 10) (v := undef) rfl (by kernel_rfl) (by kernel_rfl) (by kernel_rfl) (fun _ _ _ h => h) (Or.inr ⟨by rfl, rfl⟩) hHeld ?_
    try simp only [sq]
    refine wpAnyH_take (i := 11) (v := undef) rfl (by kernel_rfl) (by kernel_rfl) (by kernel_rfl) (fun _ _ _ h => h) (Or.inr ⟨by rfl, rfl⟩) hHeld ?_
    try simp only [sq]
    refine wpAnyH_take (i := 12) (v := ?_) rfl (by kernel_rfl) (by kernel_rfl) (by kernel_rfl) (fun _ _ _ h => h) (Or.inl ⟨by rfl, ?_⟩) hHeld ?_
    rotate_left
    · intro w hSw; (try dsimp only at hSw); go_simp; try (with_reducible rfl)
    try simp only [sq]
    refine wpAnyH_take (i := 13) (v := ?_) rfl (by kernel_rfl) (by kernel_rfl) (by kernel_rfl) (fun _ _ _ h => h) (Or.inl ⟨by rfl, ?_⟩) hHeld ?_
    rotate_left
    · intro w hSw; (try dsimp only at hSw); go_simp; try (with_reducible rfl)
    try simp only [sq]
    refine wpAnyH_take (i := 14) (v := undef) rfl (by kernel_rfl) (by kernel_rfl) (by kernel_rfl) (fun _ _ _ h => h) (Or.inr ⟨by rfl, rfl⟩) hHeld ?_
    try simp only [sq]
    refine wpAnyH_take (i := 15) (v := undef) rfl (by kernel_rfl) (by kernel_rfl) (by kernel_rfl) (fun _ _ _ h => h) (Or.inr ⟨by rfl, rfl⟩) hHeld ?_
    try simp only [sq]
    refine wpAnyH_take (i := 16) (v := undef) rfl (by kernel_rfl) (by kernel_rfl) (by kernel_rfl) (fun _ _ _ h => h) (Or.inr ⟨by rfl, rfl⟩) hHeld ?_
    try simp only [sq]
    refine wpAnyH_take (i := 17) (v := undef) rfl (by kernel_rfl) (by kernel_rfl) (by kernel_rfl) (fun _ _ _ h => h) (Or.inr ⟨by rfl, rfl⟩) hHeld ?_
    try simp only [sq]
    refine wpAnyH_take (i := 18) (v := undef) rfl (by kernel_rfl) (by kernel_rfl) (by kernel_rfl) (fun _ _ _ h => h) (Or.inr ⟨by rfl, rfl⟩) hHeld ?_
    try simp only [sq]
    refine wpAnyH_take (i := 19) (v := ?_) rfl (by kernel_rfl) (by kernel_rfl) (by kernel_rfl) (fun _ _ _ h => h) (Or.inl ⟨by rfl, ?_⟩) hHeld ?_
    rotate_left
    · intro w hSw; (try dsimp only at hSw); go_simp; try (with_reducible rfl)
    try simp only [sq]
    refine wpAnyH_take (i := 20) (v := ?_) rfl (by kernel_rfl) (by kernel_rfl) (by kernel_rfl) (fun _ _ _ h => h) (Or.inl ⟨by rfl, ?_⟩) hHeld ?_
    rotate_left
    · intro w hSw; (try dsimp only at hSw); go_simp; try (with_reducible rfl)
    try simp only [sq]
    refine wpAnyH_done (by kernel_rfl) ?_ _
    go_wp2_with fail
    go_ret
    exact ⟨by simp, by (repeat (first | exact Below.refl _ _ | (refine btrans ?_ (by assumption)) | refine bdrew ?_ | refine balloc ?_ _))⟩
  · cases hd : decide (a ≤ c)
    · go_enter Tryz.func248, Tryz.ntmps248
      go_wp2_with fail
      refine wp_region_held_drew (S := (fun w' => w'.cell? ⟨w.heap.size, 0, none⟩ = some (.int .i64 a) ∧ w'.cell? ⟨w.heap.size, 1, none⟩ = some (.int .i64 b) ∧ w'.cell? ⟨w.heap.size, 2, none⟩ = some (.int .i64 c) ∧ w'.cell? ⟨w.heap.size, 3, none⟩ = some (.int .i64 d))) (by kernel_rfl) ?_ (fun hHeld => ?_)
      · (repeat' apply And.intro) <;> (repeat (first | assumption | (refine newcell _ _ _ _ _ _ ?_ rfl; simp; done) | refine keepcell (by assumption) ?_ | refine keepdrew ?_ | refine keepalloc ?_ _))
      refine wpAnyH_take (i := 0) (v := ?_) rfl (by kernel_rfl) (by kernel_rfl) (by kernel_rfl) (fun _ _ _ h => h) (Or.inl ⟨by rfl, ?_⟩) hHeld ?_
      rotate_left
      · intro w hSw; (try dsimp only at hSw); go_simp; try (with_reducible rfl)
      try simp only [sq]
      refine wpAnyH_take (i := 2) (v := ?_) rfl (by kernel_rfl) (by kernel_rfl) (by kernel_rfl) (fun _ _ _ h => h) (Or.inl ⟨by rfl, ?_⟩) hHeld ?_
      rotate_left
      · intro w hSw; (try dsimp only at hSw); go_simp; try (with_reducible rfl)
      try simp only [sq]
      refine wpAnyH_ready (rs := [1]) (by kernel_rfl) (by simp) ?_
      refine AllReadyH.cons rfl (fun K hK => ?_) AllReadyH.nil
      try simp only [sq]
      go_simp
      (first
          | (go_at_call 250; refine (impl_low _ _ _ _ _).mono ?_; rintro e w' ⟨rfl, rfl⟩)
          | (go_at_call 251; refine (impl_high _ _ _ _ _).mono ?_; rintro e w' ⟨rfl, rfl⟩)
          | (go_at_call 245; refine (impl_all _ 2 [(a, b), (c, d)] _ (by simp) (by simp) (pts2 (by (repeat (first | assumption | (refine newcell _ _ _ _ _ _ ?_ rfl; simp; done) | refine keepcell (by assumption) ?_ | refine keepdrew ?_ | refine keepalloc ?_ _))) (by (repeat (first | assumption | (refine newcell _ _ _ _ _ _ ?_ rfl; simp; done) | refine keepcell (by assumption) ?_ | refine keepdrew ?_ | refine keepalloc ?_ _))) (by (repeat (first | assumption | (refine newcell _ _ _ _ _ _ ?_ rfl; simp; done) | refine keepcell (by assumption) ?_ | refine keepdrew ?_ | refine keepalloc ?_ _))) (by (repeat (first | assumption | (refine newcell _ _ _ _ _ _ ?_ rfl; simp; done) | refine keepcell (by assumption) ?_ | refine keepdrew ?_ | refine keepalloc ?_ _))))).mono ?_; rw [hA]; rintro e w' ⟨rfl, hb⟩))
      go_wp2_with fail
      refine hK.out _ _ ?_ (fun hHeld => ?_)
      · (repeat' apply And.intro) <;> (repeat (first | assumption | (refine newcell _ _ _ _ _ _ ?_ rfl; simp; done) | refine keepcell (by assumption) ?_ | refine keepdrew ?_ | refine keepalloc ?_ _))
      clear hK K
      try simp only [sq]
      refine wpAnyH_ready (rs := [3]) (by kernel_rfl) (by simp) ?_
      refine AllReadyH.cons rfl (fun K hK => ?_) AllReadyH.nil
      try simp only [sq]
      go_simp
      (first
          | (go_at_call 250; refine (impl_low _ _ _ _ _).mono ?_; rintro e w' ⟨rfl, rfl⟩)
          | (go_at_call 251; refine (impl_high _ _ _ _ _).mono ?_; rintro e w' ⟨rfl, rfl⟩)
          | (go_at_call 245; refine (impl_all _ 2 [(a, b), (c, d)] _ (by simp) (by simp) (pts2 (by (repeat (first | assumption | (refine newcell _ _ _ _ _ _ ?_ rfl; simp; done) | refine keepcell (by assumption) ?_ | refine keepdrew ?_ | refine keepalloc ?_ _))) (by (repeat (first | assumption | (refine newcell _ _ _ _ _ _ ?_ rfl; simp; done) | refine keepcell (by assumption) ?_ | refine keepdrew ?_ | refine keepalloc ?_ _))) (by (repeat (first | assumption | (refine newcell _ _ _ _ _ _ ?_ rfl; simp; done) | refine keepcell (by assumption) ?_ | refine keepdrew ?_ | refine keepalloc ?_ _))) (by (repeat (first | assumption | (refine newcell _ _ _ _ _ _ ?_ rfl; simp; done) | refine keepcell (by assumption) ?_ | refine keepdrew ?_ | refine keepalloc ?_ _))))).mono ?_; rw [hA]; rintro e w' ⟨rfl, hb⟩))
      go_wp2_with fail
      refine hK.out _ _ ?_ (fun hHeld => ?_)
      · (repeat' apply And.intro) <;> (repeat (first | assumption | (refine newcell _ _ _ _ _ _ ?_ rfl; simp; done) | refine keepcell (by assumption) ?_ | refine keepdrew ?_ | refine keepalloc ?_ _))
      clear hK K
      try simp only [sq]
      refine wpAnyH_ready (rs := [4]) (by kernel_rfl) (by simp) ?_
      refine AllReadyH.cons rfl (fun K hK => ?_) AllReadyH.nil
      try simp only [sq]
      go_simp
      refine hK.out _ _ ?_ (fun hHeld => ?_)
      · (repeat' apply And.intro) <;> (repeat (first | assumption | (refine newcell _ _ _ _ _ _ ?_ rfl; simp; done) | refine keepcell (by assumption) ?_ | refine keepdrew ?_ | refine keepalloc ?_ _))
      clear hK K
      try simp only [sq]
      refine wpAnyH_ready (rs := [5]) (by kernel_rfl) (by simp) ?_
      refine AllReadyH.cons rfl (fun K hK => ?_) AllReadyH.nil
      try simp only [sq]
      go_simp
      (first
          | (go_at_call 250; refine (impl_low _ _ _ _ _).mono ?_; rintro e w' ⟨rfl, rfl⟩)
          | (go_at_call 251; refine (impl_high _ _ _ _ _).mono ?_; rintro e w' ⟨rfl, rfl⟩)
          | (go_at_call 245; refine (impl_all _ 2 [(a, b), (c, d)] _ (by simp) (by simp) (pts2 (by (repeat (first | assumption | (refine newcell _ _ _ _ _ _ ?_ rfl; simp; done) | refine keepcell (by assumption) ?_ | refine keepdrew ?_ | refine keepalloc ?_ _))) (by (repeat (first | assumption | (refine newcell _ _ _ _ _ _ ?_ rfl; simp; done) | refine keepcell (by assumption) ?_ | refine keepdrew ?_ | refine keepalloc ?_ _))) (by (repeat (first | assumption | (refine newcell _ _ _ _ _ _ ?_ rfl; simp; done) | refine keepcell (by assumption) ?_ | refine keepdrew ?_ | refine keepalloc ?_ _))) (by (repeat (first | assumption | (refine newcell _ _ _ _ _ _ ?_ rfl; simp; done) | refine keepcell (by assumption) ?_ | refine keepdrew ?_ | refine keepalloc ?_ _))))).mono ?_; rw [hA]; rintro e w' ⟨rfl, hb⟩))
      go_wp2_with fail
      refine hK.out _ _ ?_ (fun hHeld => ?_)
      · (repeat' apply And.intro) <;> (repeat (first | assumption | (refine newcell _ _ _ _ _ _ ?_ rfl; simp; done) | refine keepcell (by assumption) ?_ | refine keepdrew ?_ | refine keepalloc ?_ _))
      clear hK K
      try simp only [sq]
      refine wpAnyH_take (i := 6) (v := ?_) rfl (by kernel_rfl) (by kernel_rfl) (by kernel_rfl) (fun _ _ _ h => h) (Or.inl ⟨by rfl, ?_⟩) hHeld ?_
      rotate_left
      · intro w hSw; (try dsimp only at hSw); go_simp; try (with_reducible rfl)
      try simp only [sq]
      refine wpAnyH_take (i := 7) (v := ?_) rfl (by kernel_rfl) (by kernel_rfl) (by kernel_rfl) (fun _ _ _ h => h) (Or.inl ⟨by rfl, ?_⟩) hHeld ?_
      rotate_left
      · intro w hSw; (try dsimp only at hSw); go_simp; try (with_reducible rfl)
      try simp only [sq]
      refine wpAnyH_take (i := 8) (v := ?_) rfl (by kernel_rfl) (by kernel_rfl) (by kernel_rfl) (fun _ _ _ h => h) (Or.inl ⟨by rfl, ?_⟩) hHeld ?_
      rotate_left
      · intro w hSw; (try dsimp only at hSw); go_simp; try (with_reducible rfl)
      try simp only [sq]
      refine wpAnyH_take (i := 9) (v := ?_) rfl (by kernel_rfl) (by kernel_rfl) (by kernel_rfl) (fun _ _ _ h => h) (Or.inl ⟨by rfl, ?_⟩) hHeld ?_
      rotate_left
      · intro w hSw; (try dsimp only at hSw); go_simp; try (with_reducible rfl)
      try simp only [sq]
      refine wpAnyH_take (i := 10) (v := ?_) rfl (by kernel_rfl) (by kernel_rfl) (by kernel_rfl) (fun _ _ _ h => h) (Or.inl ⟨by rfl, ?_⟩) hHeld ?_
      rotate_left
      · intro w hSw; (try dsimp only at hSw); go_simp; try (with_reducible rfl)
      try simp only [sq]
      refine wpAnyH_take (i := 11) (v := ?_) rfl (by kernel_rfl) (by kernel_rfl) (by kernel_rfl) (fun _ _ _ h => h) (Or.inl ⟨by rfl, ?_⟩) hHeld ?_
      rotate_left
      · intro w hSw; (try dsimp only at hSw); go_simp; try (with_reducible rfl)
      try simp only [sq]
      refine wpAnyH_take (i := 12) (v := ?_) rfl (by kernel_rfl) (by kernel_rfl) (by kernel_rfl) (fun _ _ _ h => h) (Or.inl ⟨by rfl, ?_⟩) hHeld ?_
      rotate_left
      · intro w hSw; (try dsimp only at hSw); go_simp; try (with_reducible rfl)
      try simp only [sq]
      refine wpAnyH_take (i := 13) (v := ?_) rfl (by kernel_rfl) (by kernel_rfl) (by kernel_rfl) (fun _ _ _ h => h) (Or.inl ⟨by rfl, ?_⟩) hHeld ?_
      rotate_left
      · intro w hSw; (try dsimp only at hSw); go_simp; try (with_reducible rfl)
      try simp only [sq]
      refine wpAnyH_take (i := 14) (v := undef) rfl (by kernel_rfl) (by kernel_rfl) (by kernel_rfl) (fun _ _ _ h => h) (Or.inr ⟨by rfl, rfl⟩) hHeld ?_
      try simp only [sq]
      refine wpAnyH_take (i := 15) (v := undef) rfl (by kernel_rfl) (by kernel_rfl) (by kernel_rfl) (fun _ _ _ h => h) (Or.inr ⟨by rfl, rfl⟩) hHeld ?_
      try simp only [sq]
      refine wpAnyH_take (i := 16) (v := undef) rfl (by kernel_rfl) (by kernel_rfl) (by kernel_rfl) (fun _ _ _ h => h) (Or.inr ⟨by rfl, rfl⟩) hHeld ?_
      try simp only [sq]
      refine wpAnyH_take (i := 17) (v := undef) rfl (by kernel_rfl) (by kernel_rfl) (by kernel_rfl) (fun _ _ _ h => h) (Or.inr ⟨by rfl, rfl⟩) hHeld ?_
      try simp only [sq]
      refine wpAnyH_take (i := 18) (v := undef) rfl (by kernel_rfl) (by kernel_rfl) (by kernel_rfl) (fun _ _ _ h => h) (Or.inr ⟨by rfl, rfl⟩) hHeld ?_
      try simp only [sq]
      refine wpAnyH_take (i := 19) (v := ?_) rfl (by kernel_rfl) (by kernel_rfl) (by kernel_rfl) (fun _ _ _ h => h) (Or.inl ⟨by rfl, ?_⟩) hHeld ?_
      rotate_left
      · intro w hSw; (try dsimp only at hSw); go_simp; try (with_reducible rfl)
      try simp only [sq]
      refine wpAnyH_take (i := 20) (v := ?_) rfl (by kernel_rfl) (by kernel_rfl) (by kernel_rfl) (fun _ _ _ h => h) (Or.inl ⟨by rfl, ?_⟩) hHeld ?_
      rotate_left
      · intro w hSw; (try dsimp only at hSw); go_simp; try (with_reducible rfl)
      try simp only [sq]
      refine wpAnyH_done (by kernel_rfl) ?_ _
      go_wp2_with fail
      go_ret
      exact ⟨by simp, by (repeat (first | exact Below.refl _ _ | (refine btrans ?_ (by assumption)) | refine bdrew ?_ | refine balloc ?_ _))⟩
    · go_enter Tryz.func248, Tryz.ntmps248
      go_wp2_with fail
      go_region_held3 (fun w' => w'.cell? ⟨w.heap.size, 0, none⟩ = some (.int .i64 a) ∧ w'.cell? ⟨w.heap.size, 1, none⟩ = some (.int .i64 b) ∧ w'.cell? ⟨w.heap.size, 2, none⟩ = some (.int .i64 c) ∧ w'.cell? ⟨w.heap.size, 3, none⟩ = some (.int .i64 d)) ((repeat' apply And.intro) <;> (repeat (first | assumption | (refine newcell _ _ _ _ _ _ ?_ rfl; simp; done) | refine keepcell (by assumption) ?_ | refine keepdrew ?_ | refine keepalloc ?_ _)))
        (first
          | (go_at_call 250; refine (impl_low _ _ _ _ _).mono ?_; rintro e w' ⟨rfl, rfl⟩)
          | (go_at_call 251; refine (impl_high _ _ _ _ _).mono ?_; rintro e w' ⟨rfl, rfl⟩)
          | (go_at_call 245; refine (impl_all _ 2 [(a, b), (c, d)] _ (by simp) (by simp) (pts2 (by (repeat (first | assumption | (refine newcell _ _ _ _ _ _ ?_ rfl; simp; done) | refine keepcell (by assumption) ?_ | refine keepdrew ?_ | refine keepalloc ?_ _))) (by (repeat (first | assumption | (refine newcell _ _ _ _ _ _ ?_ rfl; simp; done) | refine keepcell (by assumption) ?_ | refine keepdrew ?_ | refine keepalloc ?_ _))) (by (repeat (first | assumption | (refine newcell _ _ _ _ _ _ ?_ rfl; simp; done) | refine keepcell (by assumption) ?_ | refine keepdrew ?_ | refine keepalloc ?_ _))) (by (repeat (first | assumption | (refine newcell _ _ _ _ _ _ ?_ rfl; simp; done) | refine keepcell (by assumption) ?_ | refine keepdrew ?_ | refine keepalloc ?_ _))))).mono ?_; rw [hA]; rintro e w' ⟨rfl, hb⟩))
      go_wp2_with fail
      go_ret
      exact ⟨by simp, by (repeat (first | exact Below.refl _ _ | (refine btrans ?_ (by assumption)) | refine bdrew ?_ | refine balloc ?_ _))⟩
end Go.Proofs.YtenlhgnobfadgaaGreatDoor
