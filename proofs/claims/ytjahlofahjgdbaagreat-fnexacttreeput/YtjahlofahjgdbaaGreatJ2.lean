/- Texts of stores, joined: Geo2, Geo7, Geo9, Geo10. -/
import Derived.Test.YtjahlofahjgdbaaGreatJ1
set_option maxHeartbeats 4000000
set_option linter.unusedSimpArgs false
set_option linter.unusedVariables false
namespace Go.Proofs.YtjahlofahjgdbaaGreat
open Go.RowKit
theorem impl_boxok (a b c d:Int) (w:World):Calls Tryz.prog 46 #[.agg #[.int .i64 a,.int .i64 b,.int .i64 c,.int .i64 d]] w fun e w' => e = .returned (.bool (bok a b c d)) ∧ Below w.heap.size w w':=by
 have hr:bok a b c d = (allok [(a,b),(c,d)] && decide (a ≤ c) && decide (b ≤ d)):=by
  simp only [bok,allok,pok,List.all_cons,List.all_nil,Bool.and_true,Bool.and_assoc]
 rw [hr]
 clear hr
 cases hA:allok [(a,b),(c,d)]
 ·go_enter Tryz.func46,Tryz.ntmps46
  go_wp2_with fail
  refine wp_region_held_drew (S:=(fun w' => w'.cell? ⟨w.heap.size,0,none⟩ = some (.int .i64 a) ∧ w'.cell? ⟨w.heap.size,1,none⟩ = some (.int .i64 b) ∧ w'.cell? ⟨w.heap.size,2,none⟩ = some (.int .i64 c) ∧ w'.cell? ⟨w.heap.size,3,none⟩ = some (.int .i64 d))) (by kernel_rfl) ?_ (fun hHeld => ?_)
  ·(repeat' apply And.intro) <;> (repeat (first | assumption | (refine newcell _ _ _ _ _ _ ?_ rfl;simp;done) | refine keepcell (by assumption) ?_ | refine keepdrew ?_ | refine keepalloc ?_ _))
  refine tkR 0 hHeld ?_
  try simp only [sq]
  refine tkR 2 hHeld ?_
  try simp only [sq]
  refine rd1 1 rfl (fun K hK => ?_)
  try simp only [sq]
  go_simp
  (first
    | (go_at_call 81;refine (impl_low _ _ _ _ _).mono ?_;rintro e w' ⟨rfl,rfl⟩)
    | (go_at_call 82;refine (impl_high _ _ _ _ _).mono ?_;rintro e w' ⟨rfl,rfl⟩)
    | (go_at_call 80;refine (impl_all _ 2 [(a,b),(c,d)] _ (by simp) (by simp) (pts2 (by (repeat (first | assumption | (refine newcell _ _ _ _ _ _ ?_ rfl;simp;done) | refine keepcell (by assumption) ?_ | refine keepdrew ?_ | refine keepalloc ?_ _))) (by (repeat (first | assumption | (refine newcell _ _ _ _ _ _ ?_ rfl;simp;done) | refine keepcell (by assumption) ?_ | refine keepdrew ?_ | refine keepalloc ?_ _))) (by (repeat (first | assumption | (refine newcell _ _ _ _ _ _ ?_ rfl;simp;done) | refine keepcell (by assumption) ?_ | refine keepdrew ?_ | refine keepalloc ?_ _))) (by (repeat (first | assumption | (refine newcell _ _ _ _ _ _ ?_ rfl;simp;done) | refine keepcell (by assumption) ?_ | refine keepdrew ?_ | refine keepalloc ?_ _))))).mono ?_;rw [hA];rintro e w' ⟨rfl,hb⟩))
  go_wp2_with fail
  refine hK.out _ _ ?_ (fun hHeld => ?_)
  ·(repeat' apply And.intro) <;> (repeat (first | assumption | (refine newcell _ _ _ _ _ _ ?_ rfl;simp;done) | refine keepcell (by assumption) ?_ | refine keepdrew ?_ | refine keepalloc ?_ _))
  clear hK K
  try simp only [sq]
  refine rd1 3 rfl (fun K hK => ?_)
  try simp only [sq]
  go_simp
  (first
    | (go_at_call 81;refine (impl_low _ _ _ _ _).mono ?_;rintro e w' ⟨rfl,rfl⟩)
    | (go_at_call 82;refine (impl_high _ _ _ _ _).mono ?_;rintro e w' ⟨rfl,rfl⟩)
    | (go_at_call 80;refine (impl_all _ 2 [(a,b),(c,d)] _ (by simp) (by simp) (pts2 (by (repeat (first | assumption | (refine newcell _ _ _ _ _ _ ?_ rfl;simp;done) | refine keepcell (by assumption) ?_ | refine keepdrew ?_ | refine keepalloc ?_ _))) (by (repeat (first | assumption | (refine newcell _ _ _ _ _ _ ?_ rfl;simp;done) | refine keepcell (by assumption) ?_ | refine keepdrew ?_ | refine keepalloc ?_ _))) (by (repeat (first | assumption | (refine newcell _ _ _ _ _ _ ?_ rfl;simp;done) | refine keepcell (by assumption) ?_ | refine keepdrew ?_ | refine keepalloc ?_ _))) (by (repeat (first | assumption | (refine newcell _ _ _ _ _ _ ?_ rfl;simp;done) | refine keepcell (by assumption) ?_ | refine keepdrew ?_ | refine keepalloc ?_ _))))).mono ?_;rw [hA];rintro e w' ⟨rfl,hb⟩))
  go_wp2_with fail
  refine hK.out _ _ ?_ (fun hHeld => ?_)
  ·(repeat' apply And.intro) <;> (repeat (first | assumption | (refine newcell _ _ _ _ _ _ ?_ rfl;simp;done) | refine keepcell (by assumption) ?_ | refine keepdrew ?_ | refine keepalloc ?_ _))
  clear hK K
  try simp only [sq]
  refine rd1 4 rfl (fun K hK => ?_)
  try simp only [sq]
  go_simp
  refine hK.out _ _ ?_ (fun hHeld => ?_)
  ·(repeat' apply And.intro) <;> (repeat (first | assumption | (refine newcell _ _ _ _ _ _ ?_ rfl;simp;done) | refine keepcell (by assumption) ?_ | refine keepdrew ?_ | refine keepalloc ?_ _))
  clear hK K
  try simp only [sq]
  refine rd1 5 rfl (fun K hK => ?_)
  try simp only [sq]
  go_simp
  (first
    | (go_at_call 81;refine (impl_low _ _ _ _ _).mono ?_;rintro e w' ⟨rfl,rfl⟩)
    | (go_at_call 82;refine (impl_high _ _ _ _ _).mono ?_;rintro e w' ⟨rfl,rfl⟩)
    | (go_at_call 80;refine (impl_all _ 2 [(a,b),(c,d)] _ (by simp) (by simp) (pts2 (by (repeat (first | assumption | (refine newcell _ _ _ _ _ _ ?_ rfl;simp;done) | refine keepcell (by assumption) ?_ | refine keepdrew ?_ | refine keepalloc ?_ _))) (by (repeat (first | assumption | (refine newcell _ _ _ _ _ _ ?_ rfl;simp;done) | refine keepcell (by assumption) ?_ | refine keepdrew ?_ | refine keepalloc ?_ _))) (by (repeat (first | assumption | (refine newcell _ _ _ _ _ _ ?_ rfl;simp;done) | refine keepcell (by assumption) ?_ | refine keepdrew ?_ | refine keepalloc ?_ _))) (by (repeat (first | assumption | (refine newcell _ _ _ _ _ _ ?_ rfl;simp;done) | refine keepcell (by assumption) ?_ | refine keepdrew ?_ | refine keepalloc ?_ _))))).mono ?_;rw [hA];rintro e w' ⟨rfl,hb⟩))
  go_wp2_with fail
  refine hK.out _ _ ?_ (fun hHeld => ?_)
  ·(repeat' apply And.intro) <;> (repeat (first | assumption | (refine newcell _ _ _ _ _ _ ?_ rfl;simp;done) | refine keepcell (by assumption) ?_ | refine keepdrew ?_ | refine keepalloc ?_ _))
  clear hK K
  try simp only [sq]
  refine tkR 6 hHeld ?_
  try simp only [sq]
  refine wpAnyH_take (i:=7) (v:=undef) rfl (by kernel_rfl) (by kernel_rfl) (by kernel_rfl) (fun _ _ _ h => h) (Or.inr ⟨by rfl,rfl⟩) hHeld ?_
  try simp only [sq]
  refine wpAnyH_take (i:=8) (v:=undef) rfl (by kernel_rfl) (by kernel_rfl) (by kernel_rfl) (fun _ _ _ h => h) (Or.inr ⟨by rfl,rfl⟩) hHeld ?_
  try simp only [sq]
  refine wpAnyH_take (i:=9) (v:=undef) rfl (by kernel_rfl) (by kernel_rfl) (by kernel_rfl) (fun _ _ _ h => h) (Or.inr ⟨by rfl,rfl⟩) hHeld ?_
  try simp only [sq]
  refine wpAnyH_take (i:=10) (v:=undef) rfl (by kernel_rfl) (by kernel_rfl) (by kernel_rfl) (fun _ _ _ h => h) (Or.inr ⟨by rfl,rfl⟩) hHeld ?_
  try simp only [sq]
  refine wpAnyH_take (i:=11) (v:=undef) rfl (by kernel_rfl) (by kernel_rfl) (by kernel_rfl) (fun _ _ _ h => h) (Or.inr ⟨by rfl,rfl⟩) hHeld ?_
  try simp only [sq]
  refine tkR 12 hHeld ?_
  try simp only [sq]
  refine tkR 13 hHeld ?_
  try simp only [sq]
  refine wpAnyH_take (i:=14) (v:=undef) rfl (by kernel_rfl) (by kernel_rfl) (by kernel_rfl) (fun _ _ _ h => h) (Or.inr ⟨by rfl,rfl⟩) hHeld ?_
  try simp only [sq]
  refine wpAnyH_take (i:=15) (v:=undef) rfl (by kernel_rfl) (by kernel_rfl) (by kernel_rfl) (fun _ _ _ h => h) (Or.inr ⟨by rfl,rfl⟩) hHeld ?_
  try simp only [sq]
  refine wpAnyH_take (i:=16) (v:=undef) rfl (by kernel_rfl) (by kernel_rfl) (by kernel_rfl) (fun _ _ _ h => h) (Or.inr ⟨by rfl,rfl⟩) hHeld ?_
  try simp only [sq]
  refine wpAnyH_take (i:=17) (v:=undef) rfl (by kernel_rfl) (by kernel_rfl) (by kernel_rfl) (fun _ _ _ h => h) (Or.inr ⟨by rfl,rfl⟩) hHeld ?_
  try simp only [sq]
  refine wpAnyH_take (i:=18) (v:=undef) rfl (by kernel_rfl) (by kernel_rfl) (by kernel_rfl) (fun _ _ _ h => h) (Or.inr ⟨by rfl,rfl⟩) hHeld ?_
  try simp only [sq]
  refine tkR 19 hHeld ?_
  try simp only [sq]
  refine tkR 20 hHeld ?_
  try simp only [sq]
  refine wpAnyH_done (by kernel_rfl) ?_ _
  go_wp2_with fail
  go_ret
  exact ⟨by simp,by (repeat (first | exact Below.refl _ _ | (refine btrans ?_ (by assumption)) | refine bdrew ?_ | refine balloc ?_ _))⟩
 ·cases hd:decide (a ≤ c)
  ·go_enter Tryz.func46,Tryz.ntmps46
   go_wp2_with fail
   refine wp_region_held_drew (S:=(fun w' => w'.cell? ⟨w.heap.size,0,none⟩ = some (.int .i64 a) ∧ w'.cell? ⟨w.heap.size,1,none⟩ = some (.int .i64 b) ∧ w'.cell? ⟨w.heap.size,2,none⟩ = some (.int .i64 c) ∧ w'.cell? ⟨w.heap.size,3,none⟩ = some (.int .i64 d))) (by kernel_rfl) ?_ (fun hHeld => ?_)
   ·(repeat' apply And.intro) <;> (repeat (first | assumption | (refine newcell _ _ _ _ _ _ ?_ rfl;simp;done) | refine keepcell (by assumption) ?_ | refine keepdrew ?_ | refine keepalloc ?_ _))
   refine tkR 0 hHeld ?_
   try simp only [sq]
   refine tkR 2 hHeld ?_
   try simp only [sq]
   refine rd1 1 rfl (fun K hK => ?_)
   try simp only [sq]
   go_simp
   (first
     | (go_at_call 81;refine (impl_low _ _ _ _ _).mono ?_;rintro e w' ⟨rfl,rfl⟩)
     | (go_at_call 82;refine (impl_high _ _ _ _ _).mono ?_;rintro e w' ⟨rfl,rfl⟩)
     | (go_at_call 80;refine (impl_all _ 2 [(a,b),(c,d)] _ (by simp) (by simp) (pts2 (by (repeat (first | assumption | (refine newcell _ _ _ _ _ _ ?_ rfl;simp;done) | refine keepcell (by assumption) ?_ | refine keepdrew ?_ | refine keepalloc ?_ _))) (by (repeat (first | assumption | (refine newcell _ _ _ _ _ _ ?_ rfl;simp;done) | refine keepcell (by assumption) ?_ | refine keepdrew ?_ | refine keepalloc ?_ _))) (by (repeat (first | assumption | (refine newcell _ _ _ _ _ _ ?_ rfl;simp;done) | refine keepcell (by assumption) ?_ | refine keepdrew ?_ | refine keepalloc ?_ _))) (by (repeat (first | assumption | (refine newcell _ _ _ _ _ _ ?_ rfl;simp;done) | refine keepcell (by assumption) ?_ | refine keepdrew ?_ | refine keepalloc ?_ _))))).mono ?_;rw [hA];rintro e w' ⟨rfl,hb⟩))
   go_wp2_with fail
   refine hK.out _ _ ?_ (fun hHeld => ?_)
   ·(repeat' apply And.intro) <;> (repeat (first | assumption | (refine newcell _ _ _ _ _ _ ?_ rfl;simp;done) | refine keepcell (by assumption) ?_ | refine keepdrew ?_ | refine keepalloc ?_ _))
   clear hK K
   try simp only [sq]
   refine rd1 3 rfl (fun K hK => ?_)
   try simp only [sq]
   go_simp
   (first
     | (go_at_call 81;refine (impl_low _ _ _ _ _).mono ?_;rintro e w' ⟨rfl,rfl⟩)
     | (go_at_call 82;refine (impl_high _ _ _ _ _).mono ?_;rintro e w' ⟨rfl,rfl⟩)
     | (go_at_call 80;refine (impl_all _ 2 [(a,b),(c,d)] _ (by simp) (by simp) (pts2 (by (repeat (first | assumption | (refine newcell _ _ _ _ _ _ ?_ rfl;simp;done) | refine keepcell (by assumption) ?_ | refine keepdrew ?_ | refine keepalloc ?_ _))) (by (repeat (first | assumption | (refine newcell _ _ _ _ _ _ ?_ rfl;simp;done) | refine keepcell (by assumption) ?_ | refine keepdrew ?_ | refine keepalloc ?_ _))) (by (repeat (first | assumption | (refine newcell _ _ _ _ _ _ ?_ rfl;simp;done) | refine keepcell (by assumption) ?_ | refine keepdrew ?_ | refine keepalloc ?_ _))) (by (repeat (first | assumption | (refine newcell _ _ _ _ _ _ ?_ rfl;simp;done) | refine keepcell (by assumption) ?_ | refine keepdrew ?_ | refine keepalloc ?_ _))))).mono ?_;rw [hA];rintro e w' ⟨rfl,hb⟩))
   go_wp2_with fail
   refine hK.out _ _ ?_ (fun hHeld => ?_)
   ·(repeat' apply And.intro) <;> (repeat (first | assumption | (refine newcell _ _ _ _ _ _ ?_ rfl;simp;done) | refine keepcell (by assumption) ?_ | refine keepdrew ?_ | refine keepalloc ?_ _))
   clear hK K
   try simp only [sq]
   refine rd1 4 rfl (fun K hK => ?_)
   try simp only [sq]
   go_simp
   refine hK.out _ _ ?_ (fun hHeld => ?_)
   ·(repeat' apply And.intro) <;> (repeat (first | assumption | (refine newcell _ _ _ _ _ _ ?_ rfl;simp;done) | refine keepcell (by assumption) ?_ | refine keepdrew ?_ | refine keepalloc ?_ _))
   clear hK K
   try simp only [sq]
   refine rd1 5 rfl (fun K hK => ?_)
   try simp only [sq]
   go_simp
   (first
     | (go_at_call 81;refine (impl_low _ _ _ _ _).mono ?_;rintro e w' ⟨rfl,rfl⟩)
     | (go_at_call 82;refine (impl_high _ _ _ _ _).mono ?_;rintro e w' ⟨rfl,rfl⟩)
     | (go_at_call 80;refine (impl_all _ 2 [(a,b),(c,d)] _ (by simp) (by simp) (pts2 (by (repeat (first | assumption | (refine newcell _ _ _ _ _ _ ?_ rfl;simp;done) | refine keepcell (by assumption) ?_ | refine keepdrew ?_ | refine keepalloc ?_ _))) (by (repeat (first | assumption | (refine newcell _ _ _ _ _ _ ?_ rfl;simp;done) | refine keepcell (by assumption) ?_ | refine keepdrew ?_ | refine keepalloc ?_ _))) (by (repeat (first | assumption | (refine newcell _ _ _ _ _ _ ?_ rfl;simp;done) | refine keepcell (by assumption) ?_ | refine keepdrew ?_ | refine keepalloc ?_ _))) (by (repeat (first | assumption | (refine newcell _ _ _ _ _ _ ?_ rfl;simp;done) | refine keepcell (by assumption) ?_ | refine keepdrew ?_ | refine keepalloc ?_ _))))).mono ?_;rw [hA];rintro e w' ⟨rfl,hb⟩))
   go_wp2_with fail
   refine hK.out _ _ ?_ (fun hHeld => ?_)
   ·(repeat' apply And.intro) <;> (repeat (first | assumption | (refine newcell _ _ _ _ _ _ ?_ rfl;simp;done) | refine keepcell (by assumption) ?_ | refine keepdrew ?_ | refine keepalloc ?_ _))
   clear hK K
   try simp only [sq]
   refine tkR 6 hHeld ?_
   try simp only [sq]
   refine tkR 7 hHeld ?_
   try simp only [sq]
   refine tkR 8 hHeld ?_
   try simp only [sq]
   refine tkR 9 hHeld ?_
   try simp only [sq]
   refine tkR 10 hHeld ?_
   try simp only [sq]
   refine tkR 11 hHeld ?_
   try simp only [sq]
   refine tkR 12 hHeld ?_
   try simp only [sq]
   refine tkR 13 hHeld ?_
   try simp only [sq]
   refine wpAnyH_take (i:=14) (v:=undef) rfl (by kernel_rfl) (by kernel_rfl) (by kernel_rfl) (fun _ _ _ h => h) (Or.inr ⟨by rfl,rfl⟩) hHeld ?_
   try simp only [sq]
   refine wpAnyH_take (i:=15) (v:=undef) rfl (by kernel_rfl) (by kernel_rfl) (by kernel_rfl) (fun _ _ _ h => h) (Or.inr ⟨by rfl,rfl⟩) hHeld ?_
   try simp only [sq]
   refine wpAnyH_take (i:=16) (v:=undef) rfl (by kernel_rfl) (by kernel_rfl) (by kernel_rfl) (fun _ _ _ h => h) (Or.inr ⟨by rfl,rfl⟩) hHeld ?_
   try simp only [sq]
   refine wpAnyH_take (i:=17) (v:=undef) rfl (by kernel_rfl) (by kernel_rfl) (by kernel_rfl) (fun _ _ _ h => h) (Or.inr ⟨by rfl,rfl⟩) hHeld ?_
   try simp only [sq]
   refine wpAnyH_take (i:=18) (v:=undef) rfl (by kernel_rfl) (by kernel_rfl) (by kernel_rfl) (fun _ _ _ h => h) (Or.inr ⟨by rfl,rfl⟩) hHeld ?_
   try simp only [sq]
   refine tkR 19 hHeld ?_
   try simp only [sq]
   refine tkR 20 hHeld ?_
   try simp only [sq]
   refine wpAnyH_done (by kernel_rfl) ?_ _
   go_wp2_with fail
   go_ret
   exact ⟨by simp,by (repeat (first | exact Below.refl _ _ | (refine btrans ?_ (by assumption)) | refine bdrew ?_ | refine balloc ?_ _))⟩
  ·go_enter Tryz.func46,Tryz.ntmps46
   go_wp2_with fail
   go_region_held3 (fun w' => w'.cell? ⟨w.heap.size,0,none⟩ = some (.int .i64 a) ∧ w'.cell? ⟨w.heap.size,1,none⟩ = some (.int .i64 b) ∧ w'.cell? ⟨w.heap.size,2,none⟩ = some (.int .i64 c) ∧ w'.cell? ⟨w.heap.size,3,none⟩ = some (.int .i64 d)) ((repeat' apply And.intro) <;> (repeat (first | assumption | (refine newcell _ _ _ _ _ _ ?_ rfl;simp;done) | refine keepcell (by assumption) ?_ | refine keepdrew ?_ | refine keepalloc ?_ _)))
    (first
     | (go_at_call 81;refine (impl_low _ _ _ _ _).mono ?_;rintro e w' ⟨rfl,rfl⟩)
     | (go_at_call 82;refine (impl_high _ _ _ _ _).mono ?_;rintro e w' ⟨rfl,rfl⟩)
     | (go_at_call 80;refine (impl_all _ 2 [(a,b),(c,d)] _ (by simp) (by simp) (pts2 (by (repeat (first | assumption | (refine newcell _ _ _ _ _ _ ?_ rfl;simp;done) | refine keepcell (by assumption) ?_ | refine keepdrew ?_ | refine keepalloc ?_ _))) (by (repeat (first | assumption | (refine newcell _ _ _ _ _ _ ?_ rfl;simp;done) | refine keepcell (by assumption) ?_ | refine keepdrew ?_ | refine keepalloc ?_ _))) (by (repeat (first | assumption | (refine newcell _ _ _ _ _ _ ?_ rfl;simp;done) | refine keepcell (by assumption) ?_ | refine keepdrew ?_ | refine keepalloc ?_ _))) (by (repeat (first | assumption | (refine newcell _ _ _ _ _ _ ?_ rfl;simp;done) | refine keepcell (by assumption) ?_ | refine keepdrew ?_ | refine keepalloc ?_ _))))).mono ?_;rw [hA];rintro e w' ⟨rfl,hb⟩))
   go_wp2_with fail
   go_ret
   exact ⟨by simp,by (repeat (first | exact Below.refl _ _ | (refine btrans ?_ (by assumption)) | refine bdrew ?_ | refine balloc ?_ _))⟩
theorem bok_le {a b c d:Int} (h:bok a b c d = true):In a ∧ In b ∧ In c ∧ In d ∧ a ≤ c ∧ b ≤ d:=by
 simp only [bok,cok,Bool.and_eq_true,decide_eq_true_eq] at h
 obtain ⟨⟨⟨⟨⟨h1,h2⟩,h3⟩,h4⟩,h5⟩,h6⟩:=h
 exact ⟨h1,h2,h3,h4,h5,h6⟩
theorem spec_boxok (a b c d:Int) (w:World):Calls Tryz.prog 19 #[.agg #[.int .i64 a,.int .i64 b,.int .i64 c,.int .i64 d]] w fun e w' => e = .returned (.bool (bok a b c d)) ∧ Below w.heap.size w w':=by
 unfold bok
 cases h1:cok a
 ·go_enter Tryz.func19,Tryz.ntmps19
  go_wp2_with (go_at_call 64;refine (spec_coord _ _).mono ?_;rintro e w' ⟨rfl,rfl⟩)
  go_ret
  exact ⟨by simp,by (repeat (first | exact Below.refl _ _ | (refine btrans ?_ (by assumption)) | refine bdrew ?_ | refine balloc ?_ _))⟩
 ·skip
  cases h2:cok b
  ·go_enter Tryz.func19,Tryz.ntmps19
   go_wp2_with (go_at_call 64;refine (spec_coord _ _).mono ?_;rintro e w' ⟨rfl,rfl⟩)
   go_ret
   exact ⟨by simp,by (repeat (first | exact Below.refl _ _ | (refine btrans ?_ (by assumption)) | refine bdrew ?_ | refine balloc ?_ _))⟩
  ·skip
   cases h3:cok c
   ·go_enter Tryz.func19,Tryz.ntmps19
    go_wp2_with (go_at_call 64;refine (spec_coord _ _).mono ?_;rintro e w' ⟨rfl,rfl⟩)
    go_ret
    exact ⟨by simp,by (repeat (first | exact Below.refl _ _ | (refine btrans ?_ (by assumption)) | refine bdrew ?_ | refine balloc ?_ _))⟩
   ·skip
    cases h4:cok d
    ·go_enter Tryz.func19,Tryz.ntmps19
     go_wp2_with (go_at_call 64;refine (spec_coord _ _).mono ?_;rintro e w' ⟨rfl,rfl⟩)
     go_ret
     exact ⟨by simp,by (repeat (first | exact Below.refl _ _ | (refine btrans ?_ (by assumption)) | refine bdrew ?_ | refine balloc ?_ _))⟩
    ·skip
     cases h5:decide (a ≤ c)
     ·go_enter Tryz.func19,Tryz.ntmps19
      go_wp2_with (go_at_call 64;refine (spec_coord _ _).mono ?_;rintro e w' ⟨rfl,rfl⟩)
      go_ret
      exact ⟨by simp,by (repeat (first | exact Below.refl _ _ | (refine btrans ?_ (by assumption)) | refine bdrew ?_ | refine balloc ?_ _))⟩
     ·go_enter Tryz.func19,Tryz.ntmps19
      go_wp2_with (go_at_call 64;refine (spec_coord _ _).mono ?_;rintro e w' ⟨rfl,rfl⟩)
      go_ret
      exact ⟨by simp,by (repeat (first | exact Below.refl _ _ | (refine btrans ?_ (by assumption)) | refine bdrew ?_ | refine balloc ?_ _))⟩
def areav (a b c d:Int):Int:=if bok a b c d = true then (c - a) * (d - b) else 0
theorem impl_area (a b c d:Int) (w:World):Calls Tryz.prog 117 #[.agg #[.int .i64 a,.int .i64 b,.int .i64 c,.int .i64 d]] w fun e w' => e = .returned (.int .i64 (areav a b c d)) ∧ Below w.heap.size w w':=by
 unfold areav
 cases hA:bok a b c d
 ·rw [if_neg (by decide)]
  go_enter Tryz.func117,Tryz.ntmps117
  go_wp2_with fail
  refine (impl_boxok _ _ _ _ _).mono ?_
  rw [hA]
  rintro e w1 ⟨rfl,hb1⟩
  go_wp2_with fail
  go_ret
  exact ⟨rfl,by (repeat (first | exact Below.refl _ _ | (refine btrans ?_ (by assumption)) | refine bdrew ?_ | refine balloc ?_ _))⟩
 ·rw [if_pos rfl]
  obtain ⟨h1,h2,h3,h4,h5,h6⟩:=bok_le hA
  obtain ⟨a1,a2⟩:=h1
  obtain ⟨a3,a4⟩:=h2
  obtain ⟨a5,a6⟩:=h3
  obtain ⟨a7,a8⟩:=h4
  obtain ⟨b1,b2⟩:=mulb (c - a) (d - b) (by omega) (by omega) (by omega) (by omega)
  go_enter Tryz.func117,Tryz.ntmps117
  go_wp2_with fail
  refine (impl_boxok _ _ _ _ _).mono ?_
  rw [hA]
  rintro e w1 ⟨rfl,hb1⟩
  obtain ⟨q0,q1,q2,q3⟩:w1.cell? ⟨w.heap.size,0,none⟩ = some (.int .i64 a) ∧ w1.cell? ⟨w.heap.size,1,none⟩ = some (.int .i64 b) ∧ w1.cell? ⟨w.heap.size,2,none⟩ = some (.int .i64 c) ∧ w1.cell? ⟨w.heap.size,3,none⟩ = some (.int .i64 d):=by (repeat' apply And.intro) <;> (repeat (first | assumption | (refine newcell _ _ _ _ _ _ ?_ rfl;simp;done) | refine keepcell (by assumption) ?_ | refine keepdrew ?_ | refine keepalloc ?_ _))
  go_wp2_with fail
  go_ret
  exact ⟨rfl,by (repeat (first | exact Below.refl _ _ | (refine btrans ?_ (by assumption)) | refine bdrew ?_ | refine balloc ?_ _))⟩
theorem spec_area (a b c d:Int) (w:World):Calls Tryz.prog 103 #[.agg #[.int .i64 a,.int .i64 b,.int .i64 c,.int .i64 d]] w fun e w' => e = .returned (.int .i64 (areav a b c d)) ∧ Below w.heap.size w w':=by
 unfold areav
 cases hA:bok a b c d
 ·rw [if_neg (by decide)]
  go_enter Tryz.func103,Tryz.ntmps103
  go_wp2_with fail
  refine (spec_boxok _ _ _ _ _).mono ?_
  rw [hA]
  rintro e w1 ⟨rfl,hb1⟩
  go_wp2_with fail
  go_ret
  exact ⟨rfl,by (repeat (first | exact Below.refl _ _ | (refine btrans ?_ (by assumption)) | refine bdrew ?_ | refine balloc ?_ _))⟩
 ·rw [if_pos rfl]
  obtain ⟨h1,h2,h3,h4,h5,h6⟩:=bok_le hA
  obtain ⟨a1,a2⟩:=h1
  obtain ⟨a3,a4⟩:=h2
  obtain ⟨a5,a6⟩:=h3
  obtain ⟨a7,a8⟩:=h4
  obtain ⟨b1,b2⟩:=mulb (c - a) (d - b) (by omega) (by omega) (by omega) (by omega)
  go_enter Tryz.func103,Tryz.ntmps103
  go_wp2_with fail
  refine (spec_boxok _ _ _ _ _).mono ?_
  rw [hA]
  rintro e w1 ⟨rfl,hb1⟩
  obtain ⟨q0,q1,q2,q3⟩:w1.cell? ⟨w.heap.size,0,none⟩ = some (.int .i64 a) ∧ w1.cell? ⟨w.heap.size,1,none⟩ = some (.int .i64 b) ∧ w1.cell? ⟨w.heap.size,2,none⟩ = some (.int .i64 c) ∧ w1.cell? ⟨w.heap.size,3,none⟩ = some (.int .i64 d):=by (repeat' apply And.intro) <;> (repeat (first | assumption | (refine newcell _ _ _ _ _ _ ?_ rfl;simp;done) | refine keepcell (by assumption) ?_ | refine keepdrew ?_ | refine keepalloc ?_ _))
  go_wp2_with fail
  go_ret
  exact ⟨rfl,by (repeat (first | exact Below.refl _ _ | (refine btrans ?_ (by assumption)) | refine bdrew ?_ | refine balloc ?_ _))⟩
theorem low_b (a b c d:Int) (w:World):Calls Tryz.prog 81 #[.agg #[.int .i64 a,.int .i64 b,.int .i64 c,.int .i64 d]] w fun e w' => e = .returned (.agg #[.int .i64 a,.int .i64 b]) ∧ Below w.heap.size w w':=
 (impl_low a b c d w).mono fun e w' ⟨h1,h2⟩ => ⟨h1,by subst h2;exact balloc (balloc (Below.refl _ _) _) _⟩
theorem high_b (a b c d:Int) (w:World):Calls Tryz.prog 82 #[.agg #[.int .i64 a,.int .i64 b,.int .i64 c,.int .i64 d]] w fun e w' => e = .returned (.agg #[.int .i64 c,.int .i64 d]) ∧ Below w.heap.size w w':=
 (impl_high a b c d w).mono fun e w' ⟨h1,h2⟩ => ⟨h1,by subst h2;exact balloc (balloc (Below.refl _ _) _) _⟩
theorem keepheap {w w':World} (hb:Below w.heap.size w w') {b:Nat} {o:Obj} (h:w.heap[b]? = some o):w'.heap[b]? = some o:=by
 rw [hb.block b (lt_of_block h)];exact h
theorem keepset {w:World} {p q:Addr} {v u:Value} (h:w.cell? p = some v) (hne:q.block ≠ p.block):(w.setCell q u).cell? p = some v:=by
 rw [World.cell?_setCell_far _ _ _ _ hne];exact h
theorem spec_join (a b c d e f g h:Int) (w:World):Calls Tryz.prog 104 #[.agg #[.int .i64 a,.int .i64 b,.int .i64 c,.int .i64 d],.agg #[.int .i64 e,.int .i64 f,.int .i64 g,.int .i64 h]] w fun e' w' => e' = .returned (.agg #[.int .i64 (min a e),.int .i64 (min b f),.int .i64 (max c g),.int .i64 (max d h)]) ∧ Below w.heap.size w w':=by
 generalize hm1:min a e = m1
 generalize hm2:min b f = m2
 generalize hm3:max c g = m3
 generalize hm4:max d h = m4
 go_enter Tryz.func104,Tryz.ntmps104
 go_wp2_with fail
 refine wp_region_held_drew (S:=(fun w' => w'.cell? ⟨w.heap.size,0,none⟩ = some (.int .i64 a) ∧ w'.cell? ⟨w.heap.size,1,none⟩ = some (.int .i64 b) ∧ w'.cell? ⟨w.heap.size,2,none⟩ = some (.int .i64 c) ∧ w'.cell? ⟨w.heap.size,3,none⟩ = some (.int .i64 d) ∧ w'.cell? ⟨w.heap.size + 1,0,none⟩ = some (.int .i64 e) ∧ w'.cell? ⟨w.heap.size + 1,1,none⟩ = some (.int .i64 f) ∧ w'.cell? ⟨w.heap.size + 1,2,none⟩ = some (.int .i64 g) ∧ w'.cell? ⟨w.heap.size + 1,3,none⟩ = some (.int .i64 h))) (by kernel_rfl) ?_ (fun hHeld => ?_)
 ·(repeat' apply And.intro) <;> (repeat (first | with_reducible assumption | (refine newcell _ _ _ _ _ _ ?_ rfl;simp;done) | refine keepcell (by with_reducible assumption) ?_ | refine keepdrew ?_ | refine keepalloc ?_ _))
 refine tkR 0 hHeld ?_
 try simp only [sq]
 refine tkR 1 hHeld ?_
 try simp only [sq]
 refine tkR 2 hHeld ?_
 try simp only [sq]
 refine tkR 3 hHeld ?_
 try simp only [sq]
 refine tkR 5 hHeld ?_
 try simp only [sq]
 refine tkR 6 hHeld ?_
 try simp only [sq]
 refine tkR 7 hHeld ?_
 try simp only [sq]
 refine tkR 8 hHeld ?_
 try simp only [sq]
 refine tkR 10 hHeld ?_
 try simp only [sq]
 refine tkR 11 hHeld ?_
 try simp only [sq]
 refine tkR 12 hHeld ?_
 try simp only [sq]
 refine tkR 13 hHeld ?_
 try simp only [sq]
 refine tkR 15 hHeld ?_
 try simp only [sq]
 refine tkR 16 hHeld ?_
 try simp only [sq]
 refine tkR 17 hHeld ?_
 try simp only [sq]
 refine tkR 18 hHeld ?_
 try simp only [sq]
 refine rd1 4 rfl (fun K hK => ?_)
 try simp only [sq]
 go_simp
 (first
   | (go_at_call 114;refine (spec_min _ _ _).mono ?_;(first | rw [hm1] | rw [hm2] | rw [hm3] | rw [hm4]);rintro e' w' ⟨rfl,hw⟩;replace hw:=hw.symm;subst hw)
   | (go_at_call 115;refine (spec_max _ _ _).mono ?_;(first | rw [hm1] | rw [hm2] | rw [hm3] | rw [hm4]);rintro e' w' ⟨rfl,hw⟩;replace hw:=hw.symm;subst hw))
 go_wp2_with fail
 refine hK.out _ _ ?_ (fun hHeld => ?_)
 ·(repeat' apply And.intro) <;> (repeat (first | with_reducible assumption | (refine newcell _ _ _ _ _ _ ?_ rfl;simp;done) | refine keepcell (by with_reducible assumption) ?_ | refine keepdrew ?_ | refine keepalloc ?_ _))
 clear hK K
 try simp only [sq]
 refine rd1 9 rfl (fun K hK => ?_)
 try simp only [sq]
 go_simp
 (first
   | (go_at_call 114;refine (spec_min _ _ _).mono ?_;(first | rw [hm1] | rw [hm2] | rw [hm3] | rw [hm4]);rintro e' w' ⟨rfl,hw⟩;replace hw:=hw.symm;subst hw)
   | (go_at_call 115;refine (spec_max _ _ _).mono ?_;(first | rw [hm1] | rw [hm2] | rw [hm3] | rw [hm4]);rintro e' w' ⟨rfl,hw⟩;replace hw:=hw.symm;subst hw))
 go_wp2_with fail
 refine hK.out _ _ ?_ (fun hHeld => ?_)
 ·(repeat' apply And.intro) <;> (repeat (first | with_reducible assumption | (refine newcell _ _ _ _ _ _ ?_ rfl;simp;done) | refine keepcell (by with_reducible assumption) ?_ | refine keepdrew ?_ | refine keepalloc ?_ _))
 clear hK K
 try simp only [sq]
 refine rd1 14 rfl (fun K hK => ?_)
 try simp only [sq]
 go_simp
 (first
   | (go_at_call 114;refine (spec_min _ _ _).mono ?_;(first | rw [hm1] | rw [hm2] | rw [hm3] | rw [hm4]);rintro e' w' ⟨rfl,hw⟩;replace hw:=hw.symm;subst hw)
   | (go_at_call 115;refine (spec_max _ _ _).mono ?_;(first | rw [hm1] | rw [hm2] | rw [hm3] | rw [hm4]);rintro e' w' ⟨rfl,hw⟩;replace hw:=hw.symm;subst hw))
 go_wp2_with fail
 refine hK.out _ _ ?_ (fun hHeld => ?_)
 ·(repeat' apply And.intro) <;> (repeat (first | with_reducible assumption | (refine newcell _ _ _ _ _ _ ?_ rfl;simp;done) | refine keepcell (by with_reducible assumption) ?_ | refine keepdrew ?_ | refine keepalloc ?_ _))
 clear hK K
 try simp only [sq]
 refine rd1 19 rfl (fun K hK => ?_)
 try simp only [sq]
 go_simp
 (first
   | (go_at_call 114;refine (spec_min _ _ _).mono ?_;(first | rw [hm1] | rw [hm2] | rw [hm3] | rw [hm4]);rintro e' w' ⟨rfl,hw⟩;replace hw:=hw.symm;subst hw)
   | (go_at_call 115;refine (spec_max _ _ _).mono ?_;(first | rw [hm1] | rw [hm2] | rw [hm3] | rw [hm4]);rintro e' w' ⟨rfl,hw⟩;replace hw:=hw.symm;subst hw))
 go_wp2_with fail
 refine hK.out _ _ ?_ (fun hHeld => ?_)
 ·(repeat' apply And.intro) <;> (repeat (first | with_reducible assumption | (refine newcell _ _ _ _ _ _ ?_ rfl;simp;done) | refine keepcell (by with_reducible assumption) ?_ | refine keepdrew ?_ | refine keepalloc ?_ _))
 clear hK K
 try simp only [sq]
 refine tkR 20 hHeld ?_
 try simp only [sq]
 refine rd1 21 rfl (fun K hK => ?_)
 try simp only [sq]
 go_simp
 refine hK.out _ _ ?_ (fun hHeld => ?_)
 ·(repeat' apply And.intro) <;> (repeat (first | with_reducible assumption | (refine newcell _ _ _ _ _ _ ?_ rfl;simp;done) | refine keepcell (by with_reducible assumption) ?_ | refine keepdrew ?_ | refine keepalloc ?_ _))
 clear hK K
 try simp only [sq]
 refine wpAnyH_done (by kernel_rfl) ?_ _
 go_wp2_with fail
 refine bodyPost_ret (v:=.agg #[.int .i64 m1,.int .i64 m2,.int .i64 m3,.int .i64 m4]) (by simp [results,Tryz.results104,go_sem]) rfl ⟨rfl,by (repeat (first | exact Below.refl _ _ | (refine btrans ?_ (by with_reducible assumption)) | refine bdrew ?_ | refine balloc ?_ _))⟩
end Go.Proofs.YtjahlofahjgdbaaGreat
