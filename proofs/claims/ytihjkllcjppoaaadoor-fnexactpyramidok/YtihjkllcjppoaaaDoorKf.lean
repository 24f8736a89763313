/- The specification's l11Tile. -/
import Derived.Test.YtihjkllcjppoaaaDoorKe
namespace Go.Proofs.YtihjkllcjppoaaaDoor
open Go.RowKit
set_option linter.unusedSimpArgs false
set_option linter.unusedVariables false
theorem keepheapK {w w' : World} (hb : Below w.heap.size w w') {b : Nat} {o : Obj} (h : w.heap[b]? = some o) : w'.heap[b]? = some o := by
  rw [hb.block b (Array.getElem?_eq_some_iff.1 h).1]; exact h
theorem keephdrewK {w : World} {b : Nat} {o : Obj} (h : w.heap[b]? = some o) : w.drew.heap[b]? = some o := h
theorem spec_ktile_neg (k : Int) (hk : k < 0) (w : World) : Calls Tryd.prog 13 #[.int .i64 k] w fun e w' => ∃ l c r, e = .returned (.tuple #[.agg #[.int .i64 l, .int .i64 c, .int .i64 r], .bool (kok k)]) ∧ Below w.heap.size w w' := by
  have hz : kok k = false := by unfold kok; rw [ktok_neg hk]; rfl
  rw [hz]
  go_enter Tryd.func13, Tryd.ntmps13
  go_wp2_with fail
  exact bodyPost_ret (v := .tuple #[.agg #[.int .i64 0, .int .i64 0, .int .i64 0], .bool false]) (by simp [results, Tryd.results13, go_sem]) rfl ⟨_, _, _, rfl, by (repeat (first | with_reducible exact Below.refl _ _ | with_reducible assumption | (with_reducible refine btrans ?_ (by with_reducible assumption)) | with_reducible refine bdrew ?_ | with_reducible refine bdrewN ?_ | with_reducible refine balloc ?_ _ | with_reducible refine bset ?_ (by simp; omega) _))⟩
set_option maxHeartbeats 2000000 in
theorem spec_ktile_core (k l c r : Int) (d : Int) (hk0 : 0 ≤ k) (hd : IntKind.i64.wrap (k.tdiv 16) = d) (hl : k % 16 = l) (w : World) (HP : Hid (∀ W, Calls Tryd.prog 23 #[.int .i64 d] W fun e w' => e = .returned (.tuple #[.int .i64 c, .int .i64 r]) ∧ w' = W)) (b q : Bool) (hb : tok l c r = b) (hq : decide (l ≤ 4) = q) : Calls Tryd.prog 13 #[.int .i64 k] w fun e w' => ∃ x y z, e = .returned (.tuple #[.agg #[.int .i64 x, .int .i64 y, .int .i64 z], .bool (b && q)]) ∧ Below w.heap.size w w' := by
  have HO := hid (fun W => spec_tileok l c r W)
  rw [hb] at HO
  have hA : Below w.heap.size w (w.alloc (.cells #[.int .i64 0, .int .i64 0, .int .i64 0] 32)) := balloc (Below.refl _ _) _
  have g0 := new_alloc w w.heap.size (.cells #[.int .i64 0, .int .i64 0, .int .i64 0] 32) rfl
  have hs0 : w.heap.size < (w.alloc (.cells #[.int .i64 0, .int .i64 0, .int .i64 0] 32)).heap.size := by simp
  go_enter Tryd.func13, Tryd.ntmps13
  go_upto_region 3 with fail
  generalize w.alloc (.cells #[.int .i64 0, .int .i64 0, .int .i64 0] 32) = W at *
  go_wp2_with fail
  refine (HP.out _).mono ?_
  rintro e w1 ⟨rfl, hw1⟩
  replace hw1 := hw1.symm
  subst hw1
  have hA2 : Below w.heap.size w (W.alloc (.cells #[.int .i64 l, .int .i64 c, .int .i64 r] 32)) := balloc hA _
  have hB3 : Below W.heap.size W (W.alloc (.cells #[.int .i64 l, .int .i64 c, .int .i64 r] 32)) := balloc (Below.refl _ _) _
  have g1 := new_alloc W W.heap.size (.cells #[.int .i64 l, .int .i64 c, .int .i64 r] 32) rfl
  replace g0 := keepheapK hB3 g0
  go_upto_region 5 with fail
  obtain ⟨y0, y1, y2, _⟩ := cellT g1
  clear HP hd hl
  have hne : w.heap.size < W.heap.size := hs0
  generalize W.alloc (.cells #[.int .i64 l, .int .i64 c, .int .i64 r] 32) = V at *
  obtain ⟨B, hB⟩ : ∃ B, B = W.heap.size := ⟨_, rfl⟩
  rw [← hB] at y0 y1 y2 hne ⊢
  clear hB hB3 g1 hA
  cases b
  · skip
    refine wp_region_held_drew (S := (fun w' => w'.cell? ⟨B, 0, none⟩ = some (.int .i64 l) ∧ w'.cell? ⟨B, 1, none⟩ = some (.int .i64 c) ∧ w'.cell? ⟨B, 2, none⟩ = some (.int .i64 r))) (by kernel_rfl) ?_ (fun hHeld => ?_)
    · (repeat' apply And.intro) <;> (repeat (first | with_reducible assumption | with_reducible refine keepset' ?_ (by dsimp only; omega) | with_reducible refine keepdrew ?_ | with_reducible refine keepcell (by with_reducible assumption) ?_ | with_reducible refine keepalloc ?_ _))
    refine wpAnyH_take (i := 0) (v := ?_) rfl (by kernel_rfl) (by kernel_rfl) (by kernel_rfl) (fun _ _ _ h => h) (Or.inl ⟨by rfl, ?_⟩) hHeld ?_
    rotate_left
    · intro w hSw; (try dsimp only at hSw); go_simp; try (with_reducible rfl)
    try simp only [sq]
    refine wpAnyH_take (i := 1) (v := ?_) rfl (by kernel_rfl) (by kernel_rfl) (by kernel_rfl) (fun _ _ _ h => h) (Or.inl ⟨by rfl, ?_⟩) hHeld ?_
    rotate_left
    · intro w hSw; (try dsimp only at hSw); go_simp; try (with_reducible rfl)
    try simp only [sq]
    refine wpAnyH_ready (rs := [2]) (by kernel_rfl) (by simp) ?_
    refine AllReadyH.cons rfl (fun K hK => ?_) AllReadyH.nil
    try simp only [sq]
    go_simp
    (first
        | (go_at_call 17; refine (HO.out _).mono ?_; rintro e z ⟨rfl, hz⟩; have hb3 : Below V.drew.heap.size V.drew z := (by rw [hz]; exact balloc (Below.refl _ _) _); clear hz))
    go_wp2_with fail
    refine hK.out _ _ ?_ (fun hHeld => ?_)
    · (repeat' apply And.intro) <;> (repeat (first | with_reducible assumption | with_reducible refine keepset' ?_ (by dsimp only; omega) | with_reducible refine keepdrew ?_ | with_reducible refine keepcell (by with_reducible assumption) ?_ | with_reducible refine keepalloc ?_ _))
    clear hK K
    try simp only [sq]
    refine wpAnyH_take (i := 3) (v := ?_) rfl (by kernel_rfl) (by kernel_rfl) (by kernel_rfl) (fun _ _ _ h => h) (Or.inl ⟨by rfl, ?_⟩) hHeld ?_
    rotate_left
    · intro w hSw; (try dsimp only at hSw); go_simp; try (with_reducible rfl)
    try simp only [sq]
    refine wpAnyH_take (i := 4) (v := undef) rfl (by kernel_rfl) (by kernel_rfl) (by kernel_rfl) (fun _ _ _ h => h) (Or.inr ⟨by rfl, rfl⟩) hHeld ?_
    try simp only [sq]
    refine wpAnyH_take (i := 5) (v := undef) rfl (by kernel_rfl) (by kernel_rfl) (by kernel_rfl) (fun _ _ _ h => h) (Or.inr ⟨by rfl, rfl⟩) hHeld ?_
    try simp only [sq]
    refine wpAnyH_take (i := 6) (v := undef) rfl (by kernel_rfl) (by kernel_rfl) (by kernel_rfl) (fun _ _ _ h => h) (Or.inr ⟨by rfl, rfl⟩) hHeld ?_
    try simp only [sq]
    refine wpAnyH_take (i := 7) (v := ?_) rfl (by kernel_rfl) (by kernel_rfl) (by kernel_rfl) (fun _ _ _ h => h) (Or.inl ⟨by rfl, ?_⟩) hHeld ?_
    rotate_left
    · intro w hSw; (try dsimp only at hSw); go_simp; try (with_reducible rfl)
    try simp only [sq]
    have gz : z.heap[w.heap.size]? = some (.cells #[.int .i64 0, .int .i64 0, .int .i64 0] 32 (0, 0)) := by (repeat (first | with_reducible assumption | with_reducible refine keepheapK (by with_reducible assumption) ?_ | with_reducible refine keephdrewK ?_))
    obtain ⟨i0, i1, i2, i3, i4, i5⟩ := cellT gz
    have Gz := hid gz
    clear gz
    refine wpAnyH_ready (rs := [8]) (by kernel_rfl) (by simp) ?_
    refine AllReadyH.cons rfl (fun K hK => ?_) AllReadyH.nil
    try simp only [sq]
    go_simp
    refine hK.out _ _ ?_ (fun hHeld => ?_)
    · (repeat' apply And.intro) <;> (repeat (first | with_reducible assumption | with_reducible refine keepset' ?_ (by dsimp only; omega) | with_reducible refine keepdrew ?_ | with_reducible refine keepcell (by with_reducible assumption) ?_ | with_reducible refine keepalloc ?_ _))
    clear hK K
    try simp only [sq]
    refine wpAnyH_take (i := 9) (v := ?_) rfl (by kernel_rfl) (by kernel_rfl) (by kernel_rfl) (fun _ _ _ h => h) (Or.inl ⟨by rfl, ?_⟩) hHeld ?_
    rotate_left
    · intro w hSw; (try dsimp only at hSw); go_simp; try (with_reducible rfl)
    try simp only [sq]
    refine wpAnyH_done (by kernel_rfl) ?_ _
    have hbz : Below w.heap.size w z := by (repeat (first | with_reducible exact Below.refl _ _ | with_reducible assumption | (with_reducible refine btrans ?_ (by with_reducible assumption)) | with_reducible refine bdrew ?_ | with_reducible refine bdrewN ?_ | with_reducible refine balloc ?_ _ | with_reducible refine bset ?_ (by simp; omega) _))
    go_wp2_with fail
    have gF := set3 Gz.out (.int .i64 l) (.int .i64 c) (.int .i64 r)
    have hF := bset (k := 2) (bset (k := 1) (bset (k := 0) hbz (Nat.le_refl _) (.int .i64 l)) (Nat.le_refl _) (.int .i64 c)) (Nat.le_refl _) (.int .i64 r)
    generalize (((z.setCell ⟨w.heap.size, 0, none⟩ (.int .i64 l)).setCell ⟨w.heap.size, 1, none⟩ (.int .i64 c)).setCell ⟨w.heap.size, 2, none⟩ (.int .i64 r)) = wf at gF hF ⊢
    obtain ⟨z0, z1, z2, _, _, _⟩ := cellT gF
    exact bodyPost_ret (v := .tuple #[.agg #[.int .i64 l, .int .i64 c, .int .i64 r], .bool (false && q)]) (by simp [results, Tryd.results13, go_sem, z0, z1, z2]) rfl ⟨_, _, _, rfl, hF⟩
  · skip
    refine wp_region_held_drew (S := (fun w' => w'.cell? ⟨B, 0, none⟩ = some (.int .i64 l) ∧ w'.cell? ⟨B, 1, none⟩ = some (.int .i64 c) ∧ w'.cell? ⟨B, 2, none⟩ = some (.int .i64 r))) (by kernel_rfl) ?_ (fun hHeld => ?_)
    · (repeat' apply And.intro) <;> (repeat (first | with_reducible assumption | with_reducible refine keepset' ?_ (by dsimp only; omega) | with_reducible refine keepdrew ?_ | with_reducible refine keepcell (by with_reducible assumption) ?_ | with_reducible refine keepalloc ?_ _))
    refine wpAnyH_take (i := 0) (v := ?_) rfl (by kernel_rfl) (by kernel_rfl) (by kernel_rfl) (fun _ _ _ h => h) (Or.inl ⟨by rfl, ?_⟩) hHeld ?_
    rotate_left
    · intro w hSw; (try dsimp only at hSw); go_simp; try (with_reducible rfl)
    try simp only [sq]
    refine wpAnyH_take (i := 1) (v := ?_) rfl (by kernel_rfl) (by kernel_rfl) (by kernel_rfl) (fun _ _ _ h => h) (Or.inl ⟨by rfl, ?_⟩) hHeld ?_
    rotate_left
    · intro w hSw; (try dsimp only at hSw); go_simp; try (with_reducible rfl)
    try simp only [sq]
    refine wpAnyH_ready (rs := [2]) (by kernel_rfl) (by simp) ?_
    refine AllReadyH.cons rfl (fun K hK => ?_) AllReadyH.nil
    try simp only [sq]
    go_simp
    (first
        | (go_at_call 17; refine (HO.out _).mono ?_; rintro e z ⟨rfl, hz⟩; have hb3 : Below V.drew.heap.size V.drew z := (by rw [hz]; exact balloc (Below.refl _ _) _); clear hz))
    go_wp2_with fail
    refine hK.out _ _ ?_ (fun hHeld => ?_)
    · (repeat' apply And.intro) <;> (repeat (first | with_reducible assumption | with_reducible refine keepset' ?_ (by dsimp only; omega) | with_reducible refine keepdrew ?_ | with_reducible refine keepcell (by with_reducible assumption) ?_ | with_reducible refine keepalloc ?_ _))
    clear hK K
    try simp only [sq]
    refine wpAnyH_take (i := 3) (v := ?_) rfl (by kernel_rfl) (by kernel_rfl) (by kernel_rfl) (fun _ _ _ h => h) (Or.inl ⟨by rfl, ?_⟩) hHeld ?_
    rotate_left
    · intro w hSw; (try dsimp only at hSw); go_simp; try (with_reducible rfl)
    try simp only [sq]
    refine wpAnyH_take (i := 4) (v := ?_) rfl (by kernel_rfl) (by kernel_rfl) (by kernel_rfl) (fun _ _ _ h => h) (Or.inl ⟨by rfl, ?_⟩) hHeld ?_
    rotate_left
    · intro w hSw; (try dsimp only at hSw); go_simp; try (with_reducible rfl)
    try simp only [sq]
    refine wpAnyH_take (i := 5) (v := ?_) rfl (by kernel_rfl) (by kernel_rfl) (by kernel_rfl) (fun _ _ _ h => h) (Or.inl ⟨by rfl, ?_⟩) hHeld ?_
    rotate_left
    · intro w hSw; (try dsimp only at hSw); go_simp; try (with_reducible rfl)
    try simp only [sq]
    refine wpAnyH_take (i := 6) (v := ?_) rfl (by kernel_rfl) (by kernel_rfl) (by kernel_rfl) (fun _ _ _ h => h) (Or.inl ⟨by rfl, ?_⟩) hHeld ?_
    rotate_left
    · intro w hSw; (try dsimp only at hSw); go_simp; try (with_reducible rfl)
    try simp only [sq]
    refine wpAnyH_take (i := 7) (v := ?_) rfl (by kernel_rfl) (by kernel_rfl) (by kernel_rfl) (fun _ _ _ h => h) (Or.inl ⟨by rfl, ?_⟩) hHeld ?_
    rotate_left
    · intro w hSw; (try dsimp only at hSw); go_simp; try (with_reducible rfl)
    try simp only [sq]
    have gz : z.heap[w.heap.size]? = some (.cells #[.int .i64 0, .int .i64 0, .int .i64 0] 32 (0, 0)) := by (repeat (first | with_reducible assumption | with_reducible refine keepheapK (by with_reducible assumption) ?_ | with_reducible refine keephdrewK ?_))
    obtain ⟨i0, i1, i2, i3, i4, i5⟩ := cellT gz
    have Gz := hid gz
    clear gz
    refine wpAnyH_ready (rs := [8]) (by kernel_rfl) (by simp) ?_
    refine AllReadyH.cons rfl (fun K hK => ?_) AllReadyH.nil
    try simp only [sq]
    go_simp
    refine hK.out _ _ ?_ (fun hHeld => ?_)
    · (repeat' apply And.intro) <;> (repeat (first | with_reducible assumption | with_reducible refine keepset' ?_ (by dsimp only; omega) | with_reducible refine keepdrew ?_ | with_reducible refine keepcell (by with_reducible assumption) ?_ | with_reducible refine keepalloc ?_ _))
    clear hK K
    try simp only [sq]
    refine wpAnyH_take (i := 9) (v := ?_) rfl (by kernel_rfl) (by kernel_rfl) (by kernel_rfl) (fun _ _ _ h => h) (Or.inl ⟨by rfl, ?_⟩) hHeld ?_
    rotate_left
    · intro w hSw; (try dsimp only at hSw); go_simp; try (with_reducible rfl)
    try simp only [sq]
    refine wpAnyH_done (by kernel_rfl) ?_ _
    have hbz : Below w.heap.size w z := by (repeat (first | with_reducible exact Below.refl _ _ | with_reducible assumption | (with_reducible refine btrans ?_ (by with_reducible assumption)) | with_reducible refine bdrew ?_ | with_reducible refine bdrewN ?_ | with_reducible refine balloc ?_ _ | with_reducible refine bset ?_ (by simp; omega) _))
    go_wp2_with fail
    have gF := set3 Gz.out (.int .i64 l) (.int .i64 c) (.int .i64 r)
    have hF := bset (k := 2) (bset (k := 1) (bset (k := 0) hbz (Nat.le_refl _) (.int .i64 l)) (Nat.le_refl _) (.int .i64 c)) (Nat.le_refl _) (.int .i64 r)
    generalize (((z.setCell ⟨w.heap.size, 0, none⟩ (.int .i64 l)).setCell ⟨w.heap.size, 1, none⟩ (.int .i64 c)).setCell ⟨w.heap.size, 2, none⟩ (.int .i64 r)) = wf at gF hF ⊢
    obtain ⟨z0, z1, z2, _, _, _⟩ := cellT gF
    exact bodyPost_ret (v := .tuple #[.agg #[.int .i64 l, .int .i64 c, .int .i64 r], .bool (true && q)]) (by simp [results, Tryd.results13, go_sem, z0, z1, z2]) rfl ⟨_, _, _, rfl, hF⟩
theorem spec_ktile (k : Int) (hk : i64ok k) (w : World) : Calls Tryd.prog 13 #[.int .i64 k] w fun e w' => ∃ x y z, e = .returned (.tuple #[.agg #[.int .i64 x, .int .i64 y, .int .i64 z], .bool (kok k)]) ∧ Below w.heap.size w w' := by
  rcases Int.lt_or_le k 0 with h0 | h0
  · exact spec_ktile_neg k h0 w
  obtain ⟨b1, b2, b3, b4⟩ := tdiv_bounds hk
  have hw1 : IntKind.i64.wrap (k.tdiv 16) = k.tdiv 16 := by rw [IntKind.wrap_i64]; omega
  have hm : k % 16 = klev k := by unfold klev; rw [Int.tmod_eq_emod_of_nonneg h0]
  refine spec_ktile_core k (klev k) (kcol k) (krow k) (k.tdiv 16) h0 hw1 hm w (hid (fun W => ?_)) _ _ rfl rfl
  by_cases h : kin k
  · have hq : k.tdiv 16 = (((k.tdiv 16).toNat : Nat) : Int) := by unfold kin at h; omega
    have h' : (k.tdiv 16).toNat ≤ 4294967295 := by unfold kin at h; omega
    have HP := spec_part (k.tdiv 16).toNat h' W
    rw [← hq] at HP
    unfold kcol krow
    rw [if_pos h, if_pos h]
    exact HP
  · have h' : k.tdiv 16 < 0 ∨ 4294967295 < k.tdiv 16 := by unfold kin at h; omega
    unfold kcol krow
    rw [if_neg h, if_neg h]
    exact spec_part_no _ h' W
end Go.Proofs.YtihjkllcjppoaaaDoor
