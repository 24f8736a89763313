/- Whether a figure has a point: the landed ones. -/
import Derived.Test.YtmnnbifekbacnaaDoorShBox
namespace Go.Proofs.YtmnnbifekbacnaaDoor
open Go.RowKit
set_option linter.unusedSimpArgs false
set_option linter.unusedVariables false
def alongSides (ps : List (Int × Int)) : List Sd := (List.range (ps.length - 1)).map fun k => ((ps.getD k (0, 0)).1, (ps.getD k (0, 0)).2, (ps.getD (k + 1) (0, 0)).1, (ps.getD (k + 1) (0, 0)).2)
theorem along_len (ps : List (Int × Int)) : (alongSides ps).length = ps.length - 1 := by simp [alongSides]
theorem along_at (ps : List (Int × Int)) (k : Nat) (hk : k < ps.length - 1) : (alongSides ps).getD k (0, 0, 0, 0) = ((ps.getD k (0, 0)).1, (ps.getD k (0, 0)).2, (ps.getD (k + 1) (0, 0)).1, (ps.getD (k + 1) (0, 0)).2) := by
  simp [alongSides, List.getD_eq_getElem?_getD, List.getElem?_map, List.getElem?_range hk]
theorem along_in {ps : List (Int × Int)} (h : allok ps = true) : ∀ k, k < (alongSides ps).length → SdIn ((alongSides ps).getD k (0, 0, 0, 0)) := by
  intro k hk
  rw [along_len] at hk
  rw [along_at ps k hk]
  obtain ⟨i1, i2⟩ := allok_in h k (by omega)
  obtain ⟨i3, i4⟩ := allok_in h (k + 1) (by omega)
  exact ⟨i1, i2, i3, i4⟩
/-- Whether one of the first k sides has p. -/
def anyOn (px py : Int) (qs : List Sd) : Nat → Bool
  | 0 => false
  | k + 1 => anyOn px py qs k || onb px py (qs.getD k (0, 0, 0, 0)).1 (qs.getD k (0, 0, 0, 0)).2.1 (qs.getD k (0, 0, 0, 0)).2.2.1 (qs.getD k (0, 0, 0, 0)).2.2.2
theorem any_mono {px py : Int} {qs : List Sd} {k : Nat} (h : anyOn px py qs k = true) : ∀ m, k ≤ m → anyOn px py qs m = true
  | 0, hm => by obtain rfl : k = 0 := by omega
                exact h
  | m + 1, hm => by
    by_cases e : k = m + 1
    · subst e; exact h
    · rw [anyOn, any_mono h m (by omega)]; rfl
set_option maxHeartbeats 1000000 in
theorem sides_along (a : Option Addr) (cap : Nat) (ps : List (Int × Int)) (w : World) (hm : ps.length ≤ 1099511627776) (hc : ps.length ≤ cap) (h : Pts w a ps) (h1 : 1 ≤ ps.length) : Calls Tryd.prog 40 #[.slice a ps.length cap] w fun e w' => ∃ b, e = .returned (.slice (some ⟨b, 0, none⟩) (alongSides ps).length (alongSides ps).length) ∧ w.heap.size ≤ b ∧ b < w'.heap.size ∧ SdAt w' b 0 (alongSides ps) ∧ Below w.heap.size w w' := by
  rw [along_len]
  obtain ⟨n, hn⟩ : ∃ n, ps.length = n + 1 := ⟨ps.length - 1, by omega⟩
  have hl : (alongSides ps).length = n := by rw [along_len]; omega
  have hat : ∀ k, k < n → (alongSides ps).getD k (0, 0, 0, 0) = ((ps.getD k (0, 0)).1, (ps.getD k (0, 0)).2, (ps.getD (k + 1) (0, 0)).1, (ps.getD (k + 1) (0, 0)).2) := fun k hk => along_at ps k (by omega)
  have hmk := make_sides n (by omega)
  have Hh := hid h
  have Hn := hid hn
  rw [show ps.length - 1 = n by omega, hn]
  have hc' : n + 1 ≤ cap := by omega
  have hm' : n + 1 ≤ 1099511627776 := by omega
  clear h h1 hm hc hn
  go_enter Tryd.func40, Tryd.ntmps40
  go_wp2_with fail
  go_loopw [11] (fun ti wr => ∃ k : Nat, ti = .int .i64 k ∧ k ≤ n ∧ Below w.heap.size w wr ∧ w.heap.size < wr.heap.size ∧ SdAt wr w.heap.size 0 ((alongSides ps).take k) ∧ wr.there w.heap.size 0 (n * 4)) (fun ti _ => n - (intOf ti).toNat)
  case atStart => exact ⟨0, rfl, Nat.zero_le _, (Below.refl _ _).alloc (Nat.le_refl _) _, by simp, fun j hj => by simp at hj, made_own4 w n⟩
  case round =>
    clear hmk
    obtain ⟨k, rfl, hk, hb, hB, hp, ht⟩ := hrel
    by_cases hlt : k < n
    · have hq := hat k hlt
      obtain ⟨b, off, rfl, hbs, hps⟩ : ∃ b off, a = some ⟨b, off, none⟩ ∧ b < w.heap.size ∧ PtsAt w b off ps := by
        rcases Hh.out with h | h
        · have := Hn.out; rw [h] at this; simp at this
        · exact h
      obtain ⟨c0, c1⟩ := hps.below hbs hb k (by have := Hn.out; omega)
      obtain ⟨d0, d1⟩ := hps.below hbs hb (k + 1) (by have := Hn.out; omega)
      generalize (ps.getD k (0, 0)).1 = x at *
      generalize (ps.getD k (0, 0)).2 = y at *
      generalize (ps.getD (k + 1) (0, 0)).1 = u at *
      generalize (ps.getD (k + 1) (0, 0)).2 = v at *
      obtain ⟨g0, g0'⟩ := ht (k * 4) (by omega)
      obtain ⟨g1, g1'⟩ := ht (k * 4 + 1) (by omega)
      obtain ⟨g2, g2'⟩ := ht (k * 4 + 2) (by omega)
      obtain ⟨g3, g3'⟩ := ht (k * 4 + 3) (by omega)
      obtain ⟨u0, hu0⟩ := Option.isSome_iff_exists.1 g0
      obtain ⟨u1, hu1⟩ := Option.isSome_iff_exists.1 g1
      obtain ⟨u2, hu2⟩ := Option.isSome_iff_exists.1 g2
      obtain ⟨u3, hu3⟩ := Option.isSome_iff_exists.1 g3
      simp only [Nat.zero_add, ← Nat.add_assoc] at hu0 hu1 hu2 hu3 g0' g1' g2' g3'
      have Hps := hid hps
      have Hq := hid hq
      have Hp := hid hp
      have Ht := hid ht
      have Hat := hid hat
      clear hps hq hp ht g0 g1 g2 g3 hat
      have hk0 : (0 : Int) ≤ (k : Int) := by omega
      have hk1 : (k : Int) < (n : Int) := by omega
      have hk2 : (k : Int) < (n : Int) + 1 := by omega
      have hk3 : (k : Int) + 1 < (n : Int) + 1 := by omega
      have hk4 : (0 : Int) ≤ (k : Int) + 1 := by omega
      have hadd : IntKind.i64.wrap ((k : Int) + 1) = (k : Int) + 1 := by rw [IntKind.wrap_i64]; omega
      have hne : w.heap.size ≠ b := by omega
      go_wp2_with fail
      refine wp_region_held_drew (S := (fun w' => w'.cell? ⟨b, off + k * 2, none⟩ = some (.int .i64 x) ∧ w'.cell? ⟨b, off + k * 2 + 1, none⟩ = some (.int .i64 y) ∧ w'.cell? ⟨b, off + (k + 1) * 2, none⟩ = some (.int .i64 u) ∧ w'.cell? ⟨b, off + (k + 1) * 2 + 1, none⟩ = some (.int .i64 v))) (by kernel_rfl) ?_ (fun hHeld => ?_)
      · (repeat' apply And.intro) <;> (repeat (first | with_reducible assumption | with_reducible refine keepset ?_ (by dsimp only; omega) | with_reducible refine keepdrew ?_ | with_reducible refine keepcell (by with_reducible assumption) ?_ | with_reducible refine keepalloc ?_ _))
      refine wpAnyH_take (i := 0) (v := ?_) rfl (by kernel_rfl) (by kernel_rfl) (by kernel_rfl) (fun _ _ _ h => h) (Or.inl ⟨by rfl, ?_⟩) hHeld ?_
      rotate_left
      · intro w hSw; (try dsimp only at hSw); go_simp; try (with_reducible rfl)
      try simp only [sq]
      refine wpAnyH_take (i := 1) (v := ?_) rfl (by kernel_rfl) (by kernel_rfl) (by kernel_rfl) (fun _ _ _ h => h) (Or.inl ⟨by rfl, ?_⟩) hHeld ?_
      rotate_left
      · intro w hSw; (try dsimp only at hSw); go_simp; try (with_reducible rfl)
      try simp only [sq]
      refine wpAnyH_take (i := 2) (v := ?_) rfl (by kernel_rfl) (by kernel_rfl) (by kernel_rfl) (fun _ _ _ h => h) (Or.inl ⟨by rfl, ?_⟩) hHeld ?_
      rotate_left
      · intro w hSw; (try dsimp only at hSw); go_simp; try (with_reducible rfl)
      try simp only [sq]
      refine wpAnyH_take (i := 3) (v := ?_) rfl (by kernel_rfl) (by kernel_rfl) (by kernel_rfl) (fun _ _ _ h => h) (Or.inl ⟨by rfl, ?_⟩) hHeld ?_
      rotate_left
      · intro w hSw; (try dsimp only at hSw); go_simp; try (with_reducible rfl)
      try simp only [sq]
      refine wpAnyH_take (i := 4) (v := ?_) rfl (by kernel_rfl) (by kernel_rfl) (by kernel_rfl) (fun _ _ _ h => h) (Or.inl ⟨by rfl, ?_⟩) hHeld ?_
      rotate_left
      · intro w hSw; (try dsimp only at hSw); go_simp; try (with_reducible rfl)
      try simp only [sq]
      refine wpAnyH_take (i := 5) (v := ?_) rfl (by kernel_rfl) (by kernel_rfl) (by kernel_rfl) (fun _ _ _ h => h) (Or.inl ⟨by rfl, ?_⟩) hHeld ?_
      rotate_left
      · intro w hSw; (try dsimp only at hSw); go_simp; try (with_reducible rfl)
      try simp only [sq]
      refine wpAnyH_take (i := 6) (v := ?_) rfl (by kernel_rfl) (by kernel_rfl) (by kernel_rfl) (fun _ _ _ h => h) (Or.inl ⟨by rfl, ?_⟩) hHeld ?_
      rotate_left
      · intro w hSw; (try dsimp only at hSw); go_simp; try (with_reducible rfl)
      try simp only [sq]
      refine wpAnyH_take (i := 7) (v := ?_) rfl (by kernel_rfl) (by kernel_rfl) (by kernel_rfl) (fun _ _ _ h => h) (Or.inl ⟨by rfl, ?_⟩) hHeld ?_
      rotate_left
      · intro w hSw; (try dsimp only at hSw); go_simp; try (with_reducible rfl)
      try simp only [sq]
      refine wpAnyH_take (i := 8) (v := ?_) rfl (by kernel_rfl) (by kernel_rfl) (by kernel_rfl) (fun _ _ _ h => h) (Or.inl ⟨by rfl, ?_⟩) hHeld ?_
      rotate_left
      · intro w hSw; (try dsimp only at hSw); go_simp; try (with_reducible rfl)
      try simp only [sq]
      refine wpAnyH_take (i := 9) (v := ?_) rfl (by kernel_rfl) (by kernel_rfl) (by kernel_rfl) (fun _ _ _ h => h) (Or.inl ⟨by rfl, ?_⟩) hHeld ?_
      rotate_left
      · intro w hSw; (try dsimp only at hSw); go_simp; try (with_reducible rfl)
      try simp only [sq]
      refine wpAnyH_take (i := 10) (v := ?_) rfl (by kernel_rfl) (by kernel_rfl) (by kernel_rfl) (fun _ _ _ h => h) (Or.inl ⟨by rfl, ?_⟩) hHeld ?_
      rotate_left
      · intro w hSw; (try dsimp only at hSw); go_simp; try (with_reducible rfl)
      try simp only [sq]
      refine wpAnyH_take (i := 11) (v := ?_) rfl (by kernel_rfl) (by kernel_rfl) (by kernel_rfl) (fun _ _ _ h => h) (Or.inl ⟨by rfl, ?_⟩) hHeld ?_
      rotate_left
      · intro w hSw; (try dsimp only at hSw); go_simp; try (with_reducible rfl)
      try simp only [sq]
      refine wpAnyH_take (i := 12) (v := ?_) rfl (by kernel_rfl) (by kernel_rfl) (by kernel_rfl) (fun _ _ _ h => h) (Or.inl ⟨by rfl, ?_⟩) hHeld ?_
      rotate_left
      · intro w hSw; (try dsimp only at hSw); go_simp; try (with_reducible rfl)
      try simp only [sq]
      refine wpAnyH_ready (rs := [13]) (by kernel_rfl) (by simp) ?_
      refine AllReadyH.cons rfl (fun K hK => ?_) AllReadyH.nil
      try simp only [sq]
      go_simp
      refine hK.out _ _ ?_ (fun hHeld => ?_)
      · (repeat' apply And.intro) <;> (repeat (first | with_reducible assumption | with_reducible refine keepset ?_ (by dsimp only; omega) | with_reducible refine keepdrew ?_ | with_reducible refine keepcell (by with_reducible assumption) ?_ | with_reducible refine keepalloc ?_ _))
      clear hK K
      try simp only [sq]
      refine wpAnyH_done (by kernel_rfl) ?_ _
      go_wp2_with fail
      go_roundw
      case rel =>
        obtain ⟨r1, r2⟩ := put_side (w := wr) (by rw [hl]; exact hlt) (by rw [hl]) Hp.out Ht.out x y u v Hq.out
        exact ⟨k + 1, by go_num, by omega, (((hb.setCell (Nat.le_refl _) _).setCell (Nat.le_refl _) _).setCell (Nat.le_refl _) _).setCell (Nat.le_refl _) _ |>.drew, by simp; omega, r1, r2⟩
      case measure => simp [intOf]; omega
    · obtain rfl : k = n := by omega
      have Hp := hid hp
      clear hp
      go_wp2_with fail
      go_ret
      exact ⟨w.heap.size, rfl, Nat.le_refl _, hB, by have := Hp.out; rwa [List.take_of_length_le (by rw [hl]; exact Nat.le_refl _)] at this, hb⟩
end Go.Proofs.YtmnnbifekbacnaaDoor
