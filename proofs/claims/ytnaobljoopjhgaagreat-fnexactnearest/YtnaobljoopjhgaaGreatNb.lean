/- The methods of a heap of candidates. -/
import Derived.Test.YtnaobljoopjhgaaGreatNa
import Derived.Test.YtnaobljoopjhgaaGreatRwC
import Derived.Test.YtnaobljoopjhgaaGreatRwA0
import Derived.Lib.OthersKept
namespace Go.Proofs.YtnaobljoopjhgaaGreat
open Go.RowKit
set_option linter.unusedSimpArgs false
set_option linter.unusedVariables false
theorem Tryz.infoCn : (Tryz.prog.info? 90).map (fun i => (i.zero, i.size, i.bytes)) = some (some (.agg #[.int .i64 0, .int .i64 0]), 2, 16) := by kernel_rfl
theorem fl2_set : ∀ (hs : List Cn) (i : Nat) (a b : Int), ((fl2 hs).set (i * 2) (.int .i64 a)).set (i * 2 + 1) (.int .i64 b) = fl2 (hs.set i (a, b))
  | [], i, a, b => by simp [fl2]
  | x :: r, 0, a, b => by simp [fl2]
  | x :: r, i + 1, a, b => by
    have ih := fl2_set r i a b
    have e : ∀ l : List Cn, ∀ y : Cn, fl2 (y :: l) = .int .i64 y.1 :: .int .i64 y.2 :: fl2 l := fun l y => by simp [fl2]
    rw [e, List.set_cons_succ, e, show (i + 1) * 2 = i * 2 + 1 + 1 by omega]
    rw [List.set_cons_succ, List.set_cons_succ, List.set_cons_succ, List.set_cons_succ, ih]
theorem own_set2 {w : World} {base g c n i : Nat} {t : TypeId} {hs : List Cn} (h : w.ownsRow base t 2 (.slice (some ⟨g, 0, none⟩) n c) n (fl2 hs)) (a b : Int) : ((w.setCell ⟨g, i * 2, none⟩ (.int .i64 a)).setCell ⟨g, i * 2 + 1, none⟩ (.int .i64 b)).ownsRow base t 2 (.slice (some ⟨g, 0, none⟩) n c) n (fl2 (hs.set i (a, b))) := by
  have hxl := h.1
  refine ⟨by rw [fl2_len] at *; simpa using hxl, ?_⟩
  rcases h.2 with ⟨q, _⟩ | ⟨g', c', cur, e, q1, q2, q3, q4, q5, q6⟩
  · cases q
  · cases e
    refine .inr ⟨g, c, _, rfl, q1, set_at (set_at q2), q3, q4, by simp; omega, ?_⟩
    simp only [Array.toList_setIfInBounds]
    rw [List.take_set, List.take_set, q6]
    exact fl2_set hs i a b
theorem own_cn {w : World} {B g cap n : Nat} {ps : List Cn} (h : w.ownsRow B 90 2 (.slice (some ⟨g, 0, none⟩) n cap) n (fl2 ps)) (hn : ps.length = n) : B ≤ g ∧ n ≤ cap ∧ PtsOwn w g ps := by
  subst hn
  have h' := h
  rcases h.2 with ⟨q, _⟩ | ⟨g', cap', cur, e, hb, hg, hc, _⟩
  · cases q
  · cases e
    refine ⟨hb, hc, (Array.getElem?_eq_some_iff.1 hg).1, fun k hk => ?_, fun j hj => ?_⟩
    · obtain ⟨f0, f1⟩ := fl2_at ps k hk
      have hcs := World.ownsRow.cells h' rfl
      have q0 := hcs _ _ f0
      have q1 := hcs _ _ f1
      rw [Addr.add_mid] at q0 q1
      exact ⟨q0, by rw [Nat.add_assoc]; exact q1⟩
    · simp only [Nat.zero_add]
      refine ⟨?_, World.ownsRow.frozenAt h' j⟩
      rw [World.ownsRow.cellAt h' j hj, List.getElem?_eq_getElem (by rw [fl2_len]; exact hj)]
      rfl
/-- A heap of candidates in memory: its variable at nb. -/
def NH (B nb : Nat) (hs : List Cn) (w : World) : Prop :=
  ∃ g c, w.heap[nb]? = some (.cells #[.slice (some ⟨g, 0, none⟩) hs.length c] 58 (0, 0)) ∧ w.ownsRow B 90 2 (.slice (some ⟨g, 0, none⟩) hs.length c) hs.length (fl2 hs) ∧ B ≤ nb
abbrev OK9 (nb : Nat) (w w' : World) : Prop := Lib.OthersKept 90 (some nb) w w'
theorem set_atN {w : World} {p k : Nat} {cs : Array Value} {t : TypeId} {fr : Nat × Nat} {u : Value} (h : w.heap[p]? = some (.cells cs t fr)) : (w.setCell ⟨p, k, none⟩ u).heap[p]? = some (.cells (cs.setIfInBounds k u) t fr) := set_at h
theorem keepheapN {w w' : World} (hb : Below w.heap.size w w') {b : Nat} {o : Obj} (h : w.heap[b]? = some o) : w'.heap[b]? = some o := by
  rw [hb.block b (Array.getElem?_eq_some_iff.1 h).1]; exact h
theorem ok_below {nb : Nat} {w w' : World} (H : Below w.heap.size w w') : OK9 nb w w' := fun k o h _ _ => keepheapN H h
theorem ok_row {nb g k : Nat} {w w' : World} {cur : Array Value} {fz : Nat × Nat} {v : Value} (h : OK9 nb w w') (hg : w'.heap[g]? = some (.cells cur 90 fz)) : OK9 nb w (w'.setCell ⟨g, k, none⟩ v) := by
  intro b o hb hne hk
  have h1 := h b o hb hne hk
  by_cases e : b = g
  · subst e
    rw [hg] at h1
    injection h1 with h1
    exact absurd h1.symm (hk _ _)
  · rw [Below.heap_setCell _ _ _ _ (by dsimp only; exact e)]
    exact h1
theorem NH.below {B nb : Nat} {hs : List Cn} {w w' : World} (h : NH B nb hs w) (H : Below w.heap.size w w') : NH B nb hs w' := by
  obtain ⟨g, c, h1, h2, h3⟩ := h
  refine ⟨g, c, keepheapN H h1, ⟨h2.1, ?_⟩, h3⟩
  rcases h2.2 with ⟨q, _⟩ | ⟨g', c', cur, e, q1, q2, q3⟩
  · cases q
  · cases e
    exact .inr ⟨g, c, cur, rfl, q1, keepheapN H q2, q3⟩
theorem cell1n {w : World} {p : Nat} {a : Value} {t : TypeId} (h : w.heap[p]? = some (.cells #[a] t (0, 0))) : w.cell? ⟨p, 0, none⟩ = some a ∧ w.frozen? ⟨p, 0, none⟩ = false := by
  simp [World.cell?, World.frozen?, h]
theorem len_c (a : Option Addr) (n c : Nat) (w : World) : Calls Tryz.prog 27 #[.slice a n c] w fun e w' => e = .returned (.int .i64 n) ∧ w' = w := by
  go_enter Tryz.func27, Tryz.ntmps27
  go_wp2
  go_ret
  exact ⟨rfl, rfl⟩
def ltcb (x y : Cn) : Bool := decide ((if cmi x.2 y.2 ≠ 0 then cmi x.2 y.2 else cmi x.1 y.1) < 0)
theorem ltcb_iff (x y : Cn) : ltcb x y = true ↔ ltc x y := by
  unfold ltcb ltc cmi
  rw [decide_eq_true_eq]
  by_cases h1 : x.2 < y.2
  · simp [h1]
  · by_cases h2 : y.2 < x.2
    · have : ¬ x.2 = y.2 := by omega
      simp [h1, h2, this]
    · have h3 : x.2 = y.2 := by omega
      by_cases h4 : x.1 < y.1
      · simp [h3, h4]
      · by_cases h5 : y.1 < x.1
        · simp [h3, h4, h5]
        · simp [h3, h4, h5]
theorem ltcb_no {x y : Cn} (h : ltcb x y = false) : lec y x := by
  refine lec_of (fun k => ?_)
  rw [(ltcb_iff x y).2 k] at h
  cases h
set_option maxRecDepth 100000 in
set_option maxHeartbeats 2000000 in
theorem less_c (g n c : Nat) (hs : List Cn) (i j : Nat) (w : World) (hn : n ≤ 1099511627776) (hl : hs.length = n) (hi : i < n) (hj : j < n) (h : PtsAt w g 0 hs) : Calls Tryz.prog 129 #[.slice (some ⟨g, 0, none⟩) n c, .int .i64 i, .int .i64 j] w fun e w' => e = .returned (.bool (ltcb (at_ hs i) (at_ hs j))) ∧ Below w.heap.size w w' := by
  obtain ⟨a1, a2⟩ := h i (by omega)
  obtain ⟨b1, b2⟩ := h j (by omega)
  simp only [Nat.zero_add] at a1 a2 b1 b2
  unfold ltcb at_
  generalize (hs.getD i (0, 0)).1 = x1 at *
  generalize (hs.getD i (0, 0)).2 = x2 at *
  generalize (hs.getD j (0, 0)).1 = y1 at *
  generalize (hs.getD j (0, 0)).2 = y2 at *
  clear h hl
  have HC1 := hid (fun (W : World) => compare_c x2 y2 W)
  have HC2 := hid (fun (W : World) => compare_c x1 y1 W)
  have HOR := hid (fun (W : World) (g' : Nat) (c0 : W.cell? ⟨g', 0, none⟩ = some (.int .i64 (cmi x2 y2))) (c1 : W.cell? ⟨g', 1, none⟩ = some (.int .i64 (cmi x1 y1))) => or_c g' (cmi x2 y2) (cmi x1 y1) W c0 c1)
  generalize (if cmi x2 y2 ≠ 0 then cmi x2 y2 else cmi x1 y1) = rr at *
  generalize cmi x2 y2 = p at *
  generalize cmi x1 y1 = q at *
  have ci : (i : Int) < (n : Int) := by omega
  have cj : (j : Int) < (n : Int) := by omega
  have ci0 : (0 : Int) ≤ (i : Int) := by omega
  have cj0 : (0 : Int) ≤ (j : Int) := by omega
  go_enter Tryz.func129, Tryz.ntmps129
  go_wp2_with fail
  refine wp_region_held_drew (S := (fun w' => w'.cell? ⟨g, i * 2, none⟩ = some (.int .i64 x1) ∧ w'.cell? ⟨g, i * 2 + 1, none⟩ = some (.int .i64 x2) ∧ w'.cell? ⟨g, j * 2, none⟩ = some (.int .i64 y1) ∧ w'.cell? ⟨g, j * 2 + 1, none⟩ = some (.int .i64 y2))) (by kernel_rfl) ?_ (fun hHeld => ?_)
  · (repeat' apply And.intro) <;> (repeat (first | with_reducible assumption | with_reducible refine keepdrew ?_ | with_reducible refine keepcell (by with_reducible assumption) ?_ | with_reducible refine keepalloc ?_ _))
  refine wpAnyH_take (i := 0) (v := ?_) rfl (by kernel_rfl) (by kernel_rfl) (by kernel_rfl) (fun _ _ _ h => h) (Or.inl ⟨by rfl, ?_⟩) hHeld ?_
  rotate_left
  · intro w hSw; (try dsimp only at hSw); go_simp; try (with_reducible rfl)
  try simp only [sq]
  refine wpAnyH_take (i := 1) (v := ?_) rfl (by kernel_rfl) (by kernel_rfl) (by kernel_rfl) (fun _ _ _ h => h) (Or.inl ⟨by rfl, ?_⟩) hHeld ?_
  rotate_left
  · intro w hSw; (try dsimp only at hSw); go_simp; try (with_reducible rfl)
  try simp only [sq]
  refine wpAnyH_take (i := 2) (v := ?_) rfl (by kernel_rfl) (by kernel_rfl) (by kernel_rfl) (fun _ _ _ h => h) (Or.inl ⟨by rfl, ?_⟩) hHeld ?_
  rotate_left
  · intro w hSw; (try dsimp only at hSw); go_simp; try (with_reducible rfl)
  try simp only [sq]
  refine wpAnyH_take (i := 3) (v := ?_) rfl (by kernel_rfl) (by kernel_rfl) (by kernel_rfl) (fun _ _ _ h => h) (Or.inl ⟨by rfl, ?_⟩) hHeld ?_
  rotate_left
  · intro w hSw; (try dsimp only at hSw); go_simp; try (with_reducible rfl)
  try simp only [sq]
  refine wpAnyH_take (i := 4) (v := ?_) rfl (by kernel_rfl) (by kernel_rfl) (by kernel_rfl) (fun _ _ _ h => h) (Or.inl ⟨by rfl, ?_⟩) hHeld ?_
  rotate_left
  · intro w hSw; (try dsimp only at hSw); go_simp; try (with_reducible rfl)
  try simp only [sq]
  refine wpAnyH_take (i := 5) (v := ?_) rfl (by kernel_rfl) (by kernel_rfl) (by kernel_rfl) (fun _ _ _ h => h) (Or.inl ⟨by rfl, ?_⟩) hHeld ?_
  rotate_left
  · intro w hSw; (try dsimp only at hSw); go_simp; try (with_reducible rfl)
  try simp only [sq]
  refine wpAnyH_take (i := 6) (v := ?_) rfl (by kernel_rfl) (by kernel_rfl) (by kernel_rfl) (fun _ _ _ h => h) (Or.inl ⟨by rfl, ?_⟩) hHeld ?_
  rotate_left
  · intro w hSw; (try dsimp only at hSw); go_simp; try (with_reducible rfl)
  try simp only [sq]
  refine wpAnyH_take (i := 7) (v := ?_) rfl (by kernel_rfl) (by kernel_rfl) (by kernel_rfl) (fun _ _ _ h => h) (Or.inl ⟨by rfl, ?_⟩) hHeld ?_
  rotate_left
  · intro w hSw; (try dsimp only at hSw); go_simp; try (with_reducible rfl)
  try simp only [sq]
  refine wpAnyH_take (i := 8) (v := ?_) rfl (by kernel_rfl) (by kernel_rfl) (by kernel_rfl) (fun _ _ _ h => h) (Or.inl ⟨by rfl, ?_⟩) hHeld ?_
  rotate_left
  · intro w hSw; (try dsimp only at hSw); go_simp; try (with_reducible rfl)
  try simp only [sq]
  refine wpAnyH_take (i := 9) (v := ?_) rfl (by kernel_rfl) (by kernel_rfl) (by kernel_rfl) (fun _ _ _ h => h) (Or.inl ⟨by rfl, ?_⟩) hHeld ?_
  rotate_left
  · intro w hSw; (try dsimp only at hSw); go_simp; try (with_reducible rfl)
  try simp only [sq]
  refine wpAnyH_take (i := 11) (v := ?_) rfl (by kernel_rfl) (by kernel_rfl) (by kernel_rfl) (fun _ _ _ h => h) (Or.inl ⟨by rfl, ?_⟩) hHeld ?_
  rotate_left
  · intro w hSw; (try dsimp only at hSw); go_simp; try (with_reducible rfl)
  try simp only [sq]
  refine wpAnyH_take (i := 12) (v := ?_) rfl (by kernel_rfl) (by kernel_rfl) (by kernel_rfl) (fun _ _ _ h => h) (Or.inl ⟨by rfl, ?_⟩) hHeld ?_
  rotate_left
  · intro w hSw; (try dsimp only at hSw); go_simp; try (with_reducible rfl)
  try simp only [sq]
  refine wpAnyH_take (i := 13) (v := ?_) rfl (by kernel_rfl) (by kernel_rfl) (by kernel_rfl) (fun _ _ _ h => h) (Or.inl ⟨by rfl, ?_⟩) hHeld ?_
  rotate_left
  · intro w hSw; (try dsimp only at hSw); go_simp; try (with_reducible rfl)
  try simp only [sq]
  refine wpAnyH_take (i := 14) (v := ?_) rfl (by kernel_rfl) (by kernel_rfl) (by kernel_rfl) (fun _ _ _ h => h) (Or.inl ⟨by rfl, ?_⟩) hHeld ?_
  rotate_left
  · intro w hSw; (try dsimp only at hSw); go_simp; try (with_reducible rfl)
  try simp only [sq]
  refine wpAnyH_take (i := 15) (v := ?_) rfl (by kernel_rfl) (by kernel_rfl) (by kernel_rfl) (fun _ _ _ h => h) (Or.inl ⟨by rfl, ?_⟩) hHeld ?_
  rotate_left
  · intro w hSw; (try dsimp only at hSw); go_simp; try (with_reducible rfl)
  try simp only [sq]
  refine wpAnyH_take (i := 16) (v := ?_) rfl (by kernel_rfl) (by kernel_rfl) (by kernel_rfl) (fun _ _ _ h => h) (Or.inl ⟨by rfl, ?_⟩) hHeld ?_
  rotate_left
  · intro w hSw; (try dsimp only at hSw); go_simp; try (with_reducible rfl)
  try simp only [sq]
  refine wpAnyH_take (i := 17) (v := ?_) rfl (by kernel_rfl) (by kernel_rfl) (by kernel_rfl) (fun _ _ _ h => h) (Or.inl ⟨by rfl, ?_⟩) hHeld ?_
  rotate_left
  · intro w hSw; (try dsimp only at hSw); go_simp; try (with_reducible rfl)
  try simp only [sq]
  refine wpAnyH_take (i := 18) (v := ?_) rfl (by kernel_rfl) (by kernel_rfl) (by kernel_rfl) (fun _ _ _ h => h) (Or.inl ⟨by rfl, ?_⟩) hHeld ?_
  rotate_left
  · intro w hSw; (try dsimp only at hSw); go_simp; try (with_reducible rfl)
  try simp only [sq]
  refine wpAnyH_take (i := 19) (v := ?_) rfl (by kernel_rfl) (by kernel_rfl) (by kernel_rfl) (fun _ _ _ h => h) (Or.inl ⟨by rfl, ?_⟩) hHeld ?_
  rotate_left
  · intro w hSw; (try dsimp only at hSw); go_simp; try (with_reducible rfl)
  try simp only [sq]
  refine wpAnyH_take (i := 20) (v := ?_) rfl (by kernel_rfl) (by kernel_rfl) (by kernel_rfl) (fun _ _ _ h => h) (Or.inl ⟨by rfl, ?_⟩) hHeld ?_
  rotate_left
  · intro w hSw; (try dsimp only at hSw); go_simp; try (with_reducible rfl)
  try simp only [sq]
  refine wpAnyH_ready (rs := [10]) (by kernel_rfl) (by simp) ?_
  refine AllReadyH.cons rfl (fun K hK => ?_) AllReadyH.nil
  try simp only [sq]
  go_simp
  (first
      | (go_at_call 67; refine (HC1.out _).mono ?_; rintro e u1 ⟨rfl, hu1⟩; subst hu1))
  go_wp2_with fail
  refine hK.out _ _ ?_ (fun hHeld => ?_)
  · (repeat' apply And.intro) <;> (repeat (first | with_reducible assumption | with_reducible refine keepdrew ?_ | with_reducible refine keepcell (by with_reducible assumption) ?_ | with_reducible refine keepalloc ?_ _))
  clear hK K
  try simp only [sq]
  refine wpAnyH_ready (rs := [21]) (by kernel_rfl) (by simp) ?_
  refine AllReadyH.cons rfl (fun K hK => ?_) AllReadyH.nil
  try simp only [sq]
  go_simp
  (first
      | (go_at_call 67; refine (HC2.out _).mono ?_; rintro e u2 ⟨rfl, hu2⟩; subst hu2))
  go_wp2_with fail
  refine hK.out _ _ ?_ (fun hHeld => ?_)
  · (repeat' apply And.intro) <;> (repeat (first | with_reducible assumption | with_reducible refine keepdrew ?_ | with_reducible refine keepcell (by with_reducible assumption) ?_ | with_reducible refine keepalloc ?_ _))
  clear hK K
  try simp only [sq]
  refine wpAnyH_ready (rs := [22]) (by kernel_rfl) (by simp) ?_
  refine AllReadyH.cons rfl (fun K hK => ?_) AllReadyH.nil
  try simp only [sq]
  go_simp
  refine hK.out _ _ ?_ (fun hHeld => ?_)
  · (repeat' apply And.intro) <;> (repeat (first | with_reducible assumption | with_reducible refine keepdrew ?_ | with_reducible refine keepcell (by with_reducible assumption) ?_ | with_reducible refine keepalloc ?_ _))
  clear hK K
  try simp only [sq]
  refine wpAnyH_ready (rs := [23]) (by kernel_rfl) (by simp) ?_
  refine AllReadyH.cons rfl (fun K hK => ?_) AllReadyH.nil
  try simp only [sq]
  go_simp
  (first
      | (go_at_call 66; refine (HOR.out _ _ (by show (w.alloc _).cell? _ = _; simp) (by show (w.alloc _).cell? _ = _; simp)).mono ?_; rintro e u3 ⟨rfl, hu3⟩; subst hu3))
  go_wp2_with fail
  refine hK.out _ _ ?_ (fun hHeld => ?_)
  · (repeat' apply And.intro) <;> (repeat (first | with_reducible assumption | with_reducible refine keepdrew ?_ | with_reducible refine keepcell (by with_reducible assumption) ?_ | with_reducible refine keepalloc ?_ _))
  clear hK K
  try simp only [sq]
  refine wpAnyH_take (i := 24) (v := ?_) rfl (by kernel_rfl) (by kernel_rfl) (by kernel_rfl) (fun _ _ _ h => h) (Or.inl ⟨by rfl, ?_⟩) hHeld ?_
  rotate_left
  · intro w hSw; (try dsimp only at hSw); go_simp; try (with_reducible rfl)
  try simp only [sq]
  refine wpAnyH_take (i := 25) (v := ?_) rfl (by kernel_rfl) (by kernel_rfl) (by kernel_rfl) (fun _ _ _ h => h) (Or.inl ⟨by rfl, ?_⟩) hHeld ?_
  rotate_left
  · intro w hSw; (try dsimp only at hSw); go_simp; try (with_reducible rfl)
  try simp only [sq]
  refine wpAnyH_done (by kernel_rfl) ?_ _
  go_wp2_with fail
  go_ret
  exact ⟨rfl, by (repeat (first | with_reducible exact Below.refl _ _ | with_reducible assumption | (with_reducible refine btrans ?_ (by with_reducible assumption)) | with_reducible refine bdrew ?_ | with_reducible refine balloc ?_ _))⟩
theorem own_frz {w : World} {base g c n : Nat} {t : TypeId} {xs : List Value} (h : w.ownsRow base t 2 (.slice (some ⟨g, 0, none⟩) n c) n xs) : ∀ k, k < c * 2 → (w.cell? ⟨g, k, none⟩).isSome = true ∧ w.frozen? ⟨g, k, none⟩ = false := by
  rcases h.2 with ⟨q, _⟩ | ⟨g', c', cur, e, q1, q2, q3, q4, q5, q6⟩
  · cases q
  · cases e
    intro k hk
    refine ⟨?_, by simp [World.frozen?, q2]⟩
    simp [World.cell?, q2, Array.getElem?_eq_getElem (show k < cur.size by omega)]
theorem own_kind {w : World} {base g c n : Nat} {t : TypeId} {sz : Nat} {xs : List Value} (h : w.ownsRow base t sz (.slice (some ⟨g, 0, none⟩) n c) n xs) : ∃ cur fz, w.heap[g]? = some (.cells cur t fz) := by
  rcases h.2 with ⟨q, _⟩ | ⟨g', c', cur, e, q1, q2, _⟩
  · cases q
  · cases e; exact ⟨cur, _, q2⟩
/-- The cells that Swap writes. -/
def sw4 (w : World) (g i j : Nat) (x y : Cn) : World := (((w.setCell ⟨g, i * 2, none⟩ (.int .i64 y.1)).setCell ⟨g, i * 2 + 1, none⟩ (.int .i64 y.2)).setCell ⟨g, j * 2, none⟩ (.int .i64 x.1)).setCell ⟨g, j * 2 + 1, none⟩ (.int .i64 x.2)
set_option maxRecDepth 100000 in
set_option maxHeartbeats 2000000 in
theorem swap_0 (B g n c : Nat) (hs : List Cn) (i j : Nat) (w : World) (hn : n ≤ 1099511627776) (hl : hs.length = n) (hi : i < n) (hj : j < n) (h : w.ownsRow B 90 2 (.slice (some ⟨g, 0, none⟩) n c) n (fl2 hs)) : Calls Tryz.prog 130 #[.slice (some ⟨g, 0, none⟩) n c, .int .i64 i, .int .i64 j] w fun e w' => e = .returned (.tuple #[]) ∧ ∃ k, w' = sw4 (w.drewN k) g i j (at_ hs i) (at_ hs j) := by
  obtain ⟨hBg, hnc, hown⟩ := own_cn h hl
  obtain ⟨a1, a2⟩ := hown.2.1 i (by omega)
  obtain ⟨b1, b2⟩ := hown.2.1 j (by omega)
  simp only [Nat.zero_add] at a1 a2 b1 b2
  have f1 := (own_frz h (i * 2) (by omega)).2
  have f2 := (own_frz h (i * 2 + 1) (by omega)).2
  have f3 := (own_frz h (j * 2) (by omega)).2
  have f4 := (own_frz h (j * 2 + 1) (by omega)).2
  unfold sw4 at_
  generalize (hs.getD i (0, 0)).1 = x1 at *
  generalize (hs.getD i (0, 0)).2 = x2 at *
  generalize (hs.getD j (0, 0)).1 = y1 at *
  generalize (hs.getD j (0, 0)).2 = y2 at *
  have HFIN : Hid (∃ k, (((w.drew.setCell ⟨g, i * 2, none⟩ (.int .i64 y1)).setCell ⟨g, i * 2 + 1, none⟩ (.int .i64 y2)).setCell ⟨g, j * 2, none⟩ (.int .i64 x1)).setCell ⟨g, j * 2 + 1, none⟩ (.int .i64 x2) = ((((w.drewN k).setCell ⟨g, i * 2, none⟩ (.int .i64 y1)).setCell ⟨g, i * 2 + 1, none⟩ (.int .i64 y2)).setCell ⟨g, j * 2, none⟩ (.int .i64 x1)).setCell ⟨g, j * 2 + 1, none⟩ (.int .i64 x2)) := hid ⟨1, rfl⟩
  clear h hown hl
  have ci : (i : Int) < (n : Int) := by omega
  have cj : (j : Int) < (n : Int) := by omega
  have ci0 : (0 : Int) ≤ (i : Int) := by omega
  have cj0 : (0 : Int) ≤ (j : Int) := by omega
  go_enter Tryz.func130, Tryz.ntmps130
  go_wp2_with fail
  refine wp_region_held_drew (S := (fun _ => True)) (by kernel_rfl) ?_ (fun hHeld => ?_)
  · trivial
  refine wpAnyH_take (i := 0) (v := ?_) rfl (by kernel_rfl) (by kernel_rfl) (by kernel_rfl) (fun _ _ _ h => h) (Or.inl ⟨by rfl, ?_⟩) hHeld ?_
  rotate_left
  · intro w hSw; (try dsimp only at hSw); go_simp; try (with_reducible rfl)
  try simp only [sq]
  refine wpAnyH_take (i := 1) (v := ?_) rfl (by kernel_rfl) (by kernel_rfl) (by kernel_rfl) (fun _ _ _ h => h) (Or.inl ⟨by rfl, ?_⟩) hHeld ?_
  rotate_left
  · intro w hSw; (try dsimp only at hSw); go_simp; try (with_reducible rfl)
  try simp only [sq]
  refine wpAnyH_take (i := 2) (v := ?_) rfl (by kernel_rfl) (by kernel_rfl) (by kernel_rfl) (fun _ _ _ h => h) (Or.inl ⟨by rfl, ?_⟩) hHeld ?_
  rotate_left
  · intro w hSw; (try dsimp only at hSw); go_simp; try (with_reducible rfl)
  try simp only [sq]
  refine wpAnyH_take (i := 3) (v := ?_) rfl (by kernel_rfl) (by kernel_rfl) (by kernel_rfl) (fun _ _ _ h => h) (Or.inl ⟨by rfl, ?_⟩) hHeld ?_
  rotate_left
  · intro w hSw; (try dsimp only at hSw); go_simp; try (with_reducible rfl)
  try simp only [sq]
  refine wpAnyH_take (i := 4) (v := ?_) rfl (by kernel_rfl) (by kernel_rfl) (by kernel_rfl) (fun _ _ _ h => h) (Or.inl ⟨by rfl, ?_⟩) hHeld ?_
  rotate_left
  · intro w hSw; (try dsimp only at hSw); go_simp; try (with_reducible rfl)
  try simp only [sq]
  refine wpAnyH_take (i := 5) (v := ?_) rfl (by kernel_rfl) (by kernel_rfl) (by kernel_rfl) (fun _ _ _ h => h) (Or.inl ⟨by rfl, ?_⟩) hHeld ?_
  rotate_left
  · intro w hSw; (try dsimp only at hSw); go_simp; try (with_reducible rfl)
  try simp only [sq]
  refine wpAnyH_take (i := 6) (v := ?_) rfl (by kernel_rfl) (by kernel_rfl) (by kernel_rfl) (fun _ _ _ h => h) (Or.inl ⟨by rfl, ?_⟩) hHeld ?_
  rotate_left
  · intro w hSw; (try dsimp only at hSw); go_simp; try (with_reducible rfl)
  try simp only [sq]
  refine wpAnyH_take (i := 8) (v := ?_) rfl (by kernel_rfl) (by kernel_rfl) (by kernel_rfl) (fun _ _ _ h => h) (Or.inl ⟨by rfl, ?_⟩) hHeld ?_
  rotate_left
  · intro w hSw; (try dsimp only at hSw); go_simp; try (with_reducible rfl)
  try simp only [sq]
  refine wpAnyH_take (i := 9) (v := ?_) rfl (by kernel_rfl) (by kernel_rfl) (by kernel_rfl) (fun _ _ _ h => h) (Or.inl ⟨by rfl, ?_⟩) hHeld ?_
  rotate_left
  · intro w hSw; (try dsimp only at hSw); go_simp; try (with_reducible rfl)
  try simp only [sq]
  refine wpAnyH_take (i := 10) (v := ?_) rfl (by kernel_rfl) (by kernel_rfl) (by kernel_rfl) (fun _ _ _ h => h) (Or.inl ⟨by rfl, ?_⟩) hHeld ?_
  rotate_left
  · intro w hSw; (try dsimp only at hSw); go_simp; try (with_reducible rfl)
  try simp only [sq]
  refine wpAnyH_ready (rs := [7, 11]) (by kernel_rfl) (by simp) ?_
  refine (AllReadyH.cons rfl (fun K hK => ?_) (AllReadyH.cons rfl (fun K hK => ?_) AllReadyH.nil))
  · skip
    try simp only [sq]
    go_simp
    refine hK.out _ _ trivial (fun hHeld => ?_)
    clear hK K
    try simp only [sq]
    refine wpAnyH_ready (rs := [11]) (by kernel_rfl) (by simp) ?_
    refine (AllReadyH.cons rfl (fun K hK => ?_) AllReadyH.nil)
    try simp only [sq]
    go_simp
    refine hK.out _ _ trivial (fun hHeld => ?_)
    clear hK K
    try simp only [sq]
    refine wpAnyH_take (i := 12) (v := ?_) rfl (by kernel_rfl) (by kernel_rfl) (by kernel_rfl) (fun _ _ _ h => h) (Or.inl ⟨by rfl, ?_⟩) hHeld ?_
    rotate_left
    · intro w hSw; (try dsimp only at hSw); go_simp; try (with_reducible rfl)
    try simp only [sq]
    refine wpAnyH_ready (rs := [13]) (by kernel_rfl) (by simp) ?_
    refine (AllReadyH.cons rfl (fun K hK => ?_) AllReadyH.nil)
    try simp only [sq]
    go_simp
    refine hK.out _ _ trivial (fun hHeld => ?_)
    clear hK K
    try simp only [sq]
    refine wpAnyH_take (i := 14) (v := ?_) rfl (by kernel_rfl) (by kernel_rfl) (by kernel_rfl) (fun _ _ _ h => h) (Or.inl ⟨by rfl, ?_⟩) hHeld ?_
    rotate_left
    · intro w hSw; (try dsimp only at hSw); go_simp; try (with_reducible rfl)
    try simp only [sq]
    refine wpAnyH_ready (rs := [15]) (by kernel_rfl) (by simp) ?_
    refine (AllReadyH.cons rfl (fun K hK => ?_) AllReadyH.nil)
    obtain ⟨p1, r1⟩ := cell?_setCell_some (p := ⟨g, i * 2, none⟩) (x := .int .i64 y1) b1
    obtain ⟨p2, r2⟩ := cell?_setCell_some (p := ⟨g, i * 2 + 1, none⟩) (x := .int .i64 y2) b2
    obtain ⟨p3, r3⟩ := cell?_setCell_some (p := ⟨g, i * 2, none⟩) (x := .int .i64 y1) b2
    obtain ⟨p4, r4⟩ := cell?_setCell_some (p := ⟨g, i * 2 + 1, none⟩) (x := .int .i64 y2) r3
    obtain ⟨p5, r5⟩ := cell?_setCell_some (p := ⟨g, j * 2, none⟩) (x := .int .i64 x1) r4
    obtain ⟨p6, r6⟩ := cell?_setCell_some (p := ⟨g, i * 2 + 1, none⟩) (x := .int .i64 y2) r1
    try simp only [sq]
    go_simp
    refine hK.out _ _ trivial (fun hHeld => ?_)
    clear hK K
    try simp only [sq]
    refine wpAnyH_done (by kernel_rfl) ?_ _
    go_wp2_with fail
    go_end0
    first | exact ⟨rfl, HFIN.out⟩ | exact ⟨rfl, 1, rfl⟩
  · skip
    try simp only [sq]
    go_simp
    refine hK.out _ _ trivial (fun hHeld => ?_)
    clear hK K
    try simp only [sq]
    refine wpAnyH_ready (rs := [7]) (by kernel_rfl) (by simp) ?_
    refine (AllReadyH.cons rfl (fun K hK => ?_) AllReadyH.nil)
    try simp only [sq]
    go_simp
    refine hK.out _ _ trivial (fun hHeld => ?_)
    clear hK K
    try simp only [sq]
    refine wpAnyH_take (i := 12) (v := ?_) rfl (by kernel_rfl) (by kernel_rfl) (by kernel_rfl) (fun _ _ _ h => h) (Or.inl ⟨by rfl, ?_⟩) hHeld ?_
    rotate_left
    · intro w hSw; (try dsimp only at hSw); go_simp; try (with_reducible rfl)
    try simp only [sq]
    refine wpAnyH_ready (rs := [13]) (by kernel_rfl) (by simp) ?_
    refine (AllReadyH.cons rfl (fun K hK => ?_) AllReadyH.nil)
    try simp only [sq]
    go_simp
    refine hK.out _ _ trivial (fun hHeld => ?_)
    clear hK K
    try simp only [sq]
    refine wpAnyH_take (i := 14) (v := ?_) rfl (by kernel_rfl) (by kernel_rfl) (by kernel_rfl) (fun _ _ _ h => h) (Or.inl ⟨by rfl, ?_⟩) hHeld ?_
    rotate_left
    · intro w hSw; (try dsimp only at hSw); go_simp; try (with_reducible rfl)
    try simp only [sq]
    refine wpAnyH_ready (rs := [15]) (by kernel_rfl) (by simp) ?_
    refine (AllReadyH.cons rfl (fun K hK => ?_) AllReadyH.nil)
    obtain ⟨p1, r1⟩ := cell?_setCell_some (p := ⟨g, i * 2, none⟩) (x := .int .i64 y1) b1
    obtain ⟨p2, r2⟩ := cell?_setCell_some (p := ⟨g, i * 2 + 1, none⟩) (x := .int .i64 y2) b2
    obtain ⟨p3, r3⟩ := cell?_setCell_some (p := ⟨g, i * 2, none⟩) (x := .int .i64 y1) b2
    obtain ⟨p4, r4⟩ := cell?_setCell_some (p := ⟨g, i * 2 + 1, none⟩) (x := .int .i64 y2) r3
    obtain ⟨p5, r5⟩ := cell?_setCell_some (p := ⟨g, j * 2, none⟩) (x := .int .i64 x1) r4
    obtain ⟨p6, r6⟩ := cell?_setCell_some (p := ⟨g, i * 2 + 1, none⟩) (x := .int .i64 y2) r1
    try simp only [sq]
    go_simp
    refine hK.out _ _ trivial (fun hHeld => ?_)
    clear hK K
    try simp only [sq]
    refine wpAnyH_done (by kernel_rfl) ?_ _
    go_wp2_with fail
    go_end0
    first | exact ⟨rfl, HFIN.out⟩ | exact ⟨rfl, 1, rfl⟩
theorem swap_c (B nb g c : Nat) (hs : List Cn) (i j : Nat) (w : World) (hn : hs.length ≤ 1099511627776) (hi : i < hs.length) (hj : j < hs.length) (hB : B ≤ nb) (hb : w.heap[nb]? = some (.cells #[.slice (some ⟨g, 0, none⟩) hs.length c] 58 (0, 0))) (h : w.ownsRow B 90 2 (.slice (some ⟨g, 0, none⟩) hs.length c) hs.length (fl2 hs)) : Calls Tryz.prog 130 #[.slice (some ⟨g, 0, none⟩) hs.length c, .int .i64 i, .int .i64 j] w fun e w' => e = .returned (.tuple #[]) ∧ NH B nb (swp hs i j) w' ∧ Below B w w' ∧ OK9 nb w w' := by
  refine (swap_0 B g hs.length c hs i j w hn rfl hi hj h).mono ?_
  rintro e w' ⟨rfl, k, rfl⟩
  have hd : (w.drewN k).ownsRow B 90 2 (.slice (some ⟨g, 0, none⟩) hs.length c) hs.length (fl2 hs) := h
  have h1 := own_set2 (i := i) hd (at_ hs j).1 (at_ hs j).2
  have h2 := own_set2 (i := j) h1 (at_ hs i).1 (at_ hs i).2
  obtain ⟨hBg, _, hown⟩ := own_cn h rfl
  obtain ⟨cur, fz, hk⟩ := own_kind h
  have hgn : nb ≠ g := by
    intro e
    subst e
    rw [hb] at hk
    injection hk with hk
    injection hk with _ hk _
    exact absurd hk (by decide)
  refine ⟨rfl, ⟨g, c, ?_, ?_, hB⟩, ?_, ?_⟩
  · rw [swp_len]
    unfold sw4
    rw [Below.heap_setCell _ _ _ _ (by dsimp only; exact hgn), Below.heap_setCell _ _ _ _ (by dsimp only; exact hgn), Below.heap_setCell _ _ _ _ (by dsimp only; exact hgn), Below.heap_setCell _ _ _ _ (by dsimp only; exact hgn)]
    exact hb
  · rw [swp_len]
    exact h2
  · unfold sw4
    have hd0 : Below B w (w.drewN k) := ⟨rfl, rfl, rfl, Nat.le_refl _, fun _ _ => rfl⟩
    exact (((hd0.setCell (p := ⟨g, i * 2, none⟩) hBg _).setCell (p := ⟨g, i * 2 + 1, none⟩) hBg _).setCell (p := ⟨g, j * 2, none⟩) hBg _).setCell (p := ⟨g, j * 2 + 1, none⟩) hBg _
  · unfold sw4
    have hk0 : (w.drewN k).heap[g]? = some (.cells cur 90 fz) := hk
    have o0 : OK9 nb w (w.drewN k) := fun b o h _ _ => h
    have s1 : ∀ {W : World} {cu : Array Value} {q : Nat} {v : Value}, W.heap[g]? = some (.cells cu 90 fz) → (W.setCell ⟨g, q, none⟩ v).heap[g]? = some (.cells (cu.setIfInBounds q v) 90 fz) := fun h => set_atN h
    exact ok_row (ok_row (ok_row (ok_row o0 hk0) (s1 hk0)) (s1 (s1 hk0))) (s1 (s1 (s1 hk0)))
end Go.Proofs.YtnaobljoopjhgaaGreat
