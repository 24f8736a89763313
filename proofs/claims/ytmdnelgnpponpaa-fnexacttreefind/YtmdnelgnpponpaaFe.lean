/- Whether two lists of items, two knots are the same. -/
import Derived.Test.YtmdnelgnpponpaaFd
namespace Go.Proofs.Ytmdnelgnpponpaa
open Go.RowKit
set_option linter.unusedSimpArgs false
set_option linter.unusedVariables false
set_option maxRecDepth 100000 in
set_option maxHeartbeats 1000000 in
theorem eq_box_same (a b c d : Int) (w : World) : Calls Try.prog 37 #[.agg #[.int .i64 a, .int .i64 b, .int .i64 c, .int .i64 d], .agg #[.int .i64 a, .int .i64 b, .int .i64 c, .int .i64 d]] w fun e w' => e = .returned (.bool true) ∧ Below w.heap.size w w' := by
  go_enter Try.func37, Try.ntmps37
  go_wp2_with fail
  go_ret
  exact ⟨rfl, by (repeat (first | with_reducible exact Below.refl _ _ | with_reducible assumption | (with_reducible refine btrans ?_ (by with_reducible assumption)) | with_reducible refine bdrew ?_ | with_reducible refine balloc ?_ _))⟩
set_option maxRecDepth 100000 in
set_option maxHeartbeats 1000000 in
theorem eq_item_same (i a b c d : Int) (w : World) : Calls Try.prog 41 #[.agg #[.int .i64 i, .int .i64 a, .int .i64 b, .int .i64 c, .int .i64 d], .agg #[.int .i64 i, .int .i64 a, .int .i64 b, .int .i64 c, .int .i64 d]] w fun e w' => e = .returned (.bool true) ∧ Below w.heap.size w w' := by
  go_enter Try.func41, Try.ntmps41
  go_wp2_with fail
  refine (eq_box_same _ _ _ _ _).mono ?_
  rintro e w1 ⟨rfl, hb1⟩
  go_wp2_with fail
  go_ret
  exact ⟨rfl, by (repeat (first | with_reducible exact Below.refl _ _ | with_reducible assumption | (with_reducible refine btrans ?_ (by with_reducible assumption)) | with_reducible refine bdrew ?_ | with_reducible refine balloc ?_ _))⟩
/-- Items that lie in a block from its first cell on. -/
def ItR (w : World) (b : Nat) (l : List It) : Prop := b < w.heap.size ∧ ∀ j (h : j < l.length), Cs w b (j * 5) (ci l[j])
theorem ItR.below {w w' : World} {b : Nat} {l : List It} (h : ItR w b l) (H : Below w.heap.size w w') : ItR w' b l := ⟨Nat.lt_of_lt_of_le h.1 H.size, fun j hj => (h.2 j hj).below h.1 H⟩
theorem ItO.r {w : World} {b : Nat} {l : List It} (h : ItO w b l) : ItR w b l := ⟨h.1, h.2.1⟩
set_option maxRecDepth 100000 in
set_option maxHeartbeats 2000000 in
theorem eq_items (p q c c' : Nat) (l : List It) (w : World) (hm : l.length ≤ 1099511627776) (h : ItR w p l) (h' : ItR w q l) : Calls Try.prog 15 #[.slice (some ⟨p, 0, none⟩) l.length c, .slice (some ⟨q, 0, none⟩) l.length c'] w fun e w' => e = .returned (.bool true) ∧ Below w.heap.size w w' := by
  have HP := hid h
  have HQ := hid h'
  clear h h'
  go_enter Try.func15, Try.ntmps15
  go_wp2_with fail
  go_loopw [5] (fun ti wr => ∃ k : Nat, ti = .int .i64 k ∧ k ≤ l.length ∧ Below w.heap.size w wr) (fun ti _ => l.length - (intOf ti).toNat)
  case atStart => exact ⟨0, rfl, Nat.zero_le _, Below.refl _ _⟩
  case round =>
    obtain ⟨k, rfl, hk, hb⟩ := hrel
    by_cases hlt : k < l.length
    · obtain ⟨c0, c1, c2, c3, c4⟩ := ((HP.out.below hb).2 k hlt).item
      obtain ⟨d0, d1, d2, d3, d4⟩ := ((HQ.out.below hb).2 k hlt).item
      generalize l[k].1 = x at *
      generalize l[k].2.1 = y at *
      generalize l[k].2.2.1 = u at *
      generalize l[k].2.2.2.1 = v at *
      generalize l[k].2.2.2.2 = z at *
      have hk0 : (0 : Int) ≤ (k : Int) := by omega
      have hk1 : (k : Int) < (l.length : Int) := by omega
      go_upto_region 6 with fail
      refine wp_region_held_drew (S := (fun w' => w'.cell? ⟨p, k * 5, none⟩ = some (.int .i64 x) ∧ w'.cell? ⟨p, k * 5 + 1, none⟩ = some (.int .i64 y) ∧ w'.cell? ⟨p, k * 5 + 2, none⟩ = some (.int .i64 u) ∧ w'.cell? ⟨p, k * 5 + 3, none⟩ = some (.int .i64 v) ∧ w'.cell? ⟨p, k * 5 + 4, none⟩ = some (.int .i64 z) ∧ w'.cell? ⟨q, k * 5, none⟩ = some (.int .i64 x) ∧ w'.cell? ⟨q, k * 5 + 1, none⟩ = some (.int .i64 y) ∧ w'.cell? ⟨q, k * 5 + 2, none⟩ = some (.int .i64 u) ∧ w'.cell? ⟨q, k * 5 + 3, none⟩ = some (.int .i64 v) ∧ w'.cell? ⟨q, k * 5 + 4, none⟩ = some (.int .i64 z))) (by kernel_rfl) ?_ (fun hHeld => ?_)
      · (repeat' apply And.intro) <;> (repeat (first | with_reducible assumption | refine keepcell (by with_reducible assumption) ?_ | refine keepdrew ?_ | refine keepalloc ?_ _))
      refine wpAnyH_take (i := 0) (v := ?_) rfl (by kernel_rfl) (by kernel_rfl) (by kernel_rfl) (fun _ _ _ h => h) (Or.inl ⟨by rfl, ?_⟩) hHeld ?_
      rotate_left
      · intro w hSw; (try dsimp only at hSw); go_simp; try (with_reducible rfl)
      try simp only [sq]
      refine wpAnyH_take (i := 1) (v := ?_) rfl (by kernel_rfl) (by kernel_rfl) (by kernel_rfl) (fun _ _ _ h => h) (Or.inl ⟨by rfl, ?_⟩) hHeld ?_
      rotate_left
      · intro w hSw; (try dsimp only at hSw); go_simp; try (with_reducible rfl)
      try simp only [sq]
      refine wpAnyH_take (i := 2) (v := ?_) rfl (by kernel_rfl) (by kernel_rfl) (by kernel_rfl) (fun _ _ _ h => h) (Or.inl ⟨by rfl, ?_⟩) hHeld ?_
      rotate_left
      · intro w hSw; (try dsimp only at hSw); go_simp; try (with_reducible rfl)
      try simp only [sq]
      refine wpAnyH_take (i := 3) (v := ?_) rfl (by kernel_rfl) (by kernel_rfl) (by kernel_rfl) (fun _ _ _ h => h) (Or.inl ⟨by rfl, ?_⟩) hHeld ?_
      rotate_left
      · intro w hSw; (try dsimp only at hSw); go_simp; try (with_reducible rfl)
      try simp only [sq]
      refine wpAnyH_take (i := 4) (v := ?_) rfl (by kernel_rfl) (by kernel_rfl) (by kernel_rfl) (fun _ _ _ h => h) (Or.inl ⟨by rfl, ?_⟩) hHeld ?_
      rotate_left
      · intro w hSw; (try dsimp only at hSw); go_simp; try (with_reducible rfl)
      try simp only [sq]
      refine wpAnyH_take (i := 5) (v := ?_) rfl (by kernel_rfl) (by kernel_rfl) (by kernel_rfl) (fun _ _ _ h => h) (Or.inl ⟨by rfl, ?_⟩) hHeld ?_
      rotate_left
      · intro w hSw; (try dsimp only at hSw); go_simp; try (with_reducible rfl)
      try simp only [sq]
      refine wpAnyH_take (i := 6) (v := ?_) rfl (by kernel_rfl) (by kernel_rfl) (by kernel_rfl) (fun _ _ _ h => h) (Or.inl ⟨by rfl, ?_⟩) hHeld ?_
      rotate_left
      · intro w hSw; (try dsimp only at hSw); go_simp; try (with_reducible rfl)
      try simp only [sq]
      refine wpAnyH_take (i := 7) (v := ?_) rfl (by kernel_rfl) (by kernel_rfl) (by kernel_rfl) (fun _ _ _ h => h) (Or.inl ⟨by rfl, ?_⟩) hHeld ?_
      rotate_left
      · intro w hSw; (try dsimp only at hSw); go_simp; try (with_reducible rfl)
      try simp only [sq]
      refine wpAnyH_ready (rs := [8]) (by kernel_rfl) (by simp) ?_
      refine AllReadyH.cons rfl (fun K hK => ?_) AllReadyH.nil
      try simp only [sq]
      go_simp
      (first
          | (go_at_call 41; refine (eq_item_same _ _ _ _ _ _).mono ?_; rintro e w1 ⟨rfl, hb1⟩))
      go_wp2_with fail
      refine hK.out _ _ ?_ (fun hHeld => ?_)
      · (repeat' apply And.intro) <;> (repeat (first | with_reducible assumption | refine keepcell (by with_reducible assumption) ?_ | refine keepdrew ?_ | refine keepalloc ?_ _))
      clear hK K
      try simp only [sq]
      refine wpAnyH_take (i := 9) (v := ?_) rfl (by kernel_rfl) (by kernel_rfl) (by kernel_rfl) (fun _ _ _ h => h) (Or.inl ⟨by rfl, ?_⟩) hHeld ?_
      rotate_left
      · intro w hSw; (try dsimp only at hSw); go_simp; try (with_reducible rfl)
      try simp only [sq]
      refine wpAnyH_done (by kernel_rfl) ?_ _
      go_wp2_with fail
      go_roundw
      case rel => exact ⟨k + 1, by go_num, by omega, by (repeat (first | with_reducible exact Below.refl _ _ | with_reducible assumption | (with_reducible refine btrans ?_ (by with_reducible assumption)) | with_reducible refine bdrew ?_ | with_reducible refine balloc ?_ _))⟩
      case measure => simp [intOf]; omega
    · have hk' : k = l.length := by omega
      go_wp2_with fail
      go_ret
      exact ⟨rfl, hb⟩
set_option maxRecDepth 100000 in
set_option maxHeartbeats 4000000 in
theorem eq_knots (n lo lo' : Nat) (IH : ∀ (t : KT) (ia ka ia' ka' : Option Addr) (w : World), ksz n t ≤ 1048576 → Kn lo n w ia ka t → Kn lo' n w ia' ka' t → Calls Try.prog 12 #[kvo t ia ka, kvo t ia' ka'] w fun e w' => e = .returned (.bool true) ∧ Below w.heap.size w w')
    (p q c c' : Nat) (l : List KT) (w : World) (hm : l.length ≤ 1048576) (hz : ∀ t ∈ l, ksz n t ≤ 1048576) (hp : p < w.heap.size) (hq : q < w.heap.size) (h : KdO lo n w p l) (h' : KdO lo' n w q l) : Calls Try.prog 38 #[.slice (some ⟨p, 0, none⟩) l.length c, .slice (some ⟨q, 0, none⟩) l.length c'] w fun e w' => e = .returned (.bool true) ∧ Below w.heap.size w w' := by
  have HP := hid h
  have HQ := hid h'
  have hIH := hid IH
  clear h h' IH
  go_enter Try.func38, Try.ntmps38
  go_wp2_with fail
  go_loopw [5] (fun ti wr => ∃ k : Nat, ti = .int .i64 k ∧ k ≤ l.length ∧ Below w.heap.size w wr) (fun ti _ => l.length - (intOf ti).toNat)
  case atStart => exact ⟨0, rfl, Nat.zero_le _, Below.refl _ _⟩
  case round =>
    obtain ⟨k, rfl, hk, hb⟩ := hrel
    by_cases hlt : k < l.length
    · obtain ⟨ia1, ka1, r1, r2⟩ := HP.out k hlt
      obtain ⟨ia2, ka2, s1, s2⟩ := HQ.out k hlt
      have C := hid (fun (W : World) (hB : Below w.heap.size w W) => hIH.out l[k] ia1 ka1 ia2 ka2 W (hz _ (List.getElem_mem hlt)) (r2.below hB) (s2.below hB))
      unfold kvo kv at C
      obtain ⟨c0, c1, c2, c3, c4, c5, c6⟩ := (r1.below hp hb).knot
      obtain ⟨d0, d1, d2, d3, d4, d5, d6⟩ := (s1.below hq hb).knot
      clear r1 r2 s1 s2
      generalize l[k].box.1 = b0 at *
      generalize l[k].box.2.1 = b1 at *
      generalize l[k].box.2.2.1 = b2 at *
      generalize l[k].box.2.2.2 = b3 at *
      generalize l[k].lf = b4 at *
      generalize l[k].its.length = b5 at *
      generalize l[k].kids.length = b6 at *
      have hk0 : (0 : Int) ≤ (k : Int) := by omega
      have hk1 : (k : Int) < (l.length : Int) := by omega
      go_upto_region 6 with fail
      refine wp_region_held_drew (S := (fun w' => w'.cell? ⟨p, k * 7, none⟩ = some (.int .i64 b0) ∧ w'.cell? ⟨p, k * 7 + 1, none⟩ = some (.int .i64 b1) ∧ w'.cell? ⟨p, k * 7 + 2, none⟩ = some (.int .i64 b2) ∧ w'.cell? ⟨p, k * 7 + 3, none⟩ = some (.int .i64 b3) ∧ w'.cell? ⟨p, k * 7 + 4, none⟩ = some (.bool b4) ∧ w'.cell? ⟨p, k * 7 + 5, none⟩ = some (.slice ia1 b5 b5) ∧ w'.cell? ⟨p, k * 7 + 6, none⟩ = some (.slice ka1 b6 b6) ∧ w'.cell? ⟨q, k * 7, none⟩ = some (.int .i64 b0) ∧ w'.cell? ⟨q, k * 7 + 1, none⟩ = some (.int .i64 b1) ∧ w'.cell? ⟨q, k * 7 + 2, none⟩ = some (.int .i64 b2) ∧ w'.cell? ⟨q, k * 7 + 3, none⟩ = some (.int .i64 b3) ∧ w'.cell? ⟨q, k * 7 + 4, none⟩ = some (.bool b4) ∧ w'.cell? ⟨q, k * 7 + 5, none⟩ = some (.slice ia2 b5 b5) ∧ w'.cell? ⟨q, k * 7 + 6, none⟩ = some (.slice ka2 b6 b6))) (by kernel_rfl) ?_ (fun hHeld => ?_)
      · (repeat' apply And.intro) <;> (repeat (first | with_reducible assumption | refine keepcell (by with_reducible assumption) ?_ | refine keepdrew ?_ | refine keepalloc ?_ _))
      refine wpAnyH_take (i := 0) (v := ?_) rfl (by kernel_rfl) (by kernel_rfl) (by kernel_rfl) (fun _ _ _ h => h) (Or.inl ⟨by rfl, ?_⟩) hHeld ?_
      rotate_left
      · intro w hSw; (try dsimp only at hSw); go_simp; try (with_reducible rfl)
      try simp only [sq]
      refine wpAnyH_take (i := 1) (v := ?_) rfl (by kernel_rfl) (by kernel_rfl) (by kernel_rfl) (fun _ _ _ h => h) (Or.inl ⟨by rfl, ?_⟩) hHeld ?_
      rotate_left
      · intro w hSw; (try dsimp only at hSw); go_simp; try (with_reducible rfl)
      try simp only [sq]
      refine wpAnyH_take (i := 2) (v := ?_) rfl (by kernel_rfl) (by kernel_rfl) (by kernel_rfl) (fun _ _ _ h => h) (Or.inl ⟨by rfl, ?_⟩) hHeld ?_
      rotate_left
      · intro w hSw; (try dsimp only at hSw); go_simp; try (with_reducible rfl)
      try simp only [sq]
      refine wpAnyH_take (i := 3) (v := ?_) rfl (by kernel_rfl) (by kernel_rfl) (by kernel_rfl) (fun _ _ _ h => h) (Or.inl ⟨by rfl, ?_⟩) hHeld ?_
      rotate_left
      · intro w hSw; (try dsimp only at hSw); go_simp; try (with_reducible rfl)
      try simp only [sq]
      refine wpAnyH_take (i := 4) (v := ?_) rfl (by kernel_rfl) (by kernel_rfl) (by kernel_rfl) (fun _ _ _ h => h) (Or.inl ⟨by rfl, ?_⟩) hHeld ?_
      rotate_left
      · intro w hSw; (try dsimp only at hSw); go_simp; try (with_reducible rfl)
      try simp only [sq]
      refine wpAnyH_take (i := 5) (v := ?_) rfl (by kernel_rfl) (by kernel_rfl) (by kernel_rfl) (fun _ _ _ h => h) (Or.inl ⟨by rfl, ?_⟩) hHeld ?_
      rotate_left
      · intro w hSw; (try dsimp only at hSw); go_simp; try (with_reducible rfl)
      try simp only [sq]
      refine wpAnyH_take (i := 6) (v := ?_) rfl (by kernel_rfl) (by kernel_rfl) (by kernel_rfl) (fun _ _ _ h => h) (Or.inl ⟨by rfl, ?_⟩) hHeld ?_
      rotate_left
      · intro w hSw; (try dsimp only at hSw); go_simp; try (with_reducible rfl)
      try simp only [sq]
      refine wpAnyH_take (i := 7) (v := ?_) rfl (by kernel_rfl) (by kernel_rfl) (by kernel_rfl) (fun _ _ _ h => h) (Or.inl ⟨by rfl, ?_⟩) hHeld ?_
      rotate_left
      · intro w hSw; (try dsimp only at hSw); go_simp; try (with_reducible rfl)
      try simp only [sq]
      refine wpAnyH_ready (rs := [8]) (by kernel_rfl) (by simp) ?_
      refine AllReadyH.cons rfl (fun K hK => ?_) AllReadyH.nil
      try simp only [sq]
      go_simp
      (first
          | (go_at_call 12; refine (C.out _ (by (repeat (first | with_reducible exact Below.refl _ _ | with_reducible assumption | (with_reducible refine btrans ?_ (by with_reducible assumption)) | with_reducible refine bdrew ?_ | with_reducible refine balloc ?_ _)))).mono ?_; rintro e w1 ⟨rfl, hb1⟩))
      go_wp2_with fail
      refine hK.out _ _ ?_ (fun hHeld => ?_)
      · (repeat' apply And.intro) <;> (repeat (first | with_reducible assumption | refine keepcell (by with_reducible assumption) ?_ | refine keepdrew ?_ | refine keepalloc ?_ _))
      clear hK K
      try simp only [sq]
      refine wpAnyH_take (i := 9) (v := ?_) rfl (by kernel_rfl) (by kernel_rfl) (by kernel_rfl) (fun _ _ _ h => h) (Or.inl ⟨by rfl, ?_⟩) hHeld ?_
      rotate_left
      · intro w hSw; (try dsimp only at hSw); go_simp; try (with_reducible rfl)
      try simp only [sq]
      refine wpAnyH_done (by kernel_rfl) ?_ _
      go_wp2_with fail
      go_roundw
      case rel => exact ⟨k + 1, by go_num, by omega, by (repeat (first | with_reducible exact Below.refl _ _ | with_reducible assumption | (with_reducible refine btrans ?_ (by with_reducible assumption)) | with_reducible refine bdrew ?_ | with_reducible refine balloc ?_ _))⟩
      case measure => simp [intOf]; omega
    · have hk' : k = l.length := by omega
      go_wp2_with fail
      go_ret
      exact ⟨rfl, hb⟩
set_option maxRecDepth 100000 in
set_option maxHeartbeats 4000000 in
theorem eq_knot (lo lo' n : Nat) : ∀ (t : KT) (ia ka ia' ka' : Option Addr) (w : World), ksz n t ≤ 1048576 → Kn lo n w ia ka t → Kn lo' n w ia' ka' t → Calls Try.prog 12 #[kvo t ia ka, kvo t ia' ka'] w fun e w' => e = .returned (.bool true) ∧ Below w.heap.size w w' := by
  induction n with
  | zero => intro t ia ka ia' ka' w _ h; exact h.elim
  | succ n ih =>
    intro t ia ka ia' ka' w hz h h'
    have hz2 : t.its.length ≤ 1048576 ∧ t.kids.length ≤ 1048576 := by unfold ksz at hz; omega
    obtain ⟨bi, bk, rfl, rfl, p1, p2, p3, p4, p5, p6⟩ := h
    obtain ⟨bi', bk', rfl, rfl, q1, q2, q3, q4, q5, q6⟩ := h'
    have CI := hid (fun (W : World) (hB : Below w.heap.size w W) => eq_items bi bi' t.its.length t.its.length t.its W (by omega) (p3.r.below hB) (q3.r.below hB))
    have CK := hid (fun (W : World) (hB : Below w.heap.size w W) => eq_knots n lo lo' ih bk bk' t.kids.length t.kids.length t.kids W (by omega) (fun k hk => Nat.le_trans (ksz_kid hk) hz) (Nat.lt_of_lt_of_le p4 hB.size) (Nat.lt_of_lt_of_le q4 hB.size) (fun j hj => by
      obtain ⟨a1, a2, a3, a4⟩ := p6 j hj
      exact ⟨a1, a2, a3.below p4 hB, a4.below hB⟩) (fun j hj => by
      obtain ⟨a1, a2, a3, a4⟩ := q6 j hj
      exact ⟨a1, a2, a3.below q4 hB, a4.below hB⟩))
    clear p3 p5 p6 q3 q5 q6 ih hz
    unfold kvo kv
    generalize t.box.1 = b0 at *
    generalize t.box.2.1 = b1 at *
    generalize t.box.2.2.1 = b2 at *
    generalize t.box.2.2.2 = b3 at *
    generalize t.lf = b4 at *
    generalize t.its.length = ni at *
    generalize t.kids.length = nk at *
    go_enter Try.func12, Try.ntmps12
    go_wp2_with fail
    have gA := hid (old_alloc (o' := .cells #[.int .i64 b0, .int .i64 b1, .int .i64 b2, .int .i64 b3, .bool b4, .slice (some ⟨bi', 0, none⟩) ni ni, .slice (some ⟨bk', 0, none⟩) nk nk] 34) (new_alloc w w.heap.size (.cells #[.int .i64 b0, .int .i64 b1, .int .i64 b2, .int .i64 b3, .bool b4, .slice (some ⟨bi, 0, none⟩) ni ni, .slice (some ⟨bk, 0, none⟩) nk nk] 34) rfl))
    have gB := hid (new_alloc (w.alloc (.cells #[.int .i64 b0, .int .i64 b1, .int .i64 b2, .int .i64 b3, .bool b4, .slice (some ⟨bi, 0, none⟩) ni ni, .slice (some ⟨bk, 0, none⟩) nk nk] 34)) (w.heap.size + 1) (.cells #[.int .i64 b0, .int .i64 b1, .int .i64 b2, .int .i64 b3, .bool b4, .slice (some ⟨bi', 0, none⟩) ni ni, .slice (some ⟨bk', 0, none⟩) nk nk] 34) (by simp))
    have B0 := hid (balloc (balloc (Below.refl w.heap.size w) (.cells #[.int .i64 b0, .int .i64 b1, .int .i64 b2, .int .i64 b3, .bool b4, .slice (some ⟨bi, 0, none⟩) ni ni, .slice (some ⟨bk, 0, none⟩) nk nk] 34)) (.cells #[.int .i64 b0, .int .i64 b1, .int .i64 b2, .int .i64 b3, .bool b4, .slice (some ⟨bi', 0, none⟩) ni ni, .slice (some ⟨bk', 0, none⟩) nk nk] 34))
    generalize (w.alloc (.cells #[.int .i64 b0, .int .i64 b1, .int .i64 b2, .int .i64 b3, .bool b4, .slice (some ⟨bi, 0, none⟩) ni ni, .slice (some ⟨bk, 0, none⟩) nk nk] 34)).alloc (.cells #[.int .i64 b0, .int .i64 b1, .int .i64 b2, .int .i64 b3, .bool b4, .slice (some ⟨bi', 0, none⟩) ni ni, .slice (some ⟨bk', 0, none⟩) nk nk] 34) = v0 at *
    refine (eq_box_same _ _ _ _ _).mono ?_
    rintro e v1 ⟨rfl, hb⟩
    replace gA := hid (keepheap hb gA.out)
    replace gB := hid (keepheap hb gB.out)
    replace B0 := hid (btrans B0.out hb)
    clear hb
    obtain ⟨a0, a1, a2, a3, a4, a5, a6, _, _, _, _, _, _, _⟩ := cell7k gA.out
    obtain ⟨d0, d1, d2, d3, d4, d5, d6, _, _, _, _, _, _, _⟩ := cell7k gB.out
    go_wp2_with fail
    refine (CI.out _ B0.out).mono ?_
    rintro e v2 ⟨rfl, hb⟩
    replace gA := hid (keepheap hb gA.out)
    replace gB := hid (keepheap hb gB.out)
    replace B0 := hid (btrans B0.out hb)
    clear hb a0 a1 a2 a3 a4 a5 a6 d0 d1 d2 d3 d4 d5 d6
    obtain ⟨a0, a1, a2, a3, a4, a5, a6, _, _, _, _, _, _, _⟩ := cell7k gA.out
    obtain ⟨d0, d1, d2, d3, d4, d5, d6, _, _, _, _, _, _, _⟩ := cell7k gB.out
    go_wp2_with fail
    refine (CK.out _ B0.out).mono ?_
    rintro e v3 ⟨rfl, hb⟩
    replace B0 := hid (btrans B0.out hb)
    clear hb
    go_wp2_with fail
    go_ret
    exact ⟨rfl, B0.out⟩
end Go.Proofs.Ytmdnelgnpponpaa
