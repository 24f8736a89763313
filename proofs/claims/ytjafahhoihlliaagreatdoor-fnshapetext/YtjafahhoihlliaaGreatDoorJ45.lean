/- Texts of stores, joined: RsK, RsI, RsS. -/
import Derived.Test.YtjafahhoihlliaaGreatDoorJ31
import Derived.Deep.RegionHeld3
namespace Go.Proofs.YtjafahhoihlliaaGreatDoor
open Go.RowKit
set_option linter.unusedVariables false
theorem kw_idx (a b c d : Value) (w : World) : (Instr.index 41 (.agg #[a, b, c, d]) (.int .i64 0)).run Tryz.prog w = .ok a w ∧ (Instr.index 41 (.agg #[a, b, c, d]) (.int .i64 1)).run Tryz.prog w = .ok b w ∧ (Instr.index 41 (.agg #[a, b, c, d]) (.int .i64 2)).run Tryz.prog w = .ok c w ∧ (Instr.index 41 (.agg #[a, b, c, d]) (.int .i64 3)).run Tryz.prog w = .ok d w := ⟨by kernel_rfl, by kernel_rfl, by kernel_rfl, by kernel_rfl⟩
theorem kw_other {x : ByteArray} {m : Nat} (hm : m ≤ 3) (h : kdr x ≠ some m) : ((kwr m).toList == x.toList) = false := by
  rw [str_eq, decide_eq_false_iff_not]
  intro e
  exact h ((kdr_at x m hm).1 e.symm)
theorem kw_same {x : ByteArray} {m : Nat} (hm : m ≤ 3) (h : kdr x = some m) : ((kwr m).toList == x.toList) = true := by
  rw [str_eq, decide_eq_true_iff]
  exact ((kdr_at x m hm).2 h).symm
set_option maxHeartbeats 2000000 in
theorem kind_ok (x : ByteArray) (m : Nat) (hk : kdr x = some m) (w : World) (h : KWr w) : Calls Tryz.prog 64 #[.string x] w fun e w' => e = .returned (.int .i64 m) ∧ w' = w := by
  have hm := kdr_le hk
  have i0 := fun w => (kw_idx (.string (kwr 0)) (.string (kwr 1)) (.string (kwr 2)) (.string (kwr 3)) w).1
  have i1 := fun w => (kw_idx (.string (kwr 0)) (.string (kwr 1)) (.string (kwr 2)) (.string (kwr 3)) w).2.1
  have i2 := fun w => (kw_idx (.string (kwr 0)) (.string (kwr 1)) (.string (kwr 2)) (.string (kwr 3)) w).2.2.1
  have i3 := fun w => (kw_idx (.string (kwr 0)) (.string (kwr 1)) (.string (kwr 2)) (.string (kwr 3)) w).2.2.2
  have c0 := h 0 (by omega)
  have c1 := h 1 (by omega)
  have c2 := h 2 (by omega)
  have c3 := h 3 (by omega)
  obtain rfl | rfl | rfl | rfl : m = 0 ∨ m = 1 ∨ m = 2 ∨ m = 3 := by omega
  · have q0 := kw_same (x := x) (m := 0) (by omega) hk
    clear h hk hm
    generalize kwr 0 = k0 at *
    generalize kwr 1 = k1 at *
    generalize kwr 2 = k2 at *
    generalize kwr 3 = k3 at *
    go_enter Tryz.func64, Tryz.ntmps64
    go_wp2_with fail
    refine wp_loop_rounds 1 ?_
    rw [rounds_succ]
    go_wp2_with fail
    go_ret
    exact ⟨rfl, rfl⟩
  · have q0 := kw_other (x := x) (m := 0) (by omega) (by rw [hk]; decide)
    have q1 := kw_same (x := x) (m := 1) (by omega) hk
    clear h hk hm
    generalize kwr 0 = k0 at *
    generalize kwr 1 = k1 at *
    generalize kwr 2 = k2 at *
    generalize kwr 3 = k3 at *
    go_enter Tryz.func64, Tryz.ntmps64
    go_wp2_with fail
    refine wp_loop_rounds 2 ?_
    rw [rounds_succ]
    go_wp2_with fail
    rw [rounds_succ]
    go_wp2_with fail
    go_ret
    exact ⟨rfl, rfl⟩
  · have q0 := kw_other (x := x) (m := 0) (by omega) (by rw [hk]; decide)
    have q1 := kw_other (x := x) (m := 1) (by omega) (by rw [hk]; decide)
    have q2 := kw_same (x := x) (m := 2) (by omega) hk
    clear h hk hm
    generalize kwr 0 = k0 at *
    generalize kwr 1 = k1 at *
    generalize kwr 2 = k2 at *
    generalize kwr 3 = k3 at *
    go_enter Tryz.func64, Tryz.ntmps64
    go_wp2_with fail
    refine wp_loop_rounds 3 ?_
    rw [rounds_succ]
    go_wp2_with fail
    rw [rounds_succ]
    go_wp2_with fail
    rw [rounds_succ]
    go_wp2_with fail
    go_ret
    exact ⟨rfl, rfl⟩
  · have q0 := kw_other (x := x) (m := 0) (by omega) (by rw [hk]; decide)
    have q1 := kw_other (x := x) (m := 1) (by omega) (by rw [hk]; decide)
    have q2 := kw_other (x := x) (m := 2) (by omega) (by rw [hk]; decide)
    have q3 := kw_same (x := x) (m := 3) (by omega) hk
    clear h hk hm
    generalize kwr 0 = k0 at *
    generalize kwr 1 = k1 at *
    generalize kwr 2 = k2 at *
    generalize kwr 3 = k3 at *
    go_enter Tryz.func64, Tryz.ntmps64
    go_wp2_with fail
    refine wp_loop_rounds 4 ?_
    rw [rounds_succ]
    go_wp2_with fail
    rw [rounds_succ]
    go_wp2_with fail
    rw [rounds_succ]
    go_wp2_with fail
    rw [rounds_succ]
    go_wp2_with fail
    go_ret
    exact ⟨rfl, rfl⟩
set_option maxHeartbeats 2000000 in
theorem kind_no (x : ByteArray) (hk : kdr x = none) (w : World) (h : KWr w) : Calls Tryz.prog 64 #[.string x] w fun e w' => Refused e ∧ w' = w := by
  have i0 := fun w => (kw_idx (.string (kwr 0)) (.string (kwr 1)) (.string (kwr 2)) (.string (kwr 3)) w).1
  have i1 := fun w => (kw_idx (.string (kwr 0)) (.string (kwr 1)) (.string (kwr 2)) (.string (kwr 3)) w).2.1
  have i2 := fun w => (kw_idx (.string (kwr 0)) (.string (kwr 1)) (.string (kwr 2)) (.string (kwr 3)) w).2.2.1
  have i3 := fun w => (kw_idx (.string (kwr 0)) (.string (kwr 1)) (.string (kwr 2)) (.string (kwr 3)) w).2.2.2
  have c0 := h 0 (by omega)
  have c1 := h 1 (by omega)
  have c2 := h 2 (by omega)
  have c3 := h 3 (by omega)
  have q0 := kw_other (x := x) (m := 0) (by omega) (by rw [hk]; decide)
  have q1 := kw_other (x := x) (m := 1) (by omega) (by rw [hk]; decide)
  have q2 := kw_other (x := x) (m := 2) (by omega) (by rw [hk]; decide)
  have q3 := kw_other (x := x) (m := 3) (by omega) (by rw [hk]; decide)
  clear h hk
  generalize kwr 0 = k0 at *
  generalize kwr 1 = k1 at *
  generalize kwr 2 = k2 at *
  generalize kwr 3 = k3 at *
  go_enter Tryz.func64, Tryz.ntmps64
  go_wp2_with fail
  refine wp_loop_rounds 5 ?_
  rw [rounds_succ]
  go_wp2_with fail
  rw [rounds_succ]
  go_wp2_with fail
  rw [rounds_succ]
  go_wp2_with fail
  rw [rounds_succ]
  go_wp2_with fail
  rw [rounds_succ]
  go_wp2_with fail
  exact ⟨rfl, ⟨_, rfl⟩, rfl⟩
end Go.Proofs.YtjafahhoihlliaaGreatDoor
namespace Go.Proofs.YtjafahhoihlliaaGreatDoor
open Go.RowKit
set_option linter.unusedVariables false
theorem pts_blockr {w w' : World} {b n : Nat} {l : List (Int × Int)} (h : b < w.heap.size ∧ PtsAt w b 0 l ∧ w.there b 0 n) (hs : w.heap.size ≤ w'.heap.size) (hb : w'.heap[b]? = w.heap[b]?) : b < w'.heap.size ∧ PtsAt w' b 0 l ∧ w'.there b 0 n := by
  have hc : ∀ k, w'.cell? ⟨b, k, none⟩ = w.cell? ⟨b, k, none⟩ := fun k => by simp only [World.cell?, hb]
  have hf : ∀ k, w'.frozen? ⟨b, k, none⟩ = w.frozen? ⟨b, k, none⟩ := fun k => by simp only [World.frozen?, hb]
  refine ⟨by omega, fun j hj => ?_, fun j hj => ?_⟩
  · rw [hc, hc]; exact h.2.1 j hj
  · rw [hc, hf]; exact h.2.2 j hj
theorem own_below {w w' : World} {b n : Nat} {l : List (Int × Int)} (h : b < w.heap.size ∧ PtsAt w b 0 l ∧ w.there b 0 n) (hb : Below w.heap.size w w') : b < w'.heap.size ∧ PtsAt w' b 0 l ∧ w'.there b 0 n := pts_blockr h hb.size (hb.block b h.1)
theorem own_setr2 {w : World} {b q k k' : Nat} {u u' : Value} {l : List (Int × Int)} (h : PtsOwn w b l) (hne : q ≠ b) : PtsOwn ((w.setCell ⟨q, k, none⟩ u).setCell ⟨q, k', none⟩ u') b l := by
  have e : ∀ (W : World) (k : Nat) (u : Value), (W.setCell ⟨q, k, none⟩ u).heap[b]? = W.heap[b]? := fun W k u => by
    show (W.heap.modify q _)[b]? = _
    rw [Array.getElem?_modify, if_neg hne]
  exact pts_blockr (pts_blockr h (by simp) (e _ _ _)) (by simp) (e _ _ _)
theorem put_next {w : World} {b n : Nat} {l : List (Int × Int)} (h : b < w.heap.size ∧ PtsAt w b 0 l ∧ w.there b 0 (n * 2)) (hl : l.length < n) (x y : Int) :
    b < ((w.setCell ⟨b, l.length * 2, none⟩ (.int .i64 x)).setCell ⟨b, l.length * 2 + 1, none⟩ (.int .i64 y)).heap.size ∧ PtsAt ((w.setCell ⟨b, l.length * 2, none⟩ (.int .i64 x)).setCell ⟨b, l.length * 2 + 1, none⟩ (.int .i64 y)) b 0 (l ++ [(x, y)]) ∧ ((w.setCell ⟨b, l.length * 2, none⟩ (.int .i64 x)).setCell ⟨b, l.length * 2 + 1, none⟩ (.int .i64 y)).there b 0 (n * 2) := by
  have hL : ((l ++ [(x, y)]) ++ List.replicate (n - (l.length + 1)) ((0 : Int), (0 : Int))).length = n := by simp; omega
  have ht : (((l ++ [(x, y)]) ++ List.replicate (n - (l.length + 1)) ((0 : Int), (0 : Int)))).take l.length = l := by simp
  have ht1 : (((l ++ [(x, y)]) ++ List.replicate (n - (l.length + 1)) ((0 : Int), (0 : Int)))).take (l.length + 1) = l ++ [(x, y)] := by
    rw [List.take_append_of_le_length (by simp), List.take_of_length_le (by simp)]
  have hg : (((l ++ [(x, y)]) ++ List.replicate (n - (l.length + 1)) ((0 : Int), (0 : Int)))).getD l.length (0, 0) = (x, y) := by simp [List.getD]
  have hp := put_point (w := w) (b := b) (k := l.length) (n := n * 2) (ps := (l ++ [(x, y)]) ++ List.replicate (n - (l.length + 1)) ((0 : Int), (0 : Int))) h.1 (by rw [hL]; exact hl) (by rw [hL]) (by rw [ht]; exact h.2.1) h.2.2 x y (by rw [hg]) (by rw [hg])
  rw [ht1] at hp
  exact ⟨by simpa using h.1, hp.1, hp.2⟩
theorem texts_set {w : World} {g cap q k : Nat} {u : Value} {l : List ByteArray} (h : Texts w g cap l) (hne : q ≠ g) : Texts (w.setCell ⟨q, k, none⟩ u) g cap l := h.kept (grown_set w q k u) (by simpa using hne)
/-- What the inner function answers. -/
def SOT (w : World) (o : Option (Int × List (Int × Int))) (e : Ending) (w' : World) : Prop := Below w.heap.size w w' ∧ ((o = none ∧ Refused e) ∨ ∃ k l b, o = some (k, l) ∧ e = .returned (.agg #[.int .i64 k, .slice (some ⟨b, 0, none⟩) l.length l.length]) ∧ w.heap.size ≤ b ∧ PtsOwn w' b l)
theorem sot_refused {w w' : World} {o : Option (Int × List (Int × Int))} {e : Ending} (h : o = none) (he : Refused e) (hb : Below w.heap.size w w') : SOT w o e w' := ⟨hb, .inl ⟨h, he⟩⟩
theorem sot_yes {w w' : World} {o : Option (Int × List (Int × Int))} {k : Int} {l : List (Int × Int)} {b n : Nat} (h : o = some (k, l)) (hn : l.length = n) (hb : Below w.heap.size w w') (hbb : w.heap.size ≤ b) (ho : PtsOwn w' b l) : SOT w o (.returned (.agg #[.int .i64 k, .slice (some ⟨b, 0, none⟩) n n])) w' := by
  subst hn
  exact ⟨hb, .inr ⟨k, l, b, h, rfl, hbb, ho⟩⟩
theorem drop2 {ws : List ByteArray} {i : Nat} (h : i + 1 < ws.length) : ws.drop i = ws[i] :: ws[i + 1] :: ws.drop (i + 2) := by
  rw [List.drop_eq_getElem_cons (by omega), List.drop_eq_getElem_cons h]
theorem getD0 {ws : List ByteArray} (h : 0 < ws.length) : ws.getD 0 ⟨#[]⟩ = ws[0] := by
  rw [List.getD_eq_getElem?_getD, List.getElem?_eq_getElem h]; rfl
set_option maxRecDepth 100000 in
set_option maxHeartbeats 4000000 in
theorem sot_all (s : ByteArray) (hs : s.size ≤ 1048576) (w : World) (hLb : LibsR w) (hKw : KWr w) : Calls Tryz.prog 39 #[.string s] w fun e w' => SOT w (rso (rest s s.size 0 0)) e w' := by
  have HLB := hid hLb
  have HKW := hid hKw
  have HWD := hid (fun (W : World) (hb : Below w.heap.size w W) => impl_words s hs W (hLb.1 s W hs hb).2.2 hLb.2.2)
  obtain ⟨hw0, hw1⟩ := rest_len s s.size 0 0
  have HSZ := hid (rest_size s s.size 0 0)
  generalize rest s s.size 0 0 = ws at *
  obtain ⟨n, hn⟩ : ∃ n, n = ws.length := ⟨_, rfl⟩
  have HNL := hid hn.symm
  rw [← hn] at HWD hw0 hw1
  clear hn hLb hKw
  have hni : (0 : Int) < (n : Int) := by omega
  have hni1 : (1 : Int) ≤ (n : Int) := by omega
  obtain ⟨x, hx⟩ : ∃ x, x = ws.getD 0 ⟨#[]⟩ := ⟨_, rfl⟩
  have HX := hid hx
  clear hx
  go_enter Tryz.func39, Tryz.ntmps39
  go_wp2_with fail
  have g2 := new_alloc w w.heap.size (.cells #[.int .i64 0, .slice none 0 0] 26) rfl
  have hB : Below w.heap.size w (w.alloc (.cells #[.int .i64 0, .slice none 0 0] 26)) := balloc (Below.refl _ _) _
  generalize w.alloc (.cells #[.int .i64 0, .slice none 0 0] 26) = W at *
  have hlW := lt_of_block g2
  refine (HWD.out _ hB).mono ?_
  rintro e W1 ⟨g, rfl, hgg, hT, hb1⟩
  have hgw : w.heap.size < g := by omega
  have HT := hid hT
  replace g2 := keepheap hb1 g2
  replace hB := btrans hB hb1
  clear hb1 hT hgg HWD
  have hc0 : W1.cell? ⟨g, 0, none⟩ = some (.string x) := by
    have h0 : 0 < ws.length := by rw [HNL.out]; exact hw0
    rw [HX.out, getD0 h0]; exact HT.out.cell 0 h0
  go_wp2_with fail
  cases hk : kdr x with
  | none =>
    have HN := hid (show rso ws = none by unfold rso; rw [← HX.out, hk])
    have HKD := hid (fun (W : World) (hb : Below w.heap.size w W) => kind_no x hk W (HKW.out.below hb))
    clear HNL HX HSZ HLB HKW
    by_cases hn1 : n = 1
    · obtain rfl : 1 = n := hn1.symm
      refine wp_region_held_drew (S := (fun w' => w'.cell? ⟨g, 0, none⟩ = some (.string x))) (by kernel_rfl) ?_ (fun hHeld => ?_)
      · exact hc0
      replace g2 : W1.drew.heap[w.heap.size]? = some (.cells #[.int .i64 0, .slice none 0 0] 26 (0, 0)) := g2
      replace HT : Hid (Texts W1.drew g 1 ws) := hid (HT.out.kept (grown_drew (grown_same W1 none) 1) (by simp))
      replace hB := bdrew hB
      generalize W1.drew = z0 at *
      refine wpAnyH_take (i := 0) (v := ?_) rfl (by kernel_rfl) (by kernel_rfl) (by kernel_rfl) (fun _ _ _ h => h) (Or.inl ⟨by rfl, ?_⟩) hHeld ?_
      rotate_left
      · intro w hSw; (try dsimp only at hSw); go_simp; try (with_reducible rfl)
      try simp only [sq]
      refine wpAnyH_take (i := 1) (v := ?_) rfl (by kernel_rfl) (by kernel_rfl) (by kernel_rfl) (fun _ _ _ h => h) (Or.inl ⟨by rfl, ?_⟩) hHeld ?_
      rotate_left
      · intro w hSw; (try dsimp only at hSw); go_simp; try (with_reducible rfl)
      try simp only [sq]
      refine wpAnyH_take (i := 2) (v := ?_) rfl (by kernel_rfl) (by kernel_rfl) (by kernel_rfl) (fun _ _ _ h => h) (Or.inl ⟨by rfl, ?_⟩) hHeld ?_
      rotate_left
      · intro w hSw; (try dsimp only at hSw); go_simp; try (with_reducible rfl)
      try simp only [sq]
      refine wpAnyH_take (i := 4) (v := ?_) rfl (by kernel_rfl) (by kernel_rfl) (by kernel_rfl) (fun _ _ _ h => h) (Or.inl ⟨by rfl, ?_⟩) hHeld ?_
      rotate_left
      · intro w hSw; (try dsimp only at hSw); go_simp; try (with_reducible rfl)
      try simp only [sq]
      refine wpAnyH_take (i := 5) (v := ?_) rfl (by kernel_rfl) (by kernel_rfl) (by kernel_rfl) (fun _ _ _ h => h) (Or.inl ⟨by rfl, ?_⟩) hHeld ?_
      rotate_left
      · intro w hSw; (try dsimp only at hSw); go_simp; try (with_reducible rfl)
      try simp only [sq]
      refine wpAnyH_ready (rs := [3]) (by kernel_rfl) (by simp) ?_
      refine (AllReadyH.cons rfl (fun K hK => ?_) AllReadyH.nil)
      try simp only [sq]
      go_simp
      go_at_call 64
      refine (HKD.out _ hB).mono ?_
      rintro e z1 ⟨⟨t, rfl⟩, hw⟩
      replace hw := hw.symm
      subst hw
      go_wp2_with fail
      exact ⟨rfl, sot_refused HN.out ⟨_, rfl⟩ hB⟩
    · have hn2 : ¬ n - 1 = 0 := by omega
      refine wp_region_held_drew (S := (fun w' => w'.cell? ⟨g, 0, none⟩ = some (.string x))) (by kernel_rfl) ?_ (fun hHeld => ?_)
      · exact hc0
      replace g2 : W1.drew.heap[w.heap.size]? = some (.cells #[.int .i64 0, .slice none 0 0] 26 (0, 0)) := g2
      replace HT : Hid (Texts W1.drew g n ws) := hid (HT.out.kept (grown_drew (grown_same W1 none) 1) (by simp))
      replace hB := bdrew hB
      generalize W1.drew = z0 at *
      refine wpAnyH_take (i := 0) (v := ?_) rfl (by kernel_rfl) (by kernel_rfl) (by kernel_rfl) (fun _ _ _ h => h) (Or.inl ⟨by rfl, ?_⟩) hHeld ?_
      rotate_left
      · intro w hSw; (try dsimp only at hSw); go_simp; try (with_reducible rfl)
      try simp only [sq]
      refine wpAnyH_take (i := 1) (v := ?_) rfl (by kernel_rfl) (by kernel_rfl) (by kernel_rfl) (fun _ _ _ h => h) (Or.inl ⟨by rfl, ?_⟩) hHeld ?_
      rotate_left
      · intro w hSw; (try dsimp only at hSw); go_simp; try (with_reducible rfl)
      try simp only [sq]
      refine wpAnyH_take (i := 2) (v := ?_) rfl (by kernel_rfl) (by kernel_rfl) (by kernel_rfl) (fun _ _ _ h => h) (Or.inl ⟨by rfl, ?_⟩) hHeld ?_
      rotate_left
      · intro w hSw; (try dsimp only at hSw); go_simp; try (with_reducible rfl)
      try simp only [sq]
      refine wpAnyH_take (i := 4) (v := ?_) rfl (by kernel_rfl) (by kernel_rfl) (by kernel_rfl) (fun _ _ _ h => h) (Or.inl ⟨by rfl, ?_⟩) hHeld ?_
      rotate_left
      · intro w hSw; (try dsimp only at hSw); go_simp; try (with_reducible rfl)
      try simp only [sq]
      refine wpAnyH_take (i := 5) (v := ?_) rfl (by kernel_rfl) (by kernel_rfl) (by kernel_rfl) (fun _ _ _ h => h) (Or.inl ⟨by rfl, ?_⟩) hHeld ?_
      rotate_left
      · intro w hSw; (try dsimp only at hSw); go_simp; try (with_reducible rfl)
      try simp only [sq]
      refine wpAnyH_ready (rs := [3]) (by kernel_rfl) (by simp) ?_
      refine (AllReadyH.cons rfl (fun K hK => ?_) AllReadyH.nil)
      try simp only [sq]
      go_simp
      go_at_call 64
      refine (HKD.out _ hB).mono ?_
      rintro e z1 ⟨⟨t, rfl⟩, hw⟩
      replace hw := hw.symm
      subst hw
      go_wp2_with fail
      exact ⟨rfl, sot_refused HN.out ⟨_, rfl⟩ hB⟩
  | some m =>
    have HKD := hid (fun (W : World) (hb : Below w.heap.size w W) => kind_ok x m hk W (HKW.out.below hb))
    have hm3 := kdr_le hk
    have HO := hid (show rso ws = match rdp (ws.drop 1) with | none => none | some l => if shok (m : Int) l = true then some ((m : Int), l) else none by unfold rso; rw [← HX.out, hk]; rfl)
    clear hk
    go_cut [4, 5] (fun t4 t5 wx => t4 = .int .i64 m ∧ (∃ o5 : Nat, t5 = .slice (some ⟨g, o5, none⟩) (n - 1) (n - 1) ∧ (1 < n → o5 = 1)) ∧ Hid (wx.heap[w.heap.size]? = some (.cells #[.int .i64 0, .slice none 0 0] 26 (0, 0))) ∧ Hid (Texts wx g n ws) ∧ Hid (Below w.heap.size w wx))
    case first =>
      clear HNL HX HSZ HLB HKW HO
      by_cases hn1 : n = 1
      · obtain rfl : 1 = n := hn1.symm
        refine wp_region_held_drew (S := (fun w' => w'.cell? ⟨g, 0, none⟩ = some (.string x))) (by kernel_rfl) ?_ (fun hHeld => ?_)
        · exact hc0
        replace g2 : W1.drew.heap[w.heap.size]? = some (.cells #[.int .i64 0, .slice none 0 0] 26 (0, 0)) := g2
        replace HT : Hid (Texts W1.drew g 1 ws) := hid (HT.out.kept (grown_drew (grown_same W1 none) 1) (by simp))
        replace hB := bdrew hB
        generalize W1.drew = z0 at *
        refine wpAnyH_take (i := 0) (v := ?_) rfl (by kernel_rfl) (by kernel_rfl) (by kernel_rfl) (fun _ _ _ h => h) (Or.inl ⟨by rfl, ?_⟩) hHeld ?_
        rotate_left
        · intro w hSw; (try dsimp only at hSw); go_simp; try (with_reducible rfl)
        try simp only [sq]
        refine wpAnyH_take (i := 1) (v := ?_) rfl (by kernel_rfl) (by kernel_rfl) (by kernel_rfl) (fun _ _ _ h => h) (Or.inl ⟨by rfl, ?_⟩) hHeld ?_
        rotate_left
        · intro w hSw; (try dsimp only at hSw); go_simp; try (with_reducible rfl)
        try simp only [sq]
        refine wpAnyH_take (i := 2) (v := ?_) rfl (by kernel_rfl) (by kernel_rfl) (by kernel_rfl) (fun _ _ _ h => h) (Or.inl ⟨by rfl, ?_⟩) hHeld ?_
        rotate_left
        · intro w hSw; (try dsimp only at hSw); go_simp; try (with_reducible rfl)
        try simp only [sq]
        refine wpAnyH_take (i := 4) (v := ?_) rfl (by kernel_rfl) (by kernel_rfl) (by kernel_rfl) (fun _ _ _ h => h) (Or.inl ⟨by rfl, ?_⟩) hHeld ?_
        rotate_left
        · intro w hSw; (try dsimp only at hSw); go_simp; try (with_reducible rfl)
        try simp only [sq]
        refine wpAnyH_take (i := 5) (v := ?_) rfl (by kernel_rfl) (by kernel_rfl) (by kernel_rfl) (fun _ _ _ h => h) (Or.inl ⟨by rfl, ?_⟩) hHeld ?_
        rotate_left
        · intro w hSw; (try dsimp only at hSw); go_simp; try (with_reducible rfl)
        try simp only [sq]
        refine wpAnyH_ready (rs := [3]) (by kernel_rfl) (by simp) ?_
        refine (AllReadyH.cons rfl (fun K hK => ?_) AllReadyH.nil)
        try simp only [sq]
        go_simp
        go_at_call 64
        refine (HKD.out _ hB).mono ?_
        rintro e z1 ⟨rfl, hw⟩
        replace hw := hw.symm
        subst hw
        go_wp2_with fail
        refine hK.out _ _ ?_ (fun hHeld => ?_)
        · (repeat' apply And.intro) <;> (repeat (first | with_reducible assumption | with_reducible refine keepset ?_ (by dsimp only; omega) | with_reducible refine keepdrew ?_ | with_reducible refine keepcell (by with_reducible assumption) ?_ | with_reducible refine keepalloc ?_ _))
        clear hK K
        try simp only [sq]
        refine wpAnyH_take (i := 6) (v := ?_) rfl (by kernel_rfl) (by kernel_rfl) (by kernel_rfl) (fun _ _ _ h => h) (Or.inl ⟨by rfl, ?_⟩) hHeld ?_
        rotate_left
        · intro w hSw; (try dsimp only at hSw); go_simp; try (with_reducible rfl)
        try simp only [sq]
        refine wpAnyH_take (i := 7) (v := ?_) rfl (by kernel_rfl) (by kernel_rfl) (by kernel_rfl) (fun _ _ _ h => h) (Or.inl ⟨by rfl, ?_⟩) hHeld ?_
        rotate_left
        · intro w hSw; (try dsimp only at hSw); go_simp; try (with_reducible rfl)
        try simp only [sq]
        refine wpAnyH_done (by kernel_rfl) ?_ _
        go_wp2_with fail
        go_meet
        exact ⟨rfl, ⟨0, rfl, by omega⟩, hid g2, HT, hid hB⟩
      · have hn2 : ¬ n - 1 = 0 := by omega
        refine wp_region_held_drew (S := (fun w' => w'.cell? ⟨g, 0, none⟩ = some (.string x))) (by kernel_rfl) ?_ (fun hHeld => ?_)
        · exact hc0
        replace g2 : W1.drew.heap[w.heap.size]? = some (.cells #[.int .i64 0, .slice none 0 0] 26 (0, 0)) := g2
        replace HT : Hid (Texts W1.drew g n ws) := hid (HT.out.kept (grown_drew (grown_same W1 none) 1) (by simp))
        replace hB := bdrew hB
        generalize W1.drew = z0 at *
        refine wpAnyH_take (i := 0) (v := ?_) rfl (by kernel_rfl) (by kernel_rfl) (by kernel_rfl) (fun _ _ _ h => h) (Or.inl ⟨by rfl, ?_⟩) hHeld ?_
        rotate_left
        · intro w hSw; (try dsimp only at hSw); go_simp; try (with_reducible rfl)
        try simp only [sq]
        refine wpAnyH_take (i := 1) (v := ?_) rfl (by kernel_rfl) (by kernel_rfl) (by kernel_rfl) (fun _ _ _ h => h) (Or.inl ⟨by rfl, ?_⟩) hHeld ?_
        rotate_left
        · intro w hSw; (try dsimp only at hSw); go_simp; try (with_reducible rfl)
        try simp only [sq]
        refine wpAnyH_take (i := 2) (v := ?_) rfl (by kernel_rfl) (by kernel_rfl) (by kernel_rfl) (fun _ _ _ h => h) (Or.inl ⟨by rfl, ?_⟩) hHeld ?_
        rotate_left
        · intro w hSw; (try dsimp only at hSw); go_simp; try (with_reducible rfl)
        try simp only [sq]
        refine wpAnyH_take (i := 4) (v := ?_) rfl (by kernel_rfl) (by kernel_rfl) (by kernel_rfl) (fun _ _ _ h => h) (Or.inl ⟨by rfl, ?_⟩) hHeld ?_
        rotate_left
        · intro w hSw; (try dsimp only at hSw); go_simp; try (with_reducible rfl)
        try simp only [sq]
        refine wpAnyH_take (i := 5) (v := ?_) rfl (by kernel_rfl) (by kernel_rfl) (by kernel_rfl) (fun _ _ _ h => h) (Or.inl ⟨by rfl, ?_⟩) hHeld ?_
        rotate_left
        · intro w hSw; (try dsimp only at hSw); go_simp; try (with_reducible rfl)
        try simp only [sq]
        refine wpAnyH_ready (rs := [3]) (by kernel_rfl) (by simp) ?_
        refine (AllReadyH.cons rfl (fun K hK => ?_) AllReadyH.nil)
        try simp only [sq]
        go_simp
        go_at_call 64
        refine (HKD.out _ hB).mono ?_
        rintro e z1 ⟨rfl, hw⟩
        replace hw := hw.symm
        subst hw
        go_wp2_with fail
        refine hK.out _ _ ?_ (fun hHeld => ?_)
        · (repeat' apply And.intro) <;> (repeat (first | with_reducible assumption | with_reducible refine keepset ?_ (by dsimp only; omega) | with_reducible refine keepdrew ?_ | with_reducible refine keepcell (by with_reducible assumption) ?_ | with_reducible refine keepalloc ?_ _))
        clear hK K
        try simp only [sq]
        refine wpAnyH_take (i := 6) (v := ?_) rfl (by kernel_rfl) (by kernel_rfl) (by kernel_rfl) (fun _ _ _ h => h) (Or.inl ⟨by rfl, ?_⟩) hHeld ?_
        rotate_left
        · intro w hSw; (try dsimp only at hSw); go_simp; try (with_reducible rfl)
        try simp only [sq]
        refine wpAnyH_take (i := 7) (v := ?_) rfl (by kernel_rfl) (by kernel_rfl) (by kernel_rfl) (fun _ _ _ h => h) (Or.inl ⟨by rfl, ?_⟩) hHeld ?_
        rotate_left
        · intro w hSw; (try dsimp only at hSw); go_simp; try (with_reducible rfl)
        try simp only [sq]
        refine wpAnyH_done (by kernel_rfl) ?_ _
        go_wp2_with fail
        go_meet
        exact ⟨rfl, ⟨1, rfl, by omega⟩, hid g2, HT, hid hB⟩
    case rest =>
      obtain ⟨rfl, ⟨o5, rfl, ho5⟩, G2, HT, HBW⟩ := hcut
      clear HKD hc0 g2 hB HKW
      by_cases hodd : (n - 1) % 2 = 1
      · have HN := hid (show rso ws = none by
          rw [HO.out]
          cases hr : rdp (ws.drop 1) with
          | none => rfl
          | some l =>
            have := rdp_len _ _ l (Nat.le_refl _) hr
            have hh := HNL.out
            rw [List.length_drop] at this; omega)
        have ho : (((n - 1 : Nat) : Int).tmod 2 != 0) = true := by
          rw [show ((n - 1 : Nat) : Int).tmod 2 = (((n - 1) % 2 : Nat) : Int) from rfl, hodd]; rfl
        go_wp2_with fail
        exact ⟨rfl, sot_refused HN.out ⟨_, rfl⟩ HBW.out⟩
      · obtain ⟨np, hnp1, hnp2⟩ : ∃ np, n ≤ 2 * np + 1 ∧ 2 * np + 1 ≤ n := ⟨(n - 1) / 2, by omega, by omega⟩
        have ho : (((n - 1 : Nat) : Int).tmod 2 != 0) = false := by
          rw [show ((n - 1 : Nat) : Int).tmod 2 = (((n - 1) % 2 : Nat) : Int) from rfl, show (n - 1) % 2 = 0 by omega]; rfl
        have hq : ((n - 1 : Nat) : Int).tdiv 2 = (np : Int) := by
          rw [show ((n - 1 : Nat) : Int).tdiv 2 = (((n - 1) / 2 : Nat) : Int) from rfl, show (n - 1) / 2 = np by omega]
        have ho2 : (((n - 1 : Nat) : Int) % 2 != 0) = false := by
          rw [show ((n - 1 : Nat) : Int) % 2 = 0 by omega]; rfl
        have hmk := make_points np (by omega)
        have hB := HBW.out
        have g2 := G2.out
        have hsz := lt_of_block g2
        have hlg := HT.out.lt
        go_wp2_with fail
        have hbm : Below wc.heap.size wc (wc.alloc (.cells (madeCells #[.int .i64 0, .int .i64 0] (np * 2)) 44)) := balloc (Below.refl _ _) _
        have hL : wc.heap.size < (wc.alloc (.cells (madeCells #[.int .i64 0, .int .i64 0] (np * 2)) 44)).heap.size ∧ PtsAt (wc.alloc (.cells (madeCells #[.int .i64 0, .int .i64 0] (np * 2)) 44)) wc.heap.size 0 [] ∧ (wc.alloc (.cells (madeCells #[.int .i64 0, .int .i64 0] (np * 2)) 44)).there wc.heap.size 0 (np * 2) := ⟨by simp, fun j hj => by simp at hj, made_own wc np⟩
        replace g2 := keepheap hbm g2
        replace HT := hid (HT.out.kept (grown_all hbm none) (by simp))
        replace hB := btrans hB hbm
        generalize wc.alloc (.cells (madeCells #[.int .i64 0, .int .i64 0] (np * 2)) 44) = V at *
        generalize wc.heap.size = BL at *
        clear hbm hmk G2 HBW hq ho ho2
        go_loopw [28] (fun tj wr => ∃ j : Nat, ∃ l : List (Int × Int), tj = .int .i64 j ∧ j ≤ np ∧ Hid (l.length = j) ∧ Hid (rdp (ws.drop 1) = (rdp (ws.drop (2 * j + 1))).map (fun r => l ++ r)) ∧ Hid (Texts wr g n ws) ∧ Hid (wr.heap[w.heap.size]? = some (.cells #[.int .i64 0, .slice none 0 0] 26 (0, 0))) ∧ Hid (BL < wr.heap.size ∧ PtsAt wr BL 0 l ∧ wr.there BL 0 (np * 2)) ∧ Hid (Below w.heap.size w wr)) (fun tj _ => np - (intOf tj).toNat)
        case atStart => exact ⟨0, [], rfl, Nat.zero_le _, hid rfl, hid (by simp), HT, hid g2, hid hL, hid hB⟩
        case round =>
          clear HT g2 hL hB
          obtain ⟨j, l, rfl, hj, HLn, HR, HT, G2, HL, HBW⟩ := hrel
          by_cases hlt : j < np
          · have c1 : (j : Int) < (np : Int) := by omega
            have hi1 : 2 * j + 1 < ws.length := by rw [HNL.out]; omega
            have hi2 : 2 * j + 1 + 1 < ws.length := by rw [HNL.out]; omega
            have hc1 := HT.out.cell (2 * j + 1) hi1
            have hc2 := HT.out.cell (2 * j + 1 + 1) hi2
            have hz1 := HSZ.out _ (List.getElem_mem hi1)
            have hz2 := HSZ.out _ (List.getElem_mem hi2)
            have hdr : rdp (ws.drop 1) = (rdp (ws[2 * j + 1] :: ws[2 * j + 1 + 1] :: ws.drop (2 * (j + 1) + 1))).map (fun r => l ++ r) := by
              rw [HR.out, drop2 hi2]
              rfl
            generalize ws[2 * j + 1] = x1 at *
            generalize ws[2 * j + 1 + 1] = x2 at *
            have HDR := hid hdr
            clear hdr HR hi1 hi2
            rw [show 2 * j + 1 + 1 = 1 + (2 * j + 1) by omega] at hc2
            rw [show 2 * j + 1 = 1 + 2 * j by omega] at hc1
            obtain rfl : o5 = 1 := ho5 (by omega)
            have hm1 : IntKind.i64.wrap (2 * (j : Int)) = 2 * (j : Int) := IntWalk.i64_in _ ⟨by omega, by omega⟩
            have hm2 : IntKind.i64.wrap (2 * (j : Int) + 1) = 2 * (j : Int) + 1 := IntWalk.i64_in _ ⟨by omega, by omega⟩
            have hq1 : (0 : Int) ≤ 2 * (j : Int) := by omega
            have hq2 : 2 * (j : Int) < ((n - 1 : Nat) : Int) := by omega
            have hq3 : (0 : Int) ≤ 2 * (j : Int) + 1 := by omega
            have hq4 : 2 * (j : Int) + 1 < ((n - 1 : Nat) : Int) := by omega
            have hq5 : (2 * (j : Int)).toNat = 2 * j := by omega
            have hq6 : (2 * (j : Int) + 1).toNat = 2 * j + 1 := by omega
            cases hb1 : riB x1
            · have HN := hid (show rso ws = none by rw [HO.out, HDR.out, rdp_no (.inl hb1)]; rfl)
              have N1 := hid (fun (W : World) (hb : Below w.heap.size w W) => num_no x1 (by omega) W (HLB.out.below hb) hb1)
              go_wp2_with fail
              refine wp_region_held_drew (S := (fun w' => w'.cell? ⟨g, 1 + 2 * j, none⟩ = some (.string x1) ∧ w'.cell? ⟨g, 1 + (2 * j + 1), none⟩ = some (.string x2))) (by kernel_rfl) ?_ (fun hHeld => ?_)
              · exact ⟨hc1, hc2⟩
              have g2 := G2.out
              have hB := HBW.out
              replace g2 : wr.drew.heap[w.heap.size]? = some (.cells #[.int .i64 0, .slice none 0 0] 26 (0, 0)) := g2
              replace HT : Hid (Texts wr.drew g n ws) := hid (HT.out.kept (grown_drew (grown_same wr none) 1) (by simp))
              replace HL : Hid (BL < wr.drew.heap.size ∧ PtsAt wr.drew BL 0 l ∧ wr.drew.there BL 0 (np * 2)) := HL
              replace hB := bdrew hB
              replace hc1 : wr.drew.cell? ⟨g, 1 + 2 * j, none⟩ = some (.string x1) := hc1
              replace hc2 : wr.drew.cell? ⟨g, 1 + (2 * j + 1), none⟩ = some (.string x2) := hc2
              clear G2 HBW
              generalize wr.drew = z0 at *
              refine wpAnyH_take (i := 0) (v := ?_) rfl (by kernel_rfl) (by kernel_rfl) (by kernel_rfl) (fun _ _ _ h => h) (Or.inl ⟨by rfl, ?_⟩) hHeld ?_
              rotate_left
              · intro w hSw; (try dsimp only at hSw); go_simp; try (with_reducible rfl)
              try simp only [sq]
              refine wpAnyH_take (i := 1) (v := ?_) rfl (by kernel_rfl) (by kernel_rfl) (by kernel_rfl) (fun _ _ _ h => h) (Or.inl ⟨by rfl, ?_⟩) hHeld ?_
              rotate_left
              · intro w hSw; (try dsimp only at hSw); go_simp; try (with_reducible rfl)
              try simp only [sq]
              refine wpAnyH_take (i := 2) (v := ?_) rfl (by kernel_rfl) (by kernel_rfl) (by kernel_rfl) (fun _ _ _ h => h) (Or.inl ⟨by rfl, ?_⟩) hHeld ?_
              rotate_left
              · intro w hSw; (try dsimp only at hSw); go_simp; try (with_reducible rfl)
              try simp only [sq]
              refine wpAnyH_take (i := 3) (v := ?_) rfl (by kernel_rfl) (by kernel_rfl) (by kernel_rfl) (fun _ _ _ h => h) (Or.inl ⟨by rfl, ?_⟩) hHeld ?_
              rotate_left
              · intro w hSw; (try dsimp only at hSw); go_simp; try (with_reducible rfl)
              try simp only [sq]
              refine wpAnyH_take (i := 4) (v := ?_) rfl (by kernel_rfl) (by kernel_rfl) (by kernel_rfl) (fun _ _ _ h => h) (Or.inl ⟨by rfl, ?_⟩) hHeld ?_
              rotate_left
              · intro w hSw; (try dsimp only at hSw); go_simp; try (with_reducible rfl)
              try simp only [sq]
              refine wpAnyH_take (i := 5) (v := ?_) rfl (by kernel_rfl) (by kernel_rfl) (by kernel_rfl) (fun _ _ _ h => h) (Or.inl ⟨by rfl, ?_⟩) hHeld ?_
              rotate_left
              · intro w hSw; (try dsimp only at hSw); go_simp; try (with_reducible rfl)
              try simp only [sq]
              refine wpAnyH_take (i := 6) (v := ?_) rfl (by kernel_rfl) (by kernel_rfl) (by kernel_rfl) (fun _ _ _ h => h) (Or.inl ⟨by rfl, ?_⟩) hHeld ?_
              rotate_left
              · intro w hSw; (try dsimp only at hSw); go_simp; try (with_reducible rfl)
              try simp only [sq]
              refine wpAnyH_take (i := 8) (v := ?_) rfl (by kernel_rfl) (by kernel_rfl) (by kernel_rfl) (fun _ _ _ h => h) (Or.inl ⟨by rfl, ?_⟩) hHeld ?_
              rotate_left
              · intro w hSw; (try dsimp only at hSw); go_simp; try (with_reducible rfl)
              try simp only [sq]
              refine wpAnyH_take (i := 9) (v := ?_) rfl (by kernel_rfl) (by kernel_rfl) (by kernel_rfl) (fun _ _ _ h => h) (Or.inl ⟨by rfl, ?_⟩) hHeld ?_
              rotate_left
              · intro w hSw; (try dsimp only at hSw); go_simp; try (with_reducible rfl)
              try simp only [sq]
              refine wpAnyH_take (i := 10) (v := ?_) rfl (by kernel_rfl) (by kernel_rfl) (by kernel_rfl) (fun _ _ _ h => h) (Or.inl ⟨by rfl, ?_⟩) hHeld ?_
              rotate_left
              · intro w hSw; (try dsimp only at hSw); go_simp; try (with_reducible rfl)
              try simp only [sq]
              refine wpAnyH_take (i := 11) (v := ?_) rfl (by kernel_rfl) (by kernel_rfl) (by kernel_rfl) (fun _ _ _ h => h) (Or.inl ⟨by rfl, ?_⟩) hHeld ?_
              rotate_left
              · intro w hSw; (try dsimp only at hSw); go_simp; try (with_reducible rfl)
              try simp only [sq]
              refine wpAnyH_take (i := 12) (v := ?_) rfl (by kernel_rfl) (by kernel_rfl) (by kernel_rfl) (fun _ _ _ h => h) (Or.inl ⟨by rfl, ?_⟩) hHeld ?_
              rotate_left
              · intro w hSw; (try dsimp only at hSw); go_simp; try (with_reducible rfl)
              try simp only [sq]
              refine wpAnyH_take (i := 13) (v := ?_) rfl (by kernel_rfl) (by kernel_rfl) (by kernel_rfl) (fun _ _ _ h => h) (Or.inl ⟨by rfl, ?_⟩) hHeld ?_
              rotate_left
              · intro w hSw; (try dsimp only at hSw); go_simp; try (with_reducible rfl)
              try simp only [sq]
              refine wpAnyH_ready (rs := [7]) (by kernel_rfl) (by simp) ?_
              refine (AllReadyH.cons rfl (fun K hK => ?_) AllReadyH.nil)
              try simp only [sq]
              go_simp
              go_at_call 65
              refine (N1.out _ hB).mono ?_
              rintro e z1 ⟨⟨t, rfl⟩, hcl⟩
              go_wp2_with fail
              exact ⟨rfl, sot_refused HN.out ⟨_, rfl⟩ (btrans hB hcl)⟩
            have N1 := hid (fun (W : World) (hb : Below w.heap.size w W) => num_ok x1 (by omega) W (HLB.out.below hb) hb1)
            cases hb2 : riB x2
            · have HN := hid (show rso ws = none by rw [HO.out, HDR.out, rdp_no (.inr hb2)]; rfl)
              have N2 := hid (fun (W : World) (hb : Below w.heap.size w W) => num_no x2 (by omega) W (HLB.out.below hb) hb2)
              go_wp2_with fail
              refine wp_region_held_drew (S := (fun w' => w'.cell? ⟨g, 1 + 2 * j, none⟩ = some (.string x1) ∧ w'.cell? ⟨g, 1 + (2 * j + 1), none⟩ = some (.string x2))) (by kernel_rfl) ?_ (fun hHeld => ?_)
              · exact ⟨hc1, hc2⟩
              have g2 := G2.out
              have hB := HBW.out
              replace g2 : wr.drew.heap[w.heap.size]? = some (.cells #[.int .i64 0, .slice none 0 0] 26 (0, 0)) := g2
              replace HT : Hid (Texts wr.drew g n ws) := hid (HT.out.kept (grown_drew (grown_same wr none) 1) (by simp))
              replace HL : Hid (BL < wr.drew.heap.size ∧ PtsAt wr.drew BL 0 l ∧ wr.drew.there BL 0 (np * 2)) := HL
              replace hB := bdrew hB
              replace hc1 : wr.drew.cell? ⟨g, 1 + 2 * j, none⟩ = some (.string x1) := hc1
              replace hc2 : wr.drew.cell? ⟨g, 1 + (2 * j + 1), none⟩ = some (.string x2) := hc2
              clear G2 HBW
              generalize wr.drew = z0 at *
              refine wpAnyH_take (i := 0) (v := ?_) rfl (by kernel_rfl) (by kernel_rfl) (by kernel_rfl) (fun _ _ _ h => h) (Or.inl ⟨by rfl, ?_⟩) hHeld ?_
              rotate_left
              · intro w hSw; (try dsimp only at hSw); go_simp; try (with_reducible rfl)
              try simp only [sq]
              refine wpAnyH_take (i := 1) (v := ?_) rfl (by kernel_rfl) (by kernel_rfl) (by kernel_rfl) (fun _ _ _ h => h) (Or.inl ⟨by rfl, ?_⟩) hHeld ?_
              rotate_left
              · intro w hSw; (try dsimp only at hSw); go_simp; try (with_reducible rfl)
              try simp only [sq]
              refine wpAnyH_take (i := 2) (v := ?_) rfl (by kernel_rfl) (by kernel_rfl) (by kernel_rfl) (fun _ _ _ h => h) (Or.inl ⟨by rfl, ?_⟩) hHeld ?_
              rotate_left
              · intro w hSw; (try dsimp only at hSw); go_simp; try (with_reducible rfl)
              try simp only [sq]
              refine wpAnyH_take (i := 3) (v := ?_) rfl (by kernel_rfl) (by kernel_rfl) (by kernel_rfl) (fun _ _ _ h => h) (Or.inl ⟨by rfl, ?_⟩) hHeld ?_
              rotate_left
              · intro w hSw; (try dsimp only at hSw); go_simp; try (with_reducible rfl)
              try simp only [sq]
              refine wpAnyH_take (i := 4) (v := ?_) rfl (by kernel_rfl) (by kernel_rfl) (by kernel_rfl) (fun _ _ _ h => h) (Or.inl ⟨by rfl, ?_⟩) hHeld ?_
              rotate_left
              · intro w hSw; (try dsimp only at hSw); go_simp; try (with_reducible rfl)
              try simp only [sq]
              refine wpAnyH_take (i := 5) (v := ?_) rfl (by kernel_rfl) (by kernel_rfl) (by kernel_rfl) (fun _ _ _ h => h) (Or.inl ⟨by rfl, ?_⟩) hHeld ?_
              rotate_left
              · intro w hSw; (try dsimp only at hSw); go_simp; try (with_reducible rfl)
              try simp only [sq]
              refine wpAnyH_take (i := 6) (v := ?_) rfl (by kernel_rfl) (by kernel_rfl) (by kernel_rfl) (fun _ _ _ h => h) (Or.inl ⟨by rfl, ?_⟩) hHeld ?_
              rotate_left
              · intro w hSw; (try dsimp only at hSw); go_simp; try (with_reducible rfl)
              try simp only [sq]
              refine wpAnyH_take (i := 8) (v := ?_) rfl (by kernel_rfl) (by kernel_rfl) (by kernel_rfl) (fun _ _ _ h => h) (Or.inl ⟨by rfl, ?_⟩) hHeld ?_
              rotate_left
              · intro w hSw; (try dsimp only at hSw); go_simp; try (with_reducible rfl)
              try simp only [sq]
              refine wpAnyH_take (i := 9) (v := ?_) rfl (by kernel_rfl) (by kernel_rfl) (by kernel_rfl) (fun _ _ _ h => h) (Or.inl ⟨by rfl, ?_⟩) hHeld ?_
              rotate_left
              · intro w hSw; (try dsimp only at hSw); go_simp; try (with_reducible rfl)
              try simp only [sq]
              refine wpAnyH_take (i := 10) (v := ?_) rfl (by kernel_rfl) (by kernel_rfl) (by kernel_rfl) (fun _ _ _ h => h) (Or.inl ⟨by rfl, ?_⟩) hHeld ?_
              rotate_left
              · intro w hSw; (try dsimp only at hSw); go_simp; try (with_reducible rfl)
              try simp only [sq]
              refine wpAnyH_take (i := 11) (v := ?_) rfl (by kernel_rfl) (by kernel_rfl) (by kernel_rfl) (fun _ _ _ h => h) (Or.inl ⟨by rfl, ?_⟩) hHeld ?_
              rotate_left
              · intro w hSw; (try dsimp only at hSw); go_simp; try (with_reducible rfl)
              try simp only [sq]
              refine wpAnyH_take (i := 12) (v := ?_) rfl (by kernel_rfl) (by kernel_rfl) (by kernel_rfl) (fun _ _ _ h => h) (Or.inl ⟨by rfl, ?_⟩) hHeld ?_
              rotate_left
              · intro w hSw; (try dsimp only at hSw); go_simp; try (with_reducible rfl)
              try simp only [sq]
              refine wpAnyH_take (i := 13) (v := ?_) rfl (by kernel_rfl) (by kernel_rfl) (by kernel_rfl) (fun _ _ _ h => h) (Or.inl ⟨by rfl, ?_⟩) hHeld ?_
              rotate_left
              · intro w hSw; (try dsimp only at hSw); go_simp; try (with_reducible rfl)
              try simp only [sq]
              refine wpAnyH_ready (rs := [7]) (by kernel_rfl) (by simp) ?_
              refine (AllReadyH.cons rfl (fun K hK => ?_) AllReadyH.nil)
              try simp only [sq]
              go_simp
              go_at_call 65
              refine (N1.out _ hB).mono ?_
              rintro e z1 ⟨rfl, hcl⟩
              replace hc1 := keepcell hcl hc1
              replace hc2 := keepcell hcl hc2
              replace g2 := keepheap hcl g2
              replace HT := hid (HT.out.kept (grown_all hcl none) (by simp))
              replace HL := hid (own_below HL.out hcl)
              replace hB := btrans hB hcl
              go_wp2_with fail
              refine hK.out _ _ ?_ (fun hHeld => ?_)
              · (repeat' apply And.intro) <;> (repeat (first | with_reducible assumption | with_reducible refine keepset ?_ (by dsimp only; omega) | with_reducible refine keepdrew ?_ | with_reducible refine keepcell (by with_reducible assumption) ?_ | with_reducible refine keepalloc ?_ _))
              clear hK K
              try simp only [sq]
              clear hcl
              refine wpAnyH_ready (rs := [14]) (by kernel_rfl) (by simp) ?_
              refine (AllReadyH.cons rfl (fun K hK => ?_) AllReadyH.nil)
              try simp only [sq]
              go_simp
              go_at_call 65
              refine (N2.out _ hB).mono ?_
              rintro e z2 ⟨⟨t, rfl⟩, hcl⟩
              go_wp2_with fail
              exact ⟨rfl, sot_refused HN.out ⟨_, rfl⟩ (btrans hB hcl)⟩
            have N2 := hid (fun (W : World) (hb : Below w.heap.size w W) => num_ok x2 (by omega) W (HLB.out.below hb) hb2)
            have HRS : Hid (rdp (ws.drop 1) = (rdp (ws.drop (2 * (j + 1) + 1))).map (fun r => (l ++ [(riN x1, riN x2)]) ++ r)) := hid (by
              rw [HDR.out, rdp_step hb1 hb2]
              cases rdp (ws.drop (2 * (j + 1) + 1)) with
              | none => rfl
              | some r => simp)
            clear hb1 hb2 HDR
            go_wp2_with fail
            refine wp_region_held_drew (S := (fun w' => w'.cell? ⟨g, 1 + 2 * j, none⟩ = some (.string x1) ∧ w'.cell? ⟨g, 1 + (2 * j + 1), none⟩ = some (.string x2))) (by kernel_rfl) ?_ (fun hHeld => ?_)
            · exact ⟨hc1, hc2⟩
            have g2 := G2.out
            have hB := HBW.out
            replace g2 : wr.drew.heap[w.heap.size]? = some (.cells #[.int .i64 0, .slice none 0 0] 26 (0, 0)) := g2
            replace HT : Hid (Texts wr.drew g n ws) := hid (HT.out.kept (grown_drew (grown_same wr none) 1) (by simp))
            replace HL : Hid (BL < wr.drew.heap.size ∧ PtsAt wr.drew BL 0 l ∧ wr.drew.there BL 0 (np * 2)) := HL
            replace hB := bdrew hB
            replace hc1 : wr.drew.cell? ⟨g, 1 + 2 * j, none⟩ = some (.string x1) := hc1
            replace hc2 : wr.drew.cell? ⟨g, 1 + (2 * j + 1), none⟩ = some (.string x2) := hc2
            clear G2 HBW
            generalize wr.drew = z0 at *
            refine wpAnyH_take (i := 0) (v := ?_) rfl (by kernel_rfl) (by kernel_rfl) (by kernel_rfl) (fun _ _ _ h => h) (Or.inl ⟨by rfl, ?_⟩) hHeld ?_
            rotate_left
            · intro w hSw; (try dsimp only at hSw); go_simp; try (with_reducible rfl)
            try simp only [sq]
            refine wpAnyH_take (i := 1) (v := ?_) rfl (by kernel_rfl) (by kernel_rfl) (by kernel_rfl) (fun _ _ _ h => h) (Or.inl ⟨by rfl, ?_⟩) hHeld ?_
            rotate_left
            · intro w hSw; (try dsimp only at hSw); go_simp; try (with_reducible rfl)
            try simp only [sq]
            refine wpAnyH_take (i := 2) (v := ?_) rfl (by kernel_rfl) (by kernel_rfl) (by kernel_rfl) (fun _ _ _ h => h) (Or.inl ⟨by rfl, ?_⟩) hHeld ?_
            rotate_left
            · intro w hSw; (try dsimp only at hSw); go_simp; try (with_reducible rfl)
            try simp only [sq]
            refine wpAnyH_take (i := 3) (v := ?_) rfl (by kernel_rfl) (by kernel_rfl) (by kernel_rfl) (fun _ _ _ h => h) (Or.inl ⟨by rfl, ?_⟩) hHeld ?_
            rotate_left
            · intro w hSw; (try dsimp only at hSw); go_simp; try (with_reducible rfl)
            try simp only [sq]
            refine wpAnyH_take (i := 4) (v := ?_) rfl (by kernel_rfl) (by kernel_rfl) (by kernel_rfl) (fun _ _ _ h => h) (Or.inl ⟨by rfl, ?_⟩) hHeld ?_
            rotate_left
            · intro w hSw; (try dsimp only at hSw); go_simp; try (with_reducible rfl)
            try simp only [sq]
            refine wpAnyH_take (i := 5) (v := ?_) rfl (by kernel_rfl) (by kernel_rfl) (by kernel_rfl) (fun _ _ _ h => h) (Or.inl ⟨by rfl, ?_⟩) hHeld ?_
            rotate_left
            · intro w hSw; (try dsimp only at hSw); go_simp; try (with_reducible rfl)
            try simp only [sq]
            refine wpAnyH_take (i := 6) (v := ?_) rfl (by kernel_rfl) (by kernel_rfl) (by kernel_rfl) (fun _ _ _ h => h) (Or.inl ⟨by rfl, ?_⟩) hHeld ?_
            rotate_left
            · intro w hSw; (try dsimp only at hSw); go_simp; try (with_reducible rfl)
            try simp only [sq]
            refine wpAnyH_take (i := 8) (v := ?_) rfl (by kernel_rfl) (by kernel_rfl) (by kernel_rfl) (fun _ _ _ h => h) (Or.inl ⟨by rfl, ?_⟩) hHeld ?_
            rotate_left
            · intro w hSw; (try dsimp only at hSw); go_simp; try (with_reducible rfl)
            try simp only [sq]
            refine wpAnyH_take (i := 9) (v := ?_) rfl (by kernel_rfl) (by kernel_rfl) (by kernel_rfl) (fun _ _ _ h => h) (Or.inl ⟨by rfl, ?_⟩) hHeld ?_
            rotate_left
            · intro w hSw; (try dsimp only at hSw); go_simp; try (with_reducible rfl)
            try simp only [sq]
            refine wpAnyH_take (i := 10) (v := ?_) rfl (by kernel_rfl) (by kernel_rfl) (by kernel_rfl) (fun _ _ _ h => h) (Or.inl ⟨by rfl, ?_⟩) hHeld ?_
            rotate_left
            · intro w hSw; (try dsimp only at hSw); go_simp; try (with_reducible rfl)
            try simp only [sq]
            refine wpAnyH_take (i := 11) (v := ?_) rfl (by kernel_rfl) (by kernel_rfl) (by kernel_rfl) (fun _ _ _ h => h) (Or.inl ⟨by rfl, ?_⟩) hHeld ?_
            rotate_left
            · intro w hSw; (try dsimp only at hSw); go_simp; try (with_reducible rfl)
            try simp only [sq]
            refine wpAnyH_take (i := 12) (v := ?_) rfl (by kernel_rfl) (by kernel_rfl) (by kernel_rfl) (fun _ _ _ h => h) (Or.inl ⟨by rfl, ?_⟩) hHeld ?_
            rotate_left
            · intro w hSw; (try dsimp only at hSw); go_simp; try (with_reducible rfl)
            try simp only [sq]
            refine wpAnyH_take (i := 13) (v := ?_) rfl (by kernel_rfl) (by kernel_rfl) (by kernel_rfl) (fun _ _ _ h => h) (Or.inl ⟨by rfl, ?_⟩) hHeld ?_
            rotate_left
            · intro w hSw; (try dsimp only at hSw); go_simp; try (with_reducible rfl)
            try simp only [sq]
            refine wpAnyH_ready (rs := [7]) (by kernel_rfl) (by simp) ?_
            refine (AllReadyH.cons rfl (fun K hK => ?_) AllReadyH.nil)
            try simp only [sq]
            go_simp
            go_at_call 65
            refine (N1.out _ hB).mono ?_
            rintro e z1 ⟨rfl, hcl⟩
            replace hc1 := keepcell hcl hc1
            replace hc2 := keepcell hcl hc2
            replace g2 := keepheap hcl g2
            replace HT := hid (HT.out.kept (grown_all hcl none) (by simp))
            replace HL := hid (own_below HL.out hcl)
            replace hB := btrans hB hcl
            go_wp2_with fail
            refine hK.out _ _ ?_ (fun hHeld => ?_)
            · (repeat' apply And.intro) <;> (repeat (first | with_reducible assumption | with_reducible refine keepset ?_ (by dsimp only; omega) | with_reducible refine keepdrew ?_ | with_reducible refine keepcell (by with_reducible assumption) ?_ | with_reducible refine keepalloc ?_ _))
            clear hK K
            try simp only [sq]
            clear hcl
            refine wpAnyH_ready (rs := [14]) (by kernel_rfl) (by simp) ?_
            refine (AllReadyH.cons rfl (fun K hK => ?_) AllReadyH.nil)
            try simp only [sq]
            go_simp
            go_at_call 65
            refine (N2.out _ hB).mono ?_
            rintro e z2 ⟨rfl, hcl⟩
            replace hc1 := keepcell hcl hc1
            replace hc2 := keepcell hcl hc2
            replace g2 := keepheap hcl g2
            replace HT := hid (HT.out.kept (grown_all hcl none) (by simp))
            replace HL := hid (own_below HL.out hcl)
            replace hB := btrans hB hcl
            go_wp2_with fail
            refine hK.out _ _ ?_ (fun hHeld => ?_)
            · (repeat' apply And.intro) <;> (repeat (first | with_reducible assumption | with_reducible refine keepset ?_ (by dsimp only; omega) | with_reducible refine keepdrew ?_ | with_reducible refine keepcell (by with_reducible assumption) ?_ | with_reducible refine keepalloc ?_ _))
            clear hK K
            try simp only [sq]
            clear hcl
            obtain ⟨k0, k0'⟩ := HL.out.2.2 (j * 2) (by omega)
            obtain ⟨k1, k1'⟩ := HL.out.2.2 (j * 2 + 1) (by omega)
            obtain ⟨v0, hv0⟩ := Option.isSome_iff_exists.1 k0
            obtain ⟨v1, hv1⟩ := Option.isSome_iff_exists.1 k1
            simp only [Nat.zero_add, ← Nat.add_assoc] at hv0 hv1 k0' k1'
            clear k0 k1
            refine wpAnyH_take (i := 15) (v := ?_) rfl (by kernel_rfl) (by kernel_rfl) (by kernel_rfl) (fun _ _ _ h => h) (Or.inl ⟨by rfl, ?_⟩) hHeld ?_
            rotate_left
            · intro w hSw; (try dsimp only at hSw); go_simp; try (with_reducible rfl)
            try simp only [sq]
            refine wpAnyH_take (i := 16) (v := ?_) rfl (by kernel_rfl) (by kernel_rfl) (by kernel_rfl) (fun _ _ _ h => h) (Or.inl ⟨by rfl, ?_⟩) hHeld ?_
            rotate_left
            · intro w hSw; (try dsimp only at hSw); go_simp; try (with_reducible rfl)
            try simp only [sq]
            refine wpAnyH_ready (rs := [17]) (by kernel_rfl) (by simp) ?_
            refine (AllReadyH.cons rfl (fun K hK => ?_) AllReadyH.nil)
            try simp only [sq]
            go_simp
            refine hK.out _ _ ?_ (fun hHeld => ?_)
            · (repeat' apply And.intro) <;> (repeat (first | with_reducible assumption | with_reducible refine keepset ?_ (by dsimp only; omega) | with_reducible refine keepdrew ?_ | with_reducible refine keepcell (by with_reducible assumption) ?_ | with_reducible refine keepalloc ?_ _))
            clear hK K
            try simp only [sq]
            refine wpAnyH_done (by kernel_rfl) ?_ _
            go_wp2_with fail
            go_roundw
            case rel =>
              have hln := HLn.out
              have hput := put_next (w := z2) (b := BL) (n := np) (l := l) HL.out (by omega) (riN x1) (riN x2)
              rw [hln] at hput
              refine ⟨j + 1, l ++ [(riN x1, riN x2)], by go_num, by omega, hid (by simp <;> omega), HRS, hid (texts_set (texts_set HT.out (by omega)) (by omega)), hid (set_far (set_far g2 (by omega)) (by omega)), hid hput, hid (bset (bset hB (by omega) _) (by omega) _)⟩
            case measure => simp [intOf]; omega
          · obtain rfl : np = j := by omega
            have hR : rdp (ws.drop 1) = some l := by
              rw [HR.out, List.drop_of_length_le (by rw [HNL.out]; omega)]
              simp [rdp]
            have hlen := HLn.out
            have hpt := PtsOwn.pts (w := wr) (b := BL) (ps := l) ⟨HL.out.1, HL.out.2.1, by rw [hlen]; exact HL.out.2.2⟩
            cases hk : shok (m : Int) l
            · have HN := hid (show rso ws = none by rw [HO.out, hR]; simp [hk])
              have HA := hid (right_no wr m (some ⟨BL, 0, none⟩) l.length l (by omega) (Nat.le_refl _) hpt hk)
              rw [hlen] at HA
              clear hk hR hlen hpt
              go_wp2_with fail
              refine HA.out.mono ?_
              rintro e z1 ⟨⟨t, rfl⟩, hg⟩
              go_wp2_with fail
              exact ⟨rfl, sot_refused HN.out ⟨_, rfl⟩ (btrans HBW.out hg)⟩
            · have HN := hid (show rso ws = some ((m : Int), l) by rw [HO.out, hR]; simp [hk])
              have HA := hid (right_ok wr m (some ⟨BL, 0, none⟩) l.length l (by omega) (Nat.le_refl _) hpt hk)
              unfold shv at HA
              rw [hlen] at HA
              have hown : PtsOwn wr BL l := ⟨HL.out.1, HL.out.2.1, by rw [hlen]; exact HL.out.2.2⟩
              clear hk hR hlen hpt
              go_wp2_with fail
              refine HA.out.mono ?_
              rintro e z1 ⟨rfl, hg⟩
              have g2 := keepheap hg G2.out
              have hB := btrans HBW.out hg
              replace hown := hown.below hg
              clear hg
              obtain ⟨y0, y1, y2, y3⟩ := cell2g g2
              go_wp2_with fail
              have gF := (set2 g2 (.int .i64 m) (.slice (some ⟨BL, 0, none⟩) np np)).1
              have bF := bset (bset hB (q := w.heap.size) (k := 0) (by omega) (.int .i64 m)) (q := w.heap.size) (k := 1) (by omega) (.slice (some ⟨BL, 0, none⟩) np np)
              have oF := own_setr2 (k := 0) (k' := 1) (u := .int .i64 m) (u' := .slice (some ⟨BL, 0, none⟩) np np) hown (q := w.heap.size) (by omega)
              generalize (z1.setCell ⟨w.heap.size, 0, none⟩ (.int .i64 m)).setCell ⟨w.heap.size, 1, none⟩ (.slice (some ⟨BL, 0, none⟩) np np) = wf at *
              obtain ⟨q0, q1, _, _⟩ := cell2g gF
              exact bodyPost_ret (v := .agg #[(.int .i64 m), (.slice (some ⟨BL, 0, none⟩) np np)]) (by simp [results, Tryz.results39, go_sem, q0, q1]) rfl (sot_yes HN.out HLn.out bF (by omega) oF)
end Go.Proofs.YtjafahhoihlliaaGreatDoor
namespace Go.Proofs.YtjafahhoihlliaaGreatDoor
open Go.RowKit
set_option linter.unusedVariables false
theorem texts_setS {w : World} {g cap q k : Nat} {u : Value} {l : List ByteArray} (h : Texts w g cap l) (hne : q ≠ g) : Texts (w.setCell ⟨q, k, none⟩ u) g cap l := h.kept (grown_set w q k u) (by simpa using hne)
theorem set2_0s {w : World} {p : Nat} {x y u : Value} {t : TypeId} (h : w.heap[p]? = some (.cells #[x, y] t (0, 0))) : (w.setCell ⟨p, 0, none⟩ u).heap[p]? = some (.cells #[u, y] t (0, 0)) := by
  have hlt := lt_of_block h
  have h' : w.heap[p] = .cells #[x, y] t (0, 0) := by simpa [Array.getElem?_eq_getElem hlt] using h
  show (w.heap.modify p _)[p]? = _
  rw [Array.getElem?_eq_getElem (by simpa using hlt), Array.getElem_modify_self, h']
  rfl
/-- The kind that the first i words of the kinds tell. -/
def kdi (x : ByteArray) (i : Nat) : Int := match kdr x with | none => -1 | some m => if m < i then (m : Int) else -1
theorem kdi_hit {x : ByteArray} {i : Nat} (h : kdr x = some i) : kdi x (i + 1) = (i : Int) := by unfold kdi; rw [h]; simp
theorem kdi_miss {x : ByteArray} {i : Nat} (h : kdr x ≠ some i) : kdi x (i + 1) = kdi x i := by
  unfold kdi
  split
  · rfl
  · rename_i m hm
    have : m ≠ i := fun e => h (by rw [hm, e])
    by_cases hl : m < i
    · rw [if_pos (by omega), if_pos hl]
    · rw [if_neg (by omega), if_neg hl]
theorem names_cell (w : World) (i : Nat) (h : i ≤ 3) : (w.alloc (.cells #[.string (kwr 0), .string (kwr 1), .string (kwr 2), .string (kwr 3)] 9)).cell? ⟨w.heap.size, i, none⟩ = some (.string (kwr i)) := by
  rw [World.cell?_alloc_at _ _ _ _ rfl]
  obtain rfl | rfl | rfl | rfl : i = 0 ∨ i = 1 ∨ i = 2 ∨ i = 3 := by omega
  all_goals rfl
theorem drop2s {ws : List ByteArray} {i : Nat} (h : i + 1 < ws.length) : ws.drop i = ws[i] :: ws[i + 1] :: ws.drop (i + 2) := by
  rw [List.drop_eq_getElem_cons (by omega), List.drop_eq_getElem_cons h]
theorem rso_odd {ws : List ByteArray} (h : ws.length % 2 = 0) (h0 : 0 < ws.length) : rso ws = none := by
  unfold rso
  split
  · rfl
  · cases hr : rdp (ws.drop 1) with
    | none => rfl
    | some l =>
      have := rdp_len _ _ l (Nat.le_refl _) hr
      rw [List.length_drop] at this; omega
theorem rso_long {ws : List ByteArray} (h : 121 < ws.length) : rso ws = none := by
  unfold rso
  split
  · rfl
  · cases hr : rdp (ws.drop 1) with
    | none => rfl
    | some l =>
      have := rdp_len _ _ l (Nat.le_refl _) hr
      rw [List.length_drop] at this
      simp only
      split
      · rename_i hk
        have := kind_natr hk
        omega
      · rfl
theorem rso_rdp {ws : List ByteArray} (h : rdp (ws.drop 1) = none) : rso ws = none := by
  unfold rso
  rw [h]
  split <;> rfl
theorem rso_kd {ws : List ByteArray} {l : List (Int × Int)} {x : ByteArray} (hx : x = ws.getD 0 ⟨#[]⟩) (h : rdp (ws.drop 1) = some l) : rso ws = if shok (kdi x 4) l = true then some (kdi x 4, l) else none := by
  unfold rso kdi
  rw [h, ← hx]
  cases hk : kdr x with
  | none =>
    simp only
    rw [if_neg]
    intro hs
    have := (kind_natr hs).1
    omega
  | some m =>
    have := kdr_le hk
    have h4 : (if m < 4 then (m : Int) else -1) = (m : Int) := if_pos (by omega)
    simp only
    rw [h4]
theorem rsa_row {w w' : World} {B : Nat} {o : Option (Int × List (Int × Int))} {k : Int} {l : List (Int × Int)} {ao : Option Addr} {n cap : Nat} (h : o = some (k, l)) (hb : Below w.heap.size w w') (hr : PtRow w' B (.slice ao n cap) l) (hB : w.heap.size ≤ B) (h0 : 0 < l.length) : RSA w o (.returned (.tuple #[.agg #[.int .i64 k, .slice ao n cap], .bool true])) w' := by
  subst h
  obtain ⟨g, c, e, hg, hc, hp⟩ := hr.ownG h0
  injection e with e1 e2 e3
  subst e1 e2 e3
  exact ⟨some ⟨g, 0, none⟩, cap, rfl, hc, .inr ⟨g, rfl, hp⟩, fun b off h => by injection h with h; injection h with h1; omega, hb⟩
set_option maxRecDepth 100000 in
set_option maxHeartbeats 4000000 in
theorem spec_l03Read (ws : List ByteArray) (g cap n : Nat) (w : World) (hn : ws.length = n) (hw0 : 0 < n) (hw1 : n ≤ 1048577) (hsz : ∀ x ∈ ws, x.size ≤ 1048576) (hT : Texts w g cap ws) : Calls Tryz.prog 44 #[.slice (some ⟨g, 0, none⟩) n cap] w fun e w' => RSA w (rso ws) e w' := by
  have HNL := hid hn
  have HSZ := hid hsz
  have HT := hid hT
  have hgl := hT.lt
  clear hT hsz hn
  obtain ⟨x, hx⟩ : ∃ x, x = ws.getD 0 ⟨#[]⟩ := ⟨_, rfl⟩
  have HX := hid hx
  clear hx
  have hni : (0 : Int) < (n : Int) := by omega
  go_enter Tryz.func44, Tryz.ntmps44
  go_wp2_with fail
  have hb0 : Below w.heap.size w ((w.alloc (.cells #[.int .i64 0, .slice none 0 0] 26)).alloc (.cells #[.int .i64 (-1), .slice none 0 0] 26)) := balloc (balloc (Below.refl _ _) _) _
  have g2 := old_alloc (o' := (.cells #[.int .i64 (-1), .slice none 0 0] 26)) (new_alloc w w.heap.size (.cells #[.int .i64 0, .slice none 0 0] 26) rfl)
  have g4 := new_alloc (w.alloc (.cells #[.int .i64 0, .slice none 0 0] 26)) (w.heap.size + 1) (.cells #[.int .i64 (-1), .slice none 0 0] 26) (by simp)
  replace HT := hid (HT.out.kept (grown_all hb0 none) (by simp))
  have hB := hb0
  generalize ((w.alloc (.cells #[.int .i64 0, .slice none 0 0] 26)).alloc (.cells #[.int .i64 (-1), .slice none 0 0] 26)) = W at *
  clear hb0
  go_loopw [5] (fun ti wr => ∃ i : Nat, ti = .int .i64 i ∧ i ≤ 4 ∧ Hid (Texts wr g cap ws) ∧ Hid (wr.heap[w.heap.size]? = some (.cells #[.int .i64 0, .slice none 0 0] 26 (0, 0))) ∧ Hid (wr.heap[w.heap.size + 1]? = some (.cells #[.int .i64 (kdi x i), .slice none 0 0] 26 (0, 0))) ∧ Hid (Below w.heap.size w wr)) (fun ti _ => 4 - (intOf ti).toNat)
  case atStart => exact ⟨0, rfl, Nat.zero_le _, HT, hid g2, hid (by rw [show kdi x 0 = -1 by unfold kdi; split <;> simp]; exact g4), hid hB⟩
  case round =>
    clear HT g2 g4 hB
    obtain ⟨i, rfl, hi, HT, G2, G4, HBW⟩ := hrel
    by_cases hlt : i < 4
    · have c1 : (i : Int) < 4 := by omega
      have hc0 : wr.cell? ⟨g, 0, none⟩ = some (.string x) := by
        have h0 : 0 < ws.length := by rw [HNL.out]; exact hw0
        rw [HX.out, List.getD_eq_getElem?_getD, List.getElem?_eq_getElem h0]; exact HT.out.cell 0 h0
      by_cases hk : kdr x = some i
      · have q0 := kw_same (x := x) (m := i) (by omega) hk
        go_wp2_with fail
        refine wp_region_held_drew (S := (fun w' => w'.cell? ⟨g, 0, none⟩ = some (.string x))) (by kernel_rfl) ?_ (fun hHeld => ?_)
        · exact hc0
        have g2 := G2.out
        have g4 := G4.out
        have hB := HBW.out
        replace g2 : wr.drew.heap[w.heap.size]? = some (.cells #[.int .i64 0, .slice none 0 0] 26 (0, 0)) := g2
        replace g4 : wr.drew.heap[w.heap.size + 1]? = some (.cells #[.int .i64 (kdi x i), .slice none 0 0] 26 (0, 0)) := g4
        replace HT : Hid (Texts wr.drew g cap ws) := hid (HT.out.kept (grown_drew (grown_same wr none) 1) (by simp))
        replace hB := bdrew hB
        replace hc0 : wr.drew.cell? ⟨g, 0, none⟩ = some (.string x) := hc0
        clear G2 G4 HBW
        generalize wr.drew = z0 at *
        refine wpAnyH_take (i := 1) (v := ?_) rfl (by kernel_rfl) (by kernel_rfl) (by kernel_rfl) (fun _ _ _ h => h) (Or.inl ⟨by rfl, ?_⟩) hHeld ?_
        rotate_left
        · intro w hSw; (try dsimp only at hSw); go_simp; try (with_reducible rfl)
        try simp only [sq]
        refine wpAnyH_take (i := 4) (v := ?_) rfl (by kernel_rfl) (by kernel_rfl) (by kernel_rfl) (fun _ _ _ h => h) (Or.inl ⟨by rfl, ?_⟩) hHeld ?_
        rotate_left
        · intro w hSw; (try dsimp only at hSw); go_simp; try (with_reducible rfl)
        try simp only [sq]
        refine wpAnyH_take (i := 5) (v := ?_) rfl (by kernel_rfl) (by kernel_rfl) (by kernel_rfl) (fun _ _ _ h => h) (Or.inl ⟨by rfl, ?_⟩) hHeld ?_
        rotate_left
        · intro w hSw; (try dsimp only at hSw); go_simp; try (with_reducible rfl)
        try simp only [sq]
        refine wpAnyH_take (i := 6) (v := ?_) rfl (by kernel_rfl) (by kernel_rfl) (by kernel_rfl) (fun _ _ _ h => h) (Or.inl ⟨by rfl, ?_⟩) hHeld ?_
        rotate_left
        · intro w hSw; (try dsimp only at hSw); go_simp; try (with_reducible rfl)
        try simp only [sq]
        refine wpAnyH_ready (rs := [0]) (by kernel_rfl) (by simp) ?_
        refine (AllReadyH.cons rfl (fun K hK => ?_) AllReadyH.nil)
        try simp only [sq]
        go_simp
        go_at_call 29
        refine (names_r _).mono ?_
        rintro e z1 ⟨rfl, hw⟩
        have hnm := names_cell z0 i (by omega)
        rw [← hw] at hnm
        have hb9 : Below z0.heap.size z0 z1 := by rw [hw]; exact balloc (Below.refl _ _) _
        clear hw
        replace hc0 := keepcell hb9 hc0
        replace g2 := keepheap hb9 g2
        replace g4 := keepheap hb9 g4
        replace HT := hid (HT.out.kept (grown_all hb9 none) (by simp))
        replace hB := btrans hB hb9
        have hl0 : z0.heap.size < z1.heap.size := World.block_lt_of_cell? z1 _ hnm
        go_wp2_with fail
        refine hK.out _ _ ?_ (fun hHeld => ?_)
        · (repeat' apply And.intro) <;> (repeat (first | with_reducible assumption | with_reducible refine keepset ?_ (by dsimp only; omega) | with_reducible refine keepdrew ?_ | with_reducible refine keepcell (by with_reducible assumption) ?_ | with_reducible refine keepalloc ?_ _))
        clear hK K
        try simp only [sq]
        clear hb9
        refine wpAnyH_take (i := 2) (v := ?_) rfl (by kernel_rfl) (by kernel_rfl) (by kernel_rfl) (fun _ _ _ h => h) (Or.inl ⟨by rfl, ?_⟩) hHeld ?_
        rotate_left
        · intro w hSw; (try dsimp only at hSw); go_simp; try (with_reducible rfl)
        try simp only [sq]
        refine wpAnyH_ready (rs := [3]) (by kernel_rfl) (by simp) ?_
        refine (AllReadyH.cons rfl (fun K hK => ?_) AllReadyH.nil)
        try simp only [sq]
        go_simp
        refine hK.out _ _ ?_ (fun hHeld => ?_)
        · (repeat' apply And.intro) <;> (repeat (first | with_reducible assumption | with_reducible refine keepset ?_ (by dsimp only; omega) | with_reducible refine keepdrew ?_ | with_reducible refine keepcell (by with_reducible assumption) ?_ | with_reducible refine keepalloc ?_ _))
        clear hK K
        try simp only [sq]
        refine wpAnyH_take (i := 7) (v := ?_) rfl (by kernel_rfl) (by kernel_rfl) (by kernel_rfl) (fun _ _ _ h => h) (Or.inl ⟨by rfl, ?_⟩) hHeld ?_
        rotate_left
        · intro w hSw; (try dsimp only at hSw); go_simp; try (with_reducible rfl)
        try simp only [sq]
        refine wpAnyH_done (by kernel_rfl) ?_ _
        obtain ⟨u0', u1', u2', u3'⟩ := cell2g g4
        go_wp2_with fail
        go_roundw
        case rel => exact ⟨i + 1, by go_num, by omega, hid (texts_setS HT.out (by omega)), hid (set_far g2 (by omega)), hid (by rw [kdi_hit hk]; exact set2_0s g4), hid (bset hB (by omega) _)⟩
        case measure => simp [intOf]; omega
      · have q0 := kw_other (x := x) (m := i) (by omega) hk
        go_wp2_with fail
        refine wp_region_held_drew (S := (fun w' => w'.cell? ⟨g, 0, none⟩ = some (.string x))) (by kernel_rfl) ?_ (fun hHeld => ?_)
        · exact hc0
        have g2 := G2.out
        have g4 := G4.out
        have hB := HBW.out
        replace g2 : wr.drew.heap[w.heap.size]? = some (.cells #[.int .i64 0, .slice none 0 0] 26 (0, 0)) := g2
        replace g4 : wr.drew.heap[w.heap.size + 1]? = some (.cells #[.int .i64 (kdi x i), .slice none 0 0] 26 (0, 0)) := g4
        replace HT : Hid (Texts wr.drew g cap ws) := hid (HT.out.kept (grown_drew (grown_same wr none) 1) (by simp))
        replace hB := bdrew hB
        replace hc0 : wr.drew.cell? ⟨g, 0, none⟩ = some (.string x) := hc0
        clear G2 G4 HBW
        generalize wr.drew = z0 at *
        refine wpAnyH_take (i := 1) (v := ?_) rfl (by kernel_rfl) (by kernel_rfl) (by kernel_rfl) (fun _ _ _ h => h) (Or.inl ⟨by rfl, ?_⟩) hHeld ?_
        rotate_left
        · intro w hSw; (try dsimp only at hSw); go_simp; try (with_reducible rfl)
        try simp only [sq]
        refine wpAnyH_take (i := 4) (v := ?_) rfl (by kernel_rfl) (by kernel_rfl) (by kernel_rfl) (fun _ _ _ h => h) (Or.inl ⟨by rfl, ?_⟩) hHeld ?_
        rotate_left
        · intro w hSw; (try dsimp only at hSw); go_simp; try (with_reducible rfl)
        try simp only [sq]
        refine wpAnyH_take (i := 5) (v := ?_) rfl (by kernel_rfl) (by kernel_rfl) (by kernel_rfl) (fun _ _ _ h => h) (Or.inl ⟨by rfl, ?_⟩) hHeld ?_
        rotate_left
        · intro w hSw; (try dsimp only at hSw); go_simp; try (with_reducible rfl)
        try simp only [sq]
        refine wpAnyH_take (i := 6) (v := ?_) rfl (by kernel_rfl) (by kernel_rfl) (by kernel_rfl) (fun _ _ _ h => h) (Or.inl ⟨by rfl, ?_⟩) hHeld ?_
        rotate_left
        · intro w hSw; (try dsimp only at hSw); go_simp; try (with_reducible rfl)
        try simp only [sq]
        refine wpAnyH_ready (rs := [0]) (by kernel_rfl) (by simp) ?_
        refine (AllReadyH.cons rfl (fun K hK => ?_) AllReadyH.nil)
        try simp only [sq]
        go_simp
        go_at_call 29
        refine (names_r _).mono ?_
        rintro e z1 ⟨rfl, hw⟩
        have hnm := names_cell z0 i (by omega)
        rw [← hw] at hnm
        have hb9 : Below z0.heap.size z0 z1 := by rw [hw]; exact balloc (Below.refl _ _) _
        clear hw
        replace hc0 := keepcell hb9 hc0
        replace g2 := keepheap hb9 g2
        replace g4 := keepheap hb9 g4
        replace HT := hid (HT.out.kept (grown_all hb9 none) (by simp))
        replace hB := btrans hB hb9
        have hl0 : z0.heap.size < z1.heap.size := World.block_lt_of_cell? z1 _ hnm
        go_wp2_with fail
        refine hK.out _ _ ?_ (fun hHeld => ?_)
        · (repeat' apply And.intro) <;> (repeat (first | with_reducible assumption | with_reducible refine keepset ?_ (by dsimp only; omega) | with_reducible refine keepdrew ?_ | with_reducible refine keepcell (by with_reducible assumption) ?_ | with_reducible refine keepalloc ?_ _))
        clear hK K
        try simp only [sq]
        clear hb9
        refine wpAnyH_take (i := 2) (v := ?_) rfl (by kernel_rfl) (by kernel_rfl) (by kernel_rfl) (fun _ _ _ h => h) (Or.inl ⟨by rfl, ?_⟩) hHeld ?_
        rotate_left
        · intro w hSw; (try dsimp only at hSw); go_simp; try (with_reducible rfl)
        try simp only [sq]
        refine wpAnyH_ready (rs := [3]) (by kernel_rfl) (by simp) ?_
        refine (AllReadyH.cons rfl (fun K hK => ?_) AllReadyH.nil)
        try simp only [sq]
        go_simp
        refine hK.out _ _ ?_ (fun hHeld => ?_)
        · (repeat' apply And.intro) <;> (repeat (first | with_reducible assumption | with_reducible refine keepset ?_ (by dsimp only; omega) | with_reducible refine keepdrew ?_ | with_reducible refine keepcell (by with_reducible assumption) ?_ | with_reducible refine keepalloc ?_ _))
        clear hK K
        try simp only [sq]
        refine wpAnyH_take (i := 7) (v := ?_) rfl (by kernel_rfl) (by kernel_rfl) (by kernel_rfl) (fun _ _ _ h => h) (Or.inl ⟨by rfl, ?_⟩) hHeld ?_
        rotate_left
        · intro w hSw; (try dsimp only at hSw); go_simp; try (with_reducible rfl)
        try simp only [sq]
        refine wpAnyH_done (by kernel_rfl) ?_ _
        go_wp2_with fail
        go_roundw
        case rel => exact ⟨i + 1, by go_num, by omega, HT, hid g2, hid (by rw [kdi_miss hk]; exact g4), hid hB⟩
        case measure => simp [intOf]; omega
    · have c1' : ¬ (i : Int) < 4 := by omega
      have hk4 : kdi x i = kdi x 4 := by rw [show i = 4 by omega]
      rw [hk4] at G4
      clear hk4
      by_cases hev : n % 2 = 0
      · have HN := hid (rso_odd (ws := ws) (by rw [HNL.out]; exact hev) (by rw [HNL.out]; exact hw0))
        have ho : ((n : Int).tmod 2 == 0) = true := by
          rw [show (n : Int).tmod 2 = ((n % 2 : Nat) : Int) from rfl, hev]; rfl
        have k2 := G2.out
        have hB := HBW.out
        obtain ⟨y0, y1, y2, y3⟩ := cell2g k2
        go_wp2_with fail
        have gF := (set2 k2 (.int .i64 0) (.slice none 0 0)).1
        have bF := bset (bset hB (q := w.heap.size) (k := 0) (by omega) (.int .i64 0)) (q := w.heap.size) (k := 1) (by omega) (.slice none 0 0)
        generalize (wr.setCell ⟨w.heap.size, 0, none⟩ (.int .i64 0)).setCell ⟨w.heap.size, 1, none⟩ (.slice none 0 0) = wf at *
        obtain ⟨z0, z1, _, _⟩ := cell2g gF
        exact bodyPost_ret (v := .tuple #[.agg #[(.int .i64 0), (.slice none 0 0)], .bool false]) (by simp [results, Tryz.results44, go_sem, z0, z1]) rfl (rsa_no HN.out bF)
      have ho : ((n : Int).tmod 2 == 0) = false := by
        rw [show (n : Int).tmod 2 = ((n % 2 : Nat) : Int) from rfl, show n % 2 = 1 by omega]; rfl
      by_cases hlong : 121 < n
      · have HN := hid (rso_long (ws := ws) (by rw [HNL.out]; exact hlong))
        have hl' : (121 : Int) < (n : Int) := by omega
        have ho2 : ((n : Int) % 2 == 0) = false := by rw [beq_eq_false_iff_ne]; omega
        have k2 := G2.out
        have hB := HBW.out
        obtain ⟨y0, y1, y2, y3⟩ := cell2g k2
        go_wp2_with fail
        have gF := (set2 k2 (.int .i64 0) (.slice none 0 0)).1
        have bF := bset (bset hB (q := w.heap.size) (k := 0) (by omega) (.int .i64 0)) (q := w.heap.size) (k := 1) (by omega) (.slice none 0 0)
        generalize (wr.setCell ⟨w.heap.size, 0, none⟩ (.int .i64 0)).setCell ⟨w.heap.size, 1, none⟩ (.slice none 0 0) = wf at *
        obtain ⟨z0, z1, _, _⟩ := cell2g gF
        exact bodyPost_ret (v := .tuple #[.agg #[(.int .i64 0), (.slice none 0 0)], .bool false]) (by simp [results, Tryz.results44, go_sem, z0, z1]) rfl (rsa_no HN.out bF)
      have hl' : (n : Int) ≤ 121 := by omega
      have ho2 : ((n : Int) % 2 == 0) = false := by rw [beq_eq_false_iff_ne]; omega
      have hdec : decide ((121 : Int) < (n : Int)) = false := by rw [decide_eq_false_iff_not]; omega
      obtain ⟨np, hnp1, hnp2⟩ : ∃ np, n ≤ 2 * np + 1 ∧ 2 * np + 1 ≤ n := ⟨n / 2, by omega, by omega⟩
      have g2 := G2.out
      have g4 := G4.out
      have hB := HBW.out
      have hV : w.heap.size + 1 < wr.heap.size := lt_of_block g4
      have HO := hid (fun l => rso_kd (ws := ws) (l := l) HX.out)
      generalize kdi x 4 = kd at *
      clear G2 G4 HBW
      go_wp2_with fail
      clear ho ho2 hdec
      have hV0 : wr.heap.size ≤ wr.heap.size := Nat.le_refl _
      obtain ⟨B0, hB0⟩ : ∃ B0, B0 = wr.heap.size := ⟨_, rfl⟩
      rw [← hB0] at hV
      have HLW : Hid (B0 ≤ wr.heap.size ∧ PtRow wr B0 (.slice none 0 0) []) := hid ⟨by omega, ptrow_nilg _ _⟩
      clear hB0 hV0
      obtain ⟨i0, hi0, hz0, hz1, hz2⟩ := info_parts Tryz.infoP2
      go_loopw [6] (fun ti wq => ∃ j : Nat, ∃ v : Value, ∃ l : List (Int × Int), ti = .int .i64 ((2 * j + 1 : Nat) : Int) ∧ j ≤ np ∧ Hid (l.length = j) ∧ Hid (rdp (ws.drop 1) = (rdp (ws.drop (2 * j + 1))).map (fun r => l ++ r)) ∧ Hid (Texts wq g cap ws) ∧ Hid (wq.heap[w.heap.size]? = some (.cells #[.int .i64 0, .slice none 0 0] 26 (0, 0))) ∧ Hid (wq.heap[w.heap.size + 1]? = some (.cells #[.int .i64 kd, v] 26 (0, 0))) ∧ Hid (B0 ≤ wq.heap.size ∧ PtRow wq B0 v l) ∧ Hid (Below w.heap.size w wq)) (fun ti _ => 2 * np + 1 - (intOf ti).toNat)
      case atStart => exact ⟨0, _, [], rfl, Nat.zero_le _, hid rfl, hid (by simp), HT, hid g2, hid g4, HLW, hid hB⟩
      case round =>
        clear HT g2 g4 hB HLW
        obtain ⟨j, v, l, rfl, hj, HLn, HR, HT, G2, G4, HL, HBW⟩ := hrel
        by_cases hlt : j < np
        · have c1 : ((2 * j + 1 : Nat) : Int) < (n : Int) := by omega
          have c2 : ((2 * j + 1 : Nat) : Int) + 1 < (n : Int) := by omega
          have hi1 : 2 * j + 1 < ws.length := by rw [HNL.out]; omega
          have hi2 : 2 * j + 1 + 1 < ws.length := by rw [HNL.out]; omega
          have hc1 := HT.out.cell (2 * j + 1) hi1
          have hc2 := HT.out.cell (2 * j + 1 + 1) hi2
          have hz1' := HSZ.out _ (List.getElem_mem hi1)
          have hz2' := HSZ.out _ (List.getElem_mem hi2)
          have hdr : rdp (ws.drop 1) = (rdp (ws[2 * j + 1] :: ws[2 * j + 1 + 1] :: ws.drop (2 * (j + 1) + 1))).map (fun r => l ++ r) := by
            rw [HR.out, drop2s hi2]
            rfl
          generalize ws[2 * j + 1] = x1 at *
          generalize ws[2 * j + 1 + 1] = x2 at *
          have R1 := hid (fun w => spec_ri x1 hz1' w)
          have R2 := hid (fun w => spec_ri x2 hz2' w)
          have HDR := hid hdr
          clear hdr HR hi1 hi2 hz1' hz2'
          have hgl2 := HT.out.lt
          cases hb : (riB x1 && riB x2)
          · have HN := hid (rso_rdp (ws := ws) (by
              rw [HDR.out, rdp_no (by cases h1 : riB x1 <;> cases h2 : riB x2 <;> simp_all)]; rfl))
            have k2 := G2.out
            have hB := HBW.out
            obtain ⟨y0, y1, y2, y3⟩ := cell2g k2
            generalize riN x1 = a1 at *
            generalize riN x2 = a2 at *
            generalize riB x1 = b1 at *
            generalize riB x2 = b2 at *
            obtain ⟨rfl⟩ | ⟨rfl, rfl⟩ : b1 = false ∨ (b1 = true ∧ b2 = false) := by cases b1 <;> cases b2 <;> simp_all
            · go_wp2_with fail
              refine (R1.out _).mono ?_
              rintro e V1 ⟨rfl, hw⟩
              replace hw := hw.symm
              subst hw
              go_wp2_with fail
              refine (R2.out _).mono ?_
              rintro e V1 ⟨rfl, hw⟩
              replace hw := hw.symm
              subst hw
              go_wp2_with fail
              have gF := (set2 k2 (.int .i64 0) (.slice none 0 0)).1
              have bF := bset (bset hB (q := w.heap.size) (k := 0) (by omega) (.int .i64 0)) (q := w.heap.size) (k := 1) (by omega) (.slice none 0 0)
              generalize (wr.setCell ⟨w.heap.size, 0, none⟩ (.int .i64 0)).setCell ⟨w.heap.size, 1, none⟩ (.slice none 0 0) = wf at *
              obtain ⟨z0, z1, _, _⟩ := cell2g gF
              exact bodyPost_ret (v := .tuple #[.agg #[(.int .i64 0), (.slice none 0 0)], .bool false]) (by simp [results, Tryz.results44, go_sem, z0, z1]) rfl (rsa_no HN.out bF)
            · go_wp2_with fail
              refine (R1.out _).mono ?_
              rintro e V1 ⟨rfl, hw⟩
              replace hw := hw.symm
              subst hw
              go_wp2_with fail
              refine (R2.out _).mono ?_
              rintro e V1 ⟨rfl, hw⟩
              replace hw := hw.symm
              subst hw
              go_wp2_with fail
              have gF := (set2 k2 (.int .i64 0) (.slice none 0 0)).1
              have bF := bset (bset hB (q := w.heap.size) (k := 0) (by omega) (.int .i64 0)) (q := w.heap.size) (k := 1) (by omega) (.slice none 0 0)
              generalize (wr.setCell ⟨w.heap.size, 0, none⟩ (.int .i64 0)).setCell ⟨w.heap.size, 1, none⟩ (.slice none 0 0) = wf at *
              obtain ⟨z0, z1, _, _⟩ := cell2g gF
              exact bodyPost_ret (v := .tuple #[.agg #[(.int .i64 0), (.slice none 0 0)], .bool false]) (by simp [results, Tryz.results44, go_sem, z0, z1]) rfl (rsa_no HN.out bF)
          · simp only [Bool.and_eq_true] at hb
            have hr2 : rdp (ws.drop 1) = (rdp (ws.drop (2 * (j + 1) + 1))).map (fun r => (l ++ [(riN x1, riN x2)]) ++ r) := by
              rw [HDR.out, rdp_step hb.1 hb.2]
              cases rdp (ws.drop (2 * (j + 1) + 1)) with
              | none => rfl
              | some r => simp
            have HR2 := hid hr2
            rw [hb.1] at R1
            rw [hb.2] at R2
            generalize riN x1 = a1 at *
            generalize riN x2 = a2 at *
            clear hr2 HDR hb
            have k2 := G2.out
            have k4 := G4.out
            have hB := HBW.out
            have hrow := HL.out.2
            have hsz := HL.out.1
            have hown := hrow
            unfold PtRow at hown
            have hll := HLn.out
            have hv4 : some (w.heap.size + 1) ≠ v.ownBlock := fun e => absurd (hown.lt _ e.symm).1 (by omega)
            have hv2 : some w.heap.size ≠ v.ownBlock := fun e => absurd (hown.lt _ e.symm).1 (by omega)
            have hvg : some g ≠ v.ownBlock := fun e => absurd (hown.lt _ e.symm).1 (by omega)
            clear G2 G4 HBW HL
            obtain ⟨r80, r81, _, r8f⟩ := cell2g k4
            go_wp2_with fail
            refine (R1.out _).mono ?_
            rintro e V1 ⟨rfl, hw⟩
            replace hw := hw.symm
            subst hw
            go_wp2_with fail
            refine (R2.out _).mono ?_
            rintro e V1 ⟨rfl, hw⟩
            replace hw := hw.symm
            subst hw
            go_wp2_with (at_builtin; refine wpList_append_own _ rfl (.tmp 67) (.tmp 71) 24 rfl B0 44 i0 _ 2 16 Tryz.underlying24 hi0 hz0 hz1 hz2 rfl (by decide) _ _ _ rfl (hown.alloc _) ⟨wr.heap.size, 0, none⟩ 1 1 [.int .i64 a1, .int .i64 a2] rfl rfl (World.news_of_block (cs := #[.int .i64 a1, .int .i64 a2]) (t := 44) (fr := (0, 0)) (heap_alloc_new wr _)) (by simp [Value.oneCell']) (by unfold maxLen; omega) (by omega) (by simp; omega) ?_; intro v' w2 hown' hgrow hat; have hrow' := row_self hown'; obtain ⟨g', cap', rfl, hg', hcp', hpo⟩ := hrow'.ownG (by simp); have m4 := (hgrow.block (w.heap.size + 1) (by have := lt_of_block k4; simp; omega) hv4).trans (old_alloc k4); have m2 := (hgrow.block w.heap.size (by have := lt_of_block k2; simp; omega) hv2).trans (old_alloc k2); obtain ⟨t80, t81, t8f, t8g⟩ := cell2g m4)
            have hlt2 := lt_of_block m4
            have hgs := hgrow.size
            have hb2 : Below w.heap.size w w2 := (balloc hB _).grown hgrow (by have := lt_of_block k2; simp; omega) (fun k hk => by have := (hown.lt k hk).1; omega)
            have hrow2 := World.ownsRow.kept hrow' (grown_set w2 (w.heap.size + 1) 1 (.slice (some ⟨g', 0, none⟩) (l ++ [(a1, a2)]).length cap')) (Or.inr (by simp [Value.ownBlock]; omega))
            have e2 : (l ++ [(a1, a2)]).length = j + 1 := by rw [List.length_append, hll]; rfl
            rw [e2] at hrow2
            have hT2 : Texts w2 g cap ws := (HT.out.kept (grown_all (balloc (Below.refl _ wr) (.cells #[.int .i64 a1, .int .i64 a2] 44)) none) (by simp)).kept hgrow hvg.symm
            go_roundw
            case rel => exact ⟨j + 1, _, l ++ [(a1, a2)], by go_num, by omega, hid (by simp; exact hll), HR2, hid (texts_setS hT2 (by omega)), hid (set_far m2 (by omega)), hid (set_at m4), hid ⟨by simp at hgs ⊢; omega, by unfold PtRow; rw [e2]; exact hrow2⟩, hid (bset hb2 (by omega) _)⟩
            case measure => simp [intOf]; omega
        · obtain rfl : np = j := by omega
          have hr : rdp (ws.drop 1) = some l := by
            rw [HR.out, List.drop_of_length_le (by rw [HNL.out]; omega)]
            simp [rdp]
          have hln := HLn.out
          have c1 : (n : Int) ≤ ((2 * np + 1 : Nat) : Int) := by omega
          obtain ⟨ao, cp, rfl, hcap, hP⟩ := HL.out.2.pts
          have O1 := hid (fun w' (hw : Pts w' ao l) => spec_ShapeOk kd ao cp l w' (by omega) hcap hw)
          have k2 := G2.out
          have k4 := G4.out
          rw [hln] at O1 k4
          obtain ⟨r80, r81, _, r8f⟩ := cell2g k4
          have hso := HO.out l hr
          cases hk : shok kd l
          · have HN := hid (show rso ws = none by rw [hso, hk]; rfl)
            rw [hk] at O1
            have hB := HBW.out
            clear hr HR HO HBW hso
            go_wp2_with fail
            refine (O1.out _ hP).mono ?_
            rintro e V1 ⟨rfl, hcl⟩
            replace k2 := keepheap hcl k2
            replace hB := btrans hB hcl
            obtain ⟨y0, y1, y2, y3⟩ := cell2g k2
            go_wp2_with fail
            have gF := (set2 k2 (.int .i64 0) (.slice none 0 0)).1
            have bF := bset (bset hB (q := w.heap.size) (k := 0) (by omega) (.int .i64 0)) (q := w.heap.size) (k := 1) (by omega) (.slice none 0 0)
            generalize (V1.setCell ⟨w.heap.size, 0, none⟩ (.int .i64 0)).setCell ⟨w.heap.size, 1, none⟩ (.slice none 0 0) = wf at *
            obtain ⟨z0, z1, _, _⟩ := cell2g gF
            exact bodyPost_ret (v := .tuple #[.agg #[(.int .i64 0), (.slice none 0 0)], .bool false]) (by simp [results, Tryz.results44, go_sem, z0, z1]) rfl (rsa_no HN.out bF)
          · have HY := hid (show rso ws = some (kd, l) by rw [hso, hk]; rfl)
            rw [hk] at O1
            have hB := HBW.out
            have hrow := HL.out.2
            rw [hln] at hrow
            have hsz := HL.out.1
            have hpos := (kind_natr hk).2.1
            clear hr HR HO HBW HL G2 G4 hso
            go_wp2_with fail
            refine (O1.out _ hP).mono ?_
            rintro e V1 ⟨rfl, hcl⟩
            replace k2 := keepheap hcl k2
            replace k4 := keepheap hcl k4
            replace hB := btrans hB hcl
            replace hrow := hrow.bel hcl
            clear hcl hP r80 r81 r8f
            obtain ⟨r80, r81, _, r8f⟩ := cell2g k4
            obtain ⟨y0, y1, y2, y3⟩ := cell2g k2
            clear hln
            go_wp2_with fail
            have gF := (set2 k2 (.int .i64 kd) (.slice ao np cp)).1
            have bF := bset (bset hB (q := w.heap.size) (k := 0) (by omega) (.int .i64 kd)) (q := w.heap.size) (k := 1) (by omega) (.slice ao np cp)
            have rF := (hrow.set (q := w.heap.size) (k := 0) (u := .int .i64 kd) (by omega)).set (q := w.heap.size) (k := 1) (u := .slice ao np cp) (by omega)
            generalize (V1.setCell ⟨w.heap.size, 0, none⟩ (.int .i64 kd)).setCell ⟨w.heap.size, 1, none⟩ (.slice ao np cp) = wf at *
            obtain ⟨z0, z1, _, _⟩ := cell2g gF
            exact bodyPost_ret (v := .tuple #[.agg #[(.int .i64 kd), (.slice ao np cp)], .bool true]) (by simp [results, Tryz.results44, go_sem, z0, z1]) rfl (rsa_row HY.out bF rF (by omega) hpos)
theorem blk_farS (w : World) (q k b : Nat) (u : Value) (h : q ≠ b) : (w.setCell ⟨q, k, none⟩ u).heap[b]? = w.heap[b]? := by
  show (w.heap.modify q _)[b]? = _
  rw [Array.getElem?_modify, if_neg h]
set_option maxHeartbeats 1000000 in
theorem spec_ReadShape (s : ByteArray) (hs : s.size ≤ 1048576) (w : World) : Calls Tryz.prog 16 #[.string s] w fun e w' => RSA w (rso (rest s s.size 0 0)) e w' := by
  have HW := hid (fun w => spec_words s hs w)
  obtain ⟨hw0, hw1⟩ := rest_len s s.size 0 0
  have HSZ := hid (rest_size s s.size 0 0)
  generalize rest s s.size 0 0 = ws at *
  obtain ⟨n, hn⟩ : ∃ n, n = ws.length := ⟨_, rfl⟩
  have HNL := hid hn.symm
  rw [← hn] at HW hw0 hw1
  clear hn
  go_enter Tryz.func16, Tryz.ntmps16
  go_wp2_with fail
  have g2 := new_alloc w w.heap.size (.cells #[.int .i64 0, .slice none 0 0] 26) rfl
  have hB := balloc (Below.refl w.heap.size w) (.cells #[.int .i64 0, .slice none 0 0] 26)
  generalize w.alloc (.cells #[.int .i64 0, .slice none 0 0] 26) = W at *
  have hlW := lt_of_block g2
  refine (HW.out _).mono ?_
  rintro e W1 ⟨g, cap, rfl, hgg, hT, hcl⟩
  replace g2 := keepheap hcl g2
  replace hB := btrans hB hcl
  have hszz := hcl.size
  have HT := hid hT
  clear hcl hT
  go_wp2_with fail
  refine (spec_l03Read ws g cap n _ HNL.out hw0 (by omega) (fun x hx => Nat.le_trans (HSZ.out x hx) hs) HT.out).mono ?_
  rintro e W2 ⟨a', cap', rfl, hc', ho', hb', hcl⟩
  replace g2 := keepheap hcl g2
  replace hB := btrans hB hcl
  have HO := hid ho'
  have HB' := hid hb'
  have HSZ2 := hid hcl.size
  clear hcl ho' hb'
  obtain ⟨y0, y1, y2, y3⟩ := cell2g g2
  obtain ⟨kq, hkq⟩ : ∃ k, k = roK (rso ws) := ⟨_, rfl⟩
  rw [← hkq]
  have HKQ := hid hkq
  clear hkq
  have hP := hid (show roP (rso ws) = roP (rso ws) from rfl)
  go_wp2_with fail
  have gF := (set2 g2 (.int .i64 kq) (.slice a' (roP (rso ws)).length cap')).1
  have bF := bset (bset hB (q := w.heap.size) (k := 0) (by omega) (.int .i64 kq)) (q := w.heap.size) (k := 1) (by omega) (.slice a' (roP (rso ws)).length cap')
  have oF : OwnP ((W2.setCell ⟨w.heap.size, 0, none⟩ (.int .i64 kq)).setCell ⟨w.heap.size, 1, none⟩ (.slice a' (roP (rso ws)).length cap')) a' (roP (rso ws)) := by
    rcases HO.out with h | ⟨b, hb, h⟩
    · exact .inl h
    · have h1 := HB'.out b 0 hb
      exact .inr ⟨b, hb, PtsOwn.of_block h (by rw [blk_farS _ _ _ _ _ (by omega), blk_farS _ _ _ _ _ (by omega)]) (by simp)⟩
  generalize (W2.setCell ⟨w.heap.size, 0, none⟩ (.int .i64 kq)).setCell ⟨w.heap.size, 1, none⟩ (.slice a' (roP (rso ws)).length cap') = wf at *
  obtain ⟨z0, z1, _, _⟩ := cell2g gF
  exact bodyPost_ret (v := .tuple #[.agg #[(.int .i64 kq), (.slice a' (roP (rso ws)).length cap')], .bool (rso ws).isSome]) (by simp [results, Tryz.results16, go_sem, z0, z1]) rfl ⟨a', cap', by rw [HKQ.out], hc', oF, fun b off e => by have := HB'.out b off e; omega, bF⟩
end Go.Proofs.YtjafahhoihlliaaGreatDoor
