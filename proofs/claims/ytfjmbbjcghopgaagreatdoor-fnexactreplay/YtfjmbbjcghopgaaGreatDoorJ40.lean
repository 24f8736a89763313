/- Texts of stores, joined: Gq, Gr, Gs. -/
import Derived.Test.YtfjmbbjcghopgaaGreatDoorJ36
import Derived.Test.YtfjmbbjcghopgaaGreatDoorJ39
import Derived.Deep.RegionHeld3
import Derived.Tactics
import Derived.Tactics2
import Derived.Defers
import Derived.Recover
namespace Go.Proofs.YtfjmbbjcghopgaaGreatDoor
open Go.RowKit
set_option linter.unusedSimpArgs false
set_option linter.unusedVariables false
theorem grown_setG {w V : World} {r : Option Nat} {b k : Nat} (h : w.grownBy V r) (hb : w.heap.size ≤ b) (u : Value) : w.grownBy (V.setCell ⟨b, k, none⟩ u) r :=
  ⟨h.os, h.tape, h.output, by simpa using h.size, fun c hc hr => by rw [Below.heap_setCell _ _ _ _ (by dsimp only; omega)]; exact h.block c hc hr⟩
theorem grown_belG {w w1 w2 : World} {r : Option Nat} (h : w.grownBy w1 r) (hb : Below w1.heap.size w1 w2) : w.grownBy w2 r := grown_trans h ⟨hb.os, hb.tape, hb.output, hb.size, fun k hk _ => hb.block k hk⟩
theorem sob_some (s : ByteArray) (i : Int) (hs : s.size ≤ 1048576) (k q : Int) (l : List (Int × Int)) (h : gso s 2000000000 i = some (k, l, q)) (w : World) : Calls Tryz.prog 86 #[.string s, .int .i64 i] w fun e w' => ∃ b, e = .returned (.tuple #[.agg #[.int .i64 k, .slice (some ⟨b, 0, none⟩) l.length l.length], .int .i64 q]) ∧ w.heap.size ≤ b ∧ PtsOwn w' b l ∧ Below w.heap.size w w' := by
  refine (sob_all s i hs w).mono ?_
  rintro e w' ⟨hb, ⟨ho, _⟩ | ⟨k', l', q', b, ho, rfl, h1, h2⟩⟩
  · rw [h] at ho; cases ho
  · rw [h] at ho
    simp only [Option.some.injEq, Prod.mk.injEq] at ho
    obtain ⟨rfl, rfl, rfl⟩ := ho
    exact ⟨b, rfl, h1, h2, hb⟩
theorem sob_none (s : ByteArray) (i : Int) (hs : s.size ≤ 1048576) (h : gso s 2000000000 i = none) (w : World) : Calls Tryz.prog 86 #[.string s, .int .i64 i] w fun e w' => Refused e ∧ Below w.heap.size w w' := by
  refine (sob_all s i hs w).mono ?_
  rintro e w' ⟨hb, ⟨_, hr⟩ | ⟨k', l', q', b, ho, _⟩⟩
  · exact ⟨hr, hb⟩
  · rw [h] at ho; cases ho
set_option maxRecDepth 100000 in
set_option maxHeartbeats 4000000 in
theorem change_no1 (w : World) (R : Nat) (s : ByteArray) (i : Int) (hs : s.size ≤ 1048576) (hb : RdAt w R s i) (h1 : rd s i = none) : Calls Tryz.prog 69 #[.pointer (some ⟨R, 0, none⟩)] w fun e w' => Refused e ∧ w.grownBy w' (some R) := by
  have hRl := lt_of_block hb
  have hmx : s.size ≤ maxLen := by unfold maxLen; omega
  have r0 : RdAt (w.alloc (.cells #[.int .i64 0, .bool false, .int .i64 0, .slice none 0 0] 56)) R s i := old_alloc hb
  have g2 := new_alloc w w.heap.size (.cells #[.int .i64 0, .bool false, .int .i64 0, .slice none 0 0] 56) rfl
  have hG0 : w.grownBy (w.alloc (.cells #[.int .i64 0, .bool false, .int .i64 0, .slice none 0 0] 56)) (some R) := grown_alloc w _ (some R)
  have hz0 : w.heap.size < (w.alloc (.cells #[.int .i64 0, .bool false, .int .i64 0, .slice none 0 0] 56)).heap.size := by simp
  clear hb
  go_enter Tryz.func69, Tryz.ntmps69
  go_wp2_with fail
  generalize w.alloc (.cells #[.int .i64 0, .bool false, .int .i64 0, .slice none 0 0] 56) = W0 at *
  refine (number_no W0 R s i hmx r0 h1).mono ?_
  rintro e W1 ⟨⟨v, rfl⟩, q, rfl⟩
  go_wp2_with fail
  exact ⟨rfl, ⟨_, rfl⟩, grown_drew hG0 q⟩
set_option maxRecDepth 100000 in
set_option maxHeartbeats 4000000 in
theorem change_no2 (w : World) (R : Nat) (s : ByteArray) (i : Int) (id nx : Nat) (hs : s.size ≤ 1048576) (hb : RdAt w R s i) (h1 : rd s i = some (id, nx)) (h2 : rd s nx = none) : Calls Tryz.prog 69 #[.pointer (some ⟨R, 0, none⟩)] w fun e w' => Refused e ∧ w.grownBy w' (some R) := by
  have hRl := lt_of_block hb
  have hmx : s.size ≤ maxLen := by unfold maxLen; omega
  have r0 : RdAt (w.alloc (.cells #[.int .i64 0, .bool false, .int .i64 0, .slice none 0 0] 56)) R s i := old_alloc hb
  have g2 := new_alloc w w.heap.size (.cells #[.int .i64 0, .bool false, .int .i64 0, .slice none 0 0] 56) rfl
  have hG0 : w.grownBy (w.alloc (.cells #[.int .i64 0, .bool false, .int .i64 0, .slice none 0 0] 56)) (some R) := grown_alloc w _ (some R)
  have hz0 : w.heap.size < (w.alloc (.cells #[.int .i64 0, .bool false, .int .i64 0, .slice none 0 0] 56)).heap.size := by simp
  clear hb
  go_enter Tryz.func69, Tryz.ntmps69
  go_wp2_with fail
  generalize w.alloc (.cells #[.int .i64 0, .bool false, .int .i64 0, .slice none 0 0] 56) = W0 at *
  refine (number_ok W0 R s i id nx hmx r0 h1).mono ?_
  rintro e W1 ⟨rfl, r1, hg1⟩
  replace g2 := grown_blk hg1 g2 (by omega)
  replace hG0 := grown_trans hG0 hg1
  have hz1 := hg1.size
  clear hg1 r0 h1
  go_wp2_with fail
  refine (number_no W1 R s nx hmx r1 h2).mono ?_
  rintro e W2 ⟨⟨v, rfl⟩, q, rfl⟩
  go_wp2_with fail
  exact ⟨rfl, ⟨_, rfl⟩, grown_drew hG0 q⟩
set_option maxRecDepth 100000 in
set_option maxHeartbeats 4000000 in
theorem change_gone (w : World) (R : Nat) (s : ByteArray) (i : Int) (id nx q : Nat) (hs : s.size ≤ 1048576) (hb : RdAt w R s i) (h1 : rd s i = some (id, nx)) (h2 : rd s nx = some (1, q)) : Calls Tryz.prog 69 #[.pointer (some ⟨R, 0, none⟩)] w fun e w' => e = .returned (.agg #[.int .i64 id, .bool true, .int .i64 0, .slice none 0 0]) ∧ RdAt w' R s q ∧ w.grownBy w' (some R) := by
  have hRl := lt_of_block hb
  have hmx : s.size ≤ maxLen := by unfold maxLen; omega
  have r0 : RdAt (w.alloc (.cells #[.int .i64 0, .bool false, .int .i64 0, .slice none 0 0] 56)) R s i := old_alloc hb
  have g2 := new_alloc w w.heap.size (.cells #[.int .i64 0, .bool false, .int .i64 0, .slice none 0 0] 56) rfl
  have hG0 : w.grownBy (w.alloc (.cells #[.int .i64 0, .bool false, .int .i64 0, .slice none 0 0] 56)) (some R) := grown_alloc w _ (some R)
  have hz0 : w.heap.size < (w.alloc (.cells #[.int .i64 0, .bool false, .int .i64 0, .slice none 0 0] 56)).heap.size := by simp
  clear hb
  go_enter Tryz.func69, Tryz.ntmps69
  go_wp2_with fail
  generalize w.alloc (.cells #[.int .i64 0, .bool false, .int .i64 0, .slice none 0 0] 56) = W0 at *
  refine (number_ok W0 R s i id nx hmx r0 h1).mono ?_
  rintro e W1 ⟨rfl, r1, hg1⟩
  replace g2 := grown_blk hg1 g2 (by omega)
  replace hG0 := grown_trans hG0 hg1
  have hz1 := hg1.size
  clear hg1 r0 h1
  go_wp2_with fail
  refine (number_ok W1 R s nx 1 q hmx r1 h2).mono ?_
  rintro e W2 ⟨rfl, r2, hg2⟩
  replace g2 := grown_blk hg2 g2 (by omega)
  replace hG0 := grown_trans hG0 hg2
  have hz2 := hg2.size
  clear hg2 r1 h2
  have gX := new_alloc W2 W2.heap.size (.cells #[.int .i64 id, .bool true, .int .i64 0, .slice none 0 0] 56) rfl
  replace g2 := old_alloc (o' := .cells #[.int .i64 id, .bool true, .int .i64 0, .slice none 0 0] 56) g2
  replace r2 : RdAt (W2.alloc (.cells #[.int .i64 id, .bool true, .int .i64 0, .slice none 0 0] 56)) R s q := old_alloc r2
  replace hG0 := grown_trans hG0 (grown_alloc W2 (.cells #[.int .i64 id, .bool true, .int .i64 0, .slice none 0 0] 56) (some R))
  have hzx : W2.heap.size < (W2.alloc (.cells #[.int .i64 id, .bool true, .int .i64 0, .slice none 0 0] 56)).heap.size := by simp
  go_upto_region 2 with fail
  generalize W2.alloc (.cells #[.int .i64 id, .bool true, .int .i64 0, .slice none 0 0] 56) = X at *
  have hxw : w.heap.size < W2.heap.size := by omega
  have hxR : R < W2.heap.size := by omega
  generalize W2.heap.size = xb at *
  obtain ⟨⟨x0, x1, x2, x3⟩, _⟩ := cell4n gX
  obtain ⟨⟨y0, y1, y2, y3⟩, f0, f1, f2, f3⟩ := cell4n g2
  have gF := setk4 g2 (.int .i64 id) (.bool true) (.int .i64 0) (.slice none 0 0)
  have rF : RdAt ((((X.setCell ⟨w.heap.size, 0, none⟩ (.int .i64 id)).setCell ⟨w.heap.size, 1, none⟩ (.bool true)).setCell ⟨w.heap.size, 2, none⟩ (.int .i64 0)).setCell ⟨w.heap.size, 3, none⟩ (.slice none 0 0)) R s _ := set_far (set_far (set_far (set_far r2 (by omega)) (by omega)) (by omega)) (by omega)
  have hGF : w.grownBy ((((X.setCell ⟨w.heap.size, 0, none⟩ (.int .i64 id)).setCell ⟨w.heap.size, 1, none⟩ (.bool true)).setCell ⟨w.heap.size, 2, none⟩ (.int .i64 0)).setCell ⟨w.heap.size, 3, none⟩ (.slice none 0 0)) (some R) := grown_setG (grown_setG (grown_setG (grown_setG hG0 (Nat.le_refl _) _) (Nat.le_refl _) _) (Nat.le_refl _) _) (Nat.le_refl _) _
  clear g2 r2 hG0 gX
  go_wp2_with fail
  generalize ((((X.setCell ⟨w.heap.size, 0, none⟩ (.int .i64 id)).setCell ⟨w.heap.size, 1, none⟩ (.bool true)).setCell ⟨w.heap.size, 2, none⟩ (.int .i64 0)).setCell ⟨w.heap.size, 3, none⟩ (.slice none 0 0)) = wf at *
  obtain ⟨⟨z0, z1, z2, z3⟩, _⟩ := cell4n gF
  exact bodyPost_ret (v := .agg #[.int .i64 id, .bool true, .int .i64 0, .slice none 0 0]) (by simp [results, Tryz.results69, go_sem, z0, z1, z2, z3]) rfl (⟨rfl, rF, hGF⟩)
set_option maxRecDepth 100000 in
set_option maxHeartbeats 4000000 in
theorem change_no3 (w : World) (R : Nat) (s : ByteArray) (i : Int) (id nx g q : Nat) (hs : s.size ≤ 1048576) (hb : RdAt w R s i) (h1 : rd s i = some (id, nx)) (h2 : rd s nx = some (g, q)) (h3 : g ≠ 1) (h4 : gso s 2000000000 q = none) : Calls Tryz.prog 69 #[.pointer (some ⟨R, 0, none⟩)] w fun e w' => Refused e ∧ w.grownBy w' (some R) := by
  have hRl := lt_of_block hb
  have hmx : s.size ≤ maxLen := by unfold maxLen; omega
  have HS := hid (fun W => sob_none s q hs h4 W)
  clear h4
  have hg1n : ((g : Int) == 1) = false := by rw [beq_eq_false_iff_ne]; omega
  have hg1p : ¬ (g : Int) = 1 := by omega
  have r0 : RdAt (w.alloc (.cells #[.int .i64 0, .bool false, .int .i64 0, .slice none 0 0] 56)) R s i := old_alloc hb
  have g2 := new_alloc w w.heap.size (.cells #[.int .i64 0, .bool false, .int .i64 0, .slice none 0 0] 56) rfl
  have hG0 : w.grownBy (w.alloc (.cells #[.int .i64 0, .bool false, .int .i64 0, .slice none 0 0] 56)) (some R) := grown_alloc w _ (some R)
  have hz0 : w.heap.size < (w.alloc (.cells #[.int .i64 0, .bool false, .int .i64 0, .slice none 0 0] 56)).heap.size := by simp
  clear hb
  go_enter Tryz.func69, Tryz.ntmps69
  go_wp2_with fail
  generalize w.alloc (.cells #[.int .i64 0, .bool false, .int .i64 0, .slice none 0 0] 56) = W0 at *
  refine (number_ok W0 R s i id nx hmx r0 h1).mono ?_
  rintro e W1 ⟨rfl, r1, hg1⟩
  replace g2 := grown_blk hg1 g2 (by omega)
  replace hG0 := grown_trans hG0 hg1
  have hz1 := hg1.size
  clear hg1 r0 h1
  go_wp2_with fail
  refine (number_ok W1 R s nx g q hmx r1 h2).mono ?_
  rintro e W2 ⟨rfl, r2, hg2⟩
  replace g2 := grown_blk hg2 g2 (by omega)
  replace hG0 := grown_trans hG0 hg2
  have hz2 := hg2.size
  clear hg2 r1 h2
  have gX := new_alloc W2 W2.heap.size (.cells #[.int .i64 id, .bool false, .int .i64 0, .slice none 0 0] 56) rfl
  replace g2 := old_alloc (o' := .cells #[.int .i64 id, .bool false, .int .i64 0, .slice none 0 0] 56) g2
  replace r2 : RdAt (W2.alloc (.cells #[.int .i64 id, .bool false, .int .i64 0, .slice none 0 0] 56)) R s q := old_alloc r2
  replace hG0 := grown_trans hG0 (grown_alloc W2 (.cells #[.int .i64 id, .bool false, .int .i64 0, .slice none 0 0] 56) (some R))
  have hzx : W2.heap.size < (W2.alloc (.cells #[.int .i64 id, .bool false, .int .i64 0, .slice none 0 0] 56)).heap.size := by simp
  go_upto_region 2 with fail
  generalize W2.alloc (.cells #[.int .i64 id, .bool false, .int .i64 0, .slice none 0 0] 56) = X at *
  have hxw : w.heap.size < W2.heap.size := by omega
  have hxR : R < W2.heap.size := by omega
  generalize W2.heap.size = xb at *
  obtain ⟨c0, c1, fc0, fc1⟩ := cell2g r2
  obtain ⟨⟨x0, x1, x2, x3⟩, e0, e1, e2, e3⟩ := cell4n gX
  go_upto_region 3 with fail
  clear x0 x1 x2 x3 e0 e1 e2 e3
  refine wp_region_held_drew (S := (fun w' => w'.cell? ⟨R, 0, none⟩ = some (.string s))) (by kernel_rfl) ?_ (fun hHeld => ?_)
  · (repeat (first | with_reducible assumption | with_reducible refine keepset ?_ (by dsimp only; omega) | with_reducible refine keepdrew ?_ | with_reducible refine keepalloc ?_ _ | with_reducible refine keepcell (by with_reducible assumption) ?_ | (rw [World.cell?_setCell_other _ _ _ _ (by simp)])))
  replace r2 : RdAt X.drew R s q := r2
  replace gX : X.drew.heap[xb]? = _ := gX
  replace g2 : X.drew.heap[w.heap.size]? = _ := g2
  replace hG0 := grown_belG hG0 (bdrew (Below.refl X.heap.size X))
  have hdz : X.drew.heap.size = X.heap.size := rfl
  generalize X.drew = Z at *
  clear c0 c1 fc0 fc1
  obtain ⟨c0, c1, fc0, fc1⟩ := cell2g r2
  refine wpAnyH_take (i := 0) (v := ?_) rfl (by kernel_rfl) (by kernel_rfl) (by kernel_rfl) (fun _ _ _ h => h) (Or.inl ⟨by rfl, ?_⟩) hHeld ?_
  rotate_left
  · intro w hSw; (try dsimp only at hSw); go_simp; try (with_reducible rfl)
  try simp only [sq]
  refine wpAnyH_take (i := 1) (v := ?_) rfl (by kernel_rfl) (by kernel_rfl) (by kernel_rfl) (fun _ _ _ h => h) (Or.inl ⟨by rfl, ?_⟩) hHeld ?_
  rotate_left
  · intro w hSw; (try dsimp only at hSw); go_simp; try (with_reducible rfl)
  try simp only [sq]
  refine wpAnyH_take (i := 2) (v := ?_) rfl (by kernel_rfl) (by kernel_rfl) (by kernel_rfl) (fun _ _ _ h => h) (Or.inl ⟨by rfl, ?_⟩) hHeld ?_
  rotate_left
  · intro w hSw; (try dsimp only at hSw); go_simp; try (with_reducible rfl)
  try simp only [sq]
  refine wpAnyH_take (i := 3) (v := ?_) rfl (by kernel_rfl) (by kernel_rfl) (by kernel_rfl) (fun _ _ _ h => h) (Or.inl ⟨by rfl, ?_⟩) hHeld ?_
  rotate_left
  · intro w hSw; (try dsimp only at hSw); go_simp; try (with_reducible rfl)
  try simp only [sq]
  refine wpAnyH_take (i := 4) (v := ?_) rfl (by kernel_rfl) (by kernel_rfl) (by kernel_rfl) (fun _ _ _ h => h) (Or.inl ⟨by rfl, ?_⟩) hHeld ?_
  rotate_left
  · intro w hSw; (try dsimp only at hSw); go_simp; try (with_reducible rfl)
  try simp only [sq]
  refine wpAnyH_take (i := 5) (v := ?_) rfl (by kernel_rfl) (by kernel_rfl) (by kernel_rfl) (fun _ _ _ h => h) (Or.inl ⟨by rfl, ?_⟩) hHeld ?_
  rotate_left
  · intro w hSw; (try dsimp only at hSw); go_simp; try (with_reducible rfl)
  try simp only [sq]
  refine wpAnyH_take (i := 6) (v := ?_) rfl (by kernel_rfl) (by kernel_rfl) (by kernel_rfl) (fun _ _ _ h => h) (Or.inl ⟨by rfl, ?_⟩) hHeld ?_
  rotate_left
  · intro w hSw; (try dsimp only at hSw); go_simp; try (with_reducible rfl)
  try simp only [sq]
  refine wpAnyH_take (i := 7) (v := ?_) rfl (by kernel_rfl) (by kernel_rfl) (by kernel_rfl) (fun _ _ _ h => h) (Or.inl ⟨by rfl, ?_⟩) hHeld ?_
  rotate_left
  · intro w hSw; (try dsimp only at hSw); go_simp; try (with_reducible rfl)
  try simp only [sq]
  refine wpAnyH_ready (rs := [8]) (by kernel_rfl) (by simp) ?_
  refine (AllReadyH.cons rfl (fun K hK => ?_) AllReadyH.nil)
  try simp only [sq]
  go_simp
  refine hK.out _ _ ?_ (fun hHeld => ?_)
  · (repeat (first | with_reducible assumption | with_reducible refine keepset ?_ (by dsimp only; omega) | with_reducible refine keepdrew ?_ | with_reducible refine keepalloc ?_ _ | with_reducible refine keepcell (by with_reducible assumption) ?_ | (rw [World.cell?_setCell_other _ _ _ _ (by simp)])))
  clear hK K
  try simp only [sq]
  refine wpAnyH_ready (rs := [9]) (by kernel_rfl) (by simp) ?_
  refine (AllReadyH.cons rfl (fun K hK => ?_) AllReadyH.nil)
  try simp only [sq]
  go_simp
  go_at_call 86
  refine (HS.out _).mono ?_
  rintro e y ⟨⟨t, rfl⟩, hby⟩
  go_wp2_with fail
  exact ⟨rfl, ⟨_, rfl⟩, grown_belG hG0 hby⟩
set_option maxRecDepth 100000 in
set_option maxHeartbeats 4000000 in
theorem change_there (w : World) (R : Nat) (s : ByteArray) (i : Int) (id nx g q : Nat) (k en : Int) (l : List (Int × Int)) (hs : s.size ≤ 1048576) (hb : RdAt w R s i) (h1 : rd s i = some (id, nx)) (h2 : rd s nx = some (g, q)) (h3 : g ≠ 1) (h4 : gso s 2000000000 q = some (k, l, en)) : Calls Tryz.prog 69 #[.pointer (some ⟨R, 0, none⟩)] w fun e w' => ∃ b, e = .returned (.agg #[.int .i64 id, .bool false, .int .i64 k, .slice (some ⟨b, 0, none⟩) l.length l.length]) ∧ RdAt w' R s en ∧ w.grownBy w' (some R) ∧ w.heap.size ≤ b ∧ PtsOwn w' b l := by
  have hRl := lt_of_block hb
  have hmx : s.size ≤ maxLen := by unfold maxLen; omega
  have HS := hid (fun W => sob_some s q hs k en l h4 W)
  clear h4
  have hg1n : ((g : Int) == 1) = false := by rw [beq_eq_false_iff_ne]; omega
  have hg1p : ¬ (g : Int) = 1 := by omega
  have r0 : RdAt (w.alloc (.cells #[.int .i64 0, .bool false, .int .i64 0, .slice none 0 0] 56)) R s i := old_alloc hb
  have g2 := new_alloc w w.heap.size (.cells #[.int .i64 0, .bool false, .int .i64 0, .slice none 0 0] 56) rfl
  have hG0 : w.grownBy (w.alloc (.cells #[.int .i64 0, .bool false, .int .i64 0, .slice none 0 0] 56)) (some R) := grown_alloc w _ (some R)
  have hz0 : w.heap.size < (w.alloc (.cells #[.int .i64 0, .bool false, .int .i64 0, .slice none 0 0] 56)).heap.size := by simp
  clear hb
  go_enter Tryz.func69, Tryz.ntmps69
  go_wp2_with fail
  generalize w.alloc (.cells #[.int .i64 0, .bool false, .int .i64 0, .slice none 0 0] 56) = W0 at *
  refine (number_ok W0 R s i id nx hmx r0 h1).mono ?_
  rintro e W1 ⟨rfl, r1, hg1⟩
  replace g2 := grown_blk hg1 g2 (by omega)
  replace hG0 := grown_trans hG0 hg1
  have hz1 := hg1.size
  clear hg1 r0 h1
  go_wp2_with fail
  refine (number_ok W1 R s nx g q hmx r1 h2).mono ?_
  rintro e W2 ⟨rfl, r2, hg2⟩
  replace g2 := grown_blk hg2 g2 (by omega)
  replace hG0 := grown_trans hG0 hg2
  have hz2 := hg2.size
  clear hg2 r1 h2
  have gX := new_alloc W2 W2.heap.size (.cells #[.int .i64 id, .bool false, .int .i64 0, .slice none 0 0] 56) rfl
  replace g2 := old_alloc (o' := .cells #[.int .i64 id, .bool false, .int .i64 0, .slice none 0 0] 56) g2
  replace r2 : RdAt (W2.alloc (.cells #[.int .i64 id, .bool false, .int .i64 0, .slice none 0 0] 56)) R s q := old_alloc r2
  replace hG0 := grown_trans hG0 (grown_alloc W2 (.cells #[.int .i64 id, .bool false, .int .i64 0, .slice none 0 0] 56) (some R))
  have hzx : W2.heap.size < (W2.alloc (.cells #[.int .i64 id, .bool false, .int .i64 0, .slice none 0 0] 56)).heap.size := by simp
  go_upto_region 2 with fail
  generalize W2.alloc (.cells #[.int .i64 id, .bool false, .int .i64 0, .slice none 0 0] 56) = X at *
  have hxw : w.heap.size < W2.heap.size := by omega
  have hxR : R < W2.heap.size := by omega
  generalize W2.heap.size = xb at *
  obtain ⟨c0, c1, fc0, fc1⟩ := cell2g r2
  obtain ⟨⟨x0, x1, x2, x3⟩, e0, e1, e2, e3⟩ := cell4n gX
  go_upto_region 3 with fail
  clear x0 x1 x2 x3 e0 e1 e2 e3
  refine wp_region_held_drew (S := (fun w' => w'.cell? ⟨R, 0, none⟩ = some (.string s))) (by kernel_rfl) ?_ (fun hHeld => ?_)
  · (repeat (first | with_reducible assumption | with_reducible refine keepset ?_ (by dsimp only; omega) | with_reducible refine keepdrew ?_ | with_reducible refine keepalloc ?_ _ | with_reducible refine keepcell (by with_reducible assumption) ?_ | (rw [World.cell?_setCell_other _ _ _ _ (by simp)])))
  replace r2 : RdAt X.drew R s q := r2
  replace gX : X.drew.heap[xb]? = _ := gX
  replace g2 : X.drew.heap[w.heap.size]? = _ := g2
  replace hG0 := grown_belG hG0 (bdrew (Below.refl X.heap.size X))
  have hdz : X.drew.heap.size = X.heap.size := rfl
  generalize X.drew = Z at *
  clear c0 c1 fc0 fc1
  obtain ⟨c0, c1, fc0, fc1⟩ := cell2g r2
  refine wpAnyH_take (i := 0) (v := ?_) rfl (by kernel_rfl) (by kernel_rfl) (by kernel_rfl) (fun _ _ _ h => h) (Or.inl ⟨by rfl, ?_⟩) hHeld ?_
  rotate_left
  · intro w hSw; (try dsimp only at hSw); go_simp; try (with_reducible rfl)
  try simp only [sq]
  refine wpAnyH_take (i := 1) (v := ?_) rfl (by kernel_rfl) (by kernel_rfl) (by kernel_rfl) (fun _ _ _ h => h) (Or.inl ⟨by rfl, ?_⟩) hHeld ?_
  rotate_left
  · intro w hSw; (try dsimp only at hSw); go_simp; try (with_reducible rfl)
  try simp only [sq]
  refine wpAnyH_take (i := 2) (v := ?_) rfl (by kernel_rfl) (by kernel_rfl) (by kernel_rfl) (fun _ _ _ h => h) (Or.inl ⟨by rfl, ?_⟩) hHeld ?_
  rotate_left
  · intro w hSw; (try dsimp only at hSw); go_simp; try (with_reducible rfl)
  try simp only [sq]
  refine wpAnyH_take (i := 3) (v := ?_) rfl (by kernel_rfl) (by kernel_rfl) (by kernel_rfl) (fun _ _ _ h => h) (Or.inl ⟨by rfl, ?_⟩) hHeld ?_
  rotate_left
  · intro w hSw; (try dsimp only at hSw); go_simp; try (with_reducible rfl)
  try simp only [sq]
  refine wpAnyH_take (i := 4) (v := ?_) rfl (by kernel_rfl) (by kernel_rfl) (by kernel_rfl) (fun _ _ _ h => h) (Or.inl ⟨by rfl, ?_⟩) hHeld ?_
  rotate_left
  · intro w hSw; (try dsimp only at hSw); go_simp; try (with_reducible rfl)
  try simp only [sq]
  refine wpAnyH_take (i := 5) (v := ?_) rfl (by kernel_rfl) (by kernel_rfl) (by kernel_rfl) (fun _ _ _ h => h) (Or.inl ⟨by rfl, ?_⟩) hHeld ?_
  rotate_left
  · intro w hSw; (try dsimp only at hSw); go_simp; try (with_reducible rfl)
  try simp only [sq]
  refine wpAnyH_take (i := 6) (v := ?_) rfl (by kernel_rfl) (by kernel_rfl) (by kernel_rfl) (fun _ _ _ h => h) (Or.inl ⟨by rfl, ?_⟩) hHeld ?_
  rotate_left
  · intro w hSw; (try dsimp only at hSw); go_simp; try (with_reducible rfl)
  try simp only [sq]
  refine wpAnyH_take (i := 7) (v := ?_) rfl (by kernel_rfl) (by kernel_rfl) (by kernel_rfl) (fun _ _ _ h => h) (Or.inl ⟨by rfl, ?_⟩) hHeld ?_
  rotate_left
  · intro w hSw; (try dsimp only at hSw); go_simp; try (with_reducible rfl)
  try simp only [sq]
  refine wpAnyH_ready (rs := [8]) (by kernel_rfl) (by simp) ?_
  refine (AllReadyH.cons rfl (fun K hK => ?_) AllReadyH.nil)
  try simp only [sq]
  go_simp
  refine hK.out _ _ ?_ (fun hHeld => ?_)
  · (repeat (first | with_reducible assumption | with_reducible refine keepset ?_ (by dsimp only; omega) | with_reducible refine keepdrew ?_ | with_reducible refine keepalloc ?_ _ | with_reducible refine keepcell (by with_reducible assumption) ?_ | (rw [World.cell?_setCell_other _ _ _ _ (by simp)])))
  clear hK K
  try simp only [sq]
  refine wpAnyH_ready (rs := [9]) (by kernel_rfl) (by simp) ?_
  refine (AllReadyH.cons rfl (fun K hK => ?_) AllReadyH.nil)
  try simp only [sq]
  go_simp
  go_at_call 86
  refine (HS.out _).mono ?_
  rintro e y ⟨b, rfl, hbb, hpo, hby⟩
  replace r2 : RdAt y R s q := keepheap2 hby r2
  replace gX := keepheap2 hby gX
  replace g2 := keepheap2 hby g2
  replace hG0 := grown_belG hG0 hby
  have hyz := hby.size
  have hbl := hpo.1
  clear hby c0 c1 fc0 fc1
  obtain ⟨c0, c1, fc0, fc1⟩ := cell2g r2
  go_wp2_with fail
  refine hK.out _ _ ?_ (fun hHeld => ?_)
  · (repeat (first | with_reducible assumption | with_reducible refine keepset ?_ (by dsimp only; omega) | with_reducible refine keepdrew ?_ | with_reducible refine keepalloc ?_ _ | with_reducible refine keepcell (by with_reducible assumption) ?_ | (rw [World.cell?_setCell_other _ _ _ _ (by simp)])))
  clear hK K
  try simp only [sq]
  refine wpAnyH_take (i := 10) (v := ?_) rfl (by kernel_rfl) (by kernel_rfl) (by kernel_rfl) (fun _ _ _ h => h) (Or.inl ⟨by rfl, ?_⟩) hHeld ?_
  rotate_left
  · intro w hSw; (try dsimp only at hSw); go_simp; try (with_reducible rfl)
  try simp only [sq]
  refine wpAnyH_take (i := 11) (v := ?_) rfl (by kernel_rfl) (by kernel_rfl) (by kernel_rfl) (fun _ _ _ h => h) (Or.inl ⟨by rfl, ?_⟩) hHeld ?_
  rotate_left
  · intro w hSw; (try dsimp only at hSw); go_simp; try (with_reducible rfl)
  try simp only [sq]
  refine wpAnyH_take (i := 12) (v := ?_) rfl (by kernel_rfl) (by kernel_rfl) (by kernel_rfl) (fun _ _ _ h => h) (Or.inl ⟨by rfl, ?_⟩) hHeld ?_
  rotate_left
  · intro w hSw; (try dsimp only at hSw); go_simp; try (with_reducible rfl)
  try simp only [sq]
  refine wpAnyH_take (i := 13) (v := ?_) rfl (by kernel_rfl) (by kernel_rfl) (by kernel_rfl) (fun _ _ _ h => h) (Or.inl ⟨by rfl, ?_⟩) hHeld ?_
  rotate_left
  · intro w hSw; (try dsimp only at hSw); go_simp; try (with_reducible rfl)
  try simp only [sq]
  refine wpAnyH_ready (rs := [14]) (by kernel_rfl) (by simp) ?_
  refine (AllReadyH.cons rfl (fun K hK => ?_) AllReadyH.nil)
  obtain ⟨⟨x0, x1, x2, x3⟩, e0, e1, e2, e3⟩ := cell4n gX
  try simp only [sq]
  go_simp
  refine hK.out _ _ ?_ (fun hHeld => ?_)
  · (repeat (first | with_reducible assumption | with_reducible refine keepset ?_ (by dsimp only; omega) | with_reducible refine keepdrew ?_ | with_reducible refine keepalloc ?_ _ | with_reducible refine keepcell (by with_reducible assumption) ?_ | (rw [World.cell?_setCell_other _ _ _ _ (by simp)])))
  clear hK K
  try simp only [sq]
  replace gX := set4_23 gX (.int .i64 k) (.slice (some ⟨b, 0, none⟩) l.length l.length)
  replace r2 : RdAt ((y.setCell ⟨xb, 2, none⟩ (.int .i64 k)).setCell ⟨xb, 3, none⟩ (.slice (some ⟨b, 0, none⟩) l.length l.length)) R s q := set_far (set_far r2 (by omega)) (by omega)
  replace g2 := set_far (q := xb) (k := 3) (u := .slice (some ⟨b, 0, none⟩) l.length l.length) (set_far (q := xb) (k := 2) (u := .int .i64 k) g2 (by omega)) (by omega)
  replace hG0 := grown_setG (b := xb) (k := 3) (grown_setG (b := xb) (k := 2) hG0 (by omega) (.int .i64 k)) (by omega) (.slice (some ⟨b, 0, none⟩) l.length l.length)
  replace hpo := own_set2 (k := 2) (k' := 3) (u := .int .i64 k) (u' := .slice (some ⟨b, 0, none⟩) l.length l.length) hpo (q := xb) (by omega)
  clear x0 x1 x2 x3 e0 e1 e2 e3 c0 c1 fc0 fc1
  generalize ((y.setCell ⟨xb, 2, none⟩ (.int .i64 k)).setCell ⟨xb, 3, none⟩ (.slice (some ⟨b, 0, none⟩) l.length l.length)) = Y2 at *
  refine wpAnyH_take (i := 15) (v := ?_) rfl (by kernel_rfl) (by kernel_rfl) (by kernel_rfl) (fun _ _ _ h => h) (Or.inl ⟨by rfl, ?_⟩) hHeld ?_
  rotate_left
  · intro w hSw; (try dsimp only at hSw); go_simp; try (with_reducible rfl)
  try simp only [sq]
  refine wpAnyH_take (i := 16) (v := ?_) rfl (by kernel_rfl) (by kernel_rfl) (by kernel_rfl) (fun _ _ _ h => h) (Or.inl ⟨by rfl, ?_⟩) hHeld ?_
  rotate_left
  · intro w hSw; (try dsimp only at hSw); go_simp; try (with_reducible rfl)
  try simp only [sq]
  refine wpAnyH_ready (rs := [17]) (by kernel_rfl) (by simp) ?_
  refine (AllReadyH.cons rfl (fun K hK => ?_) AllReadyH.nil)
  obtain ⟨c0, c1, fc0, fc1⟩ := cell2g r2
  try simp only [sq]
  go_simp
  refine hK.out _ _ ?_ (fun hHeld => ?_)
  · (repeat (first | with_reducible assumption | with_reducible refine keepset ?_ (by dsimp only; omega) | with_reducible refine keepdrew ?_ | with_reducible refine keepalloc ?_ _ | with_reducible refine keepcell (by with_reducible assumption) ?_ | (rw [World.cell?_setCell_other _ _ _ _ (by simp)])))
  clear hK K
  try simp only [sq]
  replace r2 : RdAt (Y2.setCell ⟨R, 1, none⟩ (.int .i64 en)) R s en := set2_1 r2
  replace gX := set_far (q := R) (k := 1) (u := .int .i64 en) gX (by omega)
  replace g2 := set_far (q := R) (k := 1) (u := .int .i64 en) g2 (by omega)
  replace hG0 := grown_trans hG0 (grown_set Y2 R 1 (.int .i64 en))
  replace hpo := own_set (k := 1) (u := .int .i64 en) hpo (q := R) (by omega)
  clear c0 c1 fc0 fc1
  generalize (Y2.setCell ⟨R, 1, none⟩ (.int .i64 en)) = Y3 at *
  refine wpAnyH_done (by kernel_rfl) ?_ _
  clear hHeld
  obtain ⟨⟨x0, x1, x2, x3⟩, _⟩ := cell4n gX
  obtain ⟨⟨y0, y1, y2, y3⟩, f0, f1, f2, f3⟩ := cell4n g2
  have gF := setk4 g2 (.int .i64 id) (.bool false) (.int .i64 k) (.slice (some ⟨b, 0, none⟩) l.length l.length)
  have rF : RdAt ((((Y3.setCell ⟨w.heap.size, 0, none⟩ (.int .i64 id)).setCell ⟨w.heap.size, 1, none⟩ (.bool false)).setCell ⟨w.heap.size, 2, none⟩ (.int .i64 k)).setCell ⟨w.heap.size, 3, none⟩ (.slice (some ⟨b, 0, none⟩) l.length l.length)) R s _ := set_far (set_far (set_far (set_far r2 (by omega)) (by omega)) (by omega)) (by omega)
  have hGF : w.grownBy ((((Y3.setCell ⟨w.heap.size, 0, none⟩ (.int .i64 id)).setCell ⟨w.heap.size, 1, none⟩ (.bool false)).setCell ⟨w.heap.size, 2, none⟩ (.int .i64 k)).setCell ⟨w.heap.size, 3, none⟩ (.slice (some ⟨b, 0, none⟩) l.length l.length)) (some R) := grown_setG (grown_setG (grown_setG (grown_setG hG0 (Nat.le_refl _) _) (Nat.le_refl _) _) (Nat.le_refl _) _) (Nat.le_refl _) _
  have pF := own_set2 (k := 2) (k' := 3) (u := .int .i64 k) (u' := .slice (some ⟨b, 0, none⟩) l.length l.length) (own_set2 (k := 0) (k' := 1) (u := .int .i64 id) (u' := .bool false) hpo (q := w.heap.size) (by omega)) (q := w.heap.size) (by omega)
  replace pF : PtsOwn ((((Y3.setCell ⟨w.heap.size, 0, none⟩ (.int .i64 id)).setCell ⟨w.heap.size, 1, none⟩ (.bool false)).setCell ⟨w.heap.size, 2, none⟩ (.int .i64 k)).setCell ⟨w.heap.size, 3, none⟩ (.slice (some ⟨b, 0, none⟩) l.length l.length)) b l := pF
  clear hpo
  clear g2 r2 hG0 gX
  go_wp2_with fail
  generalize ((((Y3.setCell ⟨w.heap.size, 0, none⟩ (.int .i64 id)).setCell ⟨w.heap.size, 1, none⟩ (.bool false)).setCell ⟨w.heap.size, 2, none⟩ (.int .i64 k)).setCell ⟨w.heap.size, 3, none⟩ (.slice (some ⟨b, 0, none⟩) l.length l.length)) = wf at *
  obtain ⟨⟨z0, z1, z2, z3⟩, _⟩ := cell4n gF
  exact bodyPost_ret (v := .agg #[.int .i64 id, .bool false, .int .i64 k, .slice (some ⟨b, 0, none⟩) l.length l.length]) (by simp [results, Tryz.results69, go_sem, z0, z1, z2, z3]) rfl (⟨b, rfl, rF, hGF, by omega, pF⟩)
end Go.Proofs.YtfjmbbjcghopgaaGreatDoor
namespace Go.Proofs.YtfjmbbjcghopgaaGreatDoor
open Go.RowKit Go.Extern.Stop Go.Stop Go.Extern
set_option linter.unusedSimpArgs false
set_option linter.unusedVariables false
set_option maxHeartbeats 1000000 in
theorem whole_ok_c (cb : Array Value) (w : World) (R : World → Prop) (h : Calls Tryz.prog 56 cb w fun e w' => e = .returned (.tuple #[]) ∧ R w') : Calls Tryz.prog 55 #[.func (.func 56) #[] cb] w fun e w' => e = .returned (.bool true) ∧ R w' := by
  have hmf : ∀ (fn : Fn) (first cap : Array Value) (w : World), (Instr.makeFunc fn first cap).run Tryz.prog w = .ok (.func fn first cap) w := fun _ _ _ _ => rfl
  have H := hid h
  clear h
  go_enter_defers Tryz.func55, Tryz.ntmps55
  go_wp2_with fail
  refine H.out.mono ?_
  rintro e w1 ⟨rfl, hR⟩
  go_wp2_with fail
  refine leaves_cons (f := 66) (args := #[]) (by simp) (by simp [go_sem]) ?_
  refine (catch_idle _).mono ?_
  rintro e u' w'' ⟨rfl, rfl, rfl⟩
  simp [Leaves, settle, results, Tryz.results55, go_sem, hR]
set_option maxHeartbeats 1000000 in
theorem whole_no_c (cb : Array Value) (w : World) (R : World → Prop) (h : Calls Tryz.prog 56 cb w fun e w' => Refused e ∧ R w') (hR : ∀ w', R w' → w'.cell? ⟨0, 0, none⟩ = some (.iface 143 (.agg #[.pointer (some ⟨1, 100, none⟩)]))) : Calls Tryz.prog 55 #[.func (.func 56) #[] cb] w fun e w' => e = .returned (.bool false) ∧ ∃ w1, R w1 ∧ Below w1.heap.size w1 w' := by
  have hmf : ∀ (fn : Fn) (first cap : Array Value) (w : World), (Instr.makeFunc fn first cap).run Tryz.prog w = .ok (.func fn first cap) w := fun _ _ _ _ => rfl
  have H := hid h
  clear h
  go_enter_defers Tryz.func55, Tryz.ntmps55
  go_wp2_with fail
  refine H.out.mono ?_
  rintro e w1 ⟨⟨t, rfl⟩, h1⟩
  go_wp2_with fail
  refine leaves_cons (f := 66) (args := #[]) (by simp) (by simp [go_sem]) ?_
  refine (catch_panicking t [] _ (hR _ h1)).mono ?_
  rintro e u' w'' ⟨rfl, rfl, hb⟩
  simp [Leaves, settle, results, Tryz.results55, go_sem]
  exact ⟨_, h1, hb⟩
/-- What the landed reader takes, right or not. -/
def gcP (s : ByteArray) : Option (List Ch) :=
  match rd s 0 with
  | none => none
  | some (n, p) => if 100 < n then none else (rcI s n p).map Prod.fst
theorem gcI_no {s : ByteArray} (h : gcP s = none) : gcI s = none := by
  unfold gcP at h
  unfold gcI
  split at h
  · rename_i h1; simp only [h1]
  · rename_i n p h1
    simp only [h1]
    split at h
    · rename_i h2; rw [if_pos h2]
    · rename_i h2
      rw [if_neg h2]
      cases hr : rcI s n p with
      | none => rfl
      | some r => rw [hr] at h; simp at h
theorem gcI_yes {s : ByteArray} {cs : List Ch} (h : gcP s = some cs) : gcI s = if pcT cs = s then some cs else none := by
  unfold gcP at h
  unfold gcI
  split at h
  · cases h
  · rename_i n p h1
    simp only [h1]
    split at h
    · cases h
    · rename_i h2
      rw [if_neg h2]
      cases hr : rcI s n p with
      | none => rw [hr] at h; simp at h
      | some r =>
        obtain ⟨l, e⟩ := r
        rw [hr] at h
        simp at h
        subst h
        rfl
theorem gcP_1 {s : ByteArray} (h : rd s 0 = none) : gcP s = none := by unfold gcP; rw [h]
theorem gcP_2 {s : ByteArray} {n p : Nat} (h : rd s 0 = some (n, p)) (hn : 100 < n) : gcP s = none := by unfold gcP; rw [h]; simp only; rw [if_pos hn]
theorem gcP_3 {s : ByteArray} {n p : Nat} (h : rd s 0 = some (n, p)) (hn : n ≤ 100) (hr : rcI s n p = none) : gcP s = none := by unfold gcP; rw [h]; simp only; rw [if_neg (by omega), hr]; rfl
theorem gcP_4 {s : ByteArray} {n p : Nat} {l : List Ch} {e : Int} (h : rd s 0 = some (n, p)) (hn : n ≤ 100) (hr : rcI s n p = some (l, e)) : gcP s = some l := by unfold gcP; rw [h]; simp only; rw [if_neg (by omega), hr]; rfl
/-- What is read of n changes behind i of them. -/
def RI (s : ByteArray) (n : Nat) (p : Int) (i : Nat) (q : Int) (cs : List Ch) : Prop := rcI s n p = (rcI s (n - i) q).map (fun r => (cs ++ r.1, r.2))
theorem RI.zero (s : ByteArray) (n : Nat) (p : Int) : RI s n p 0 p [] := by
  unfold RI
  rw [Nat.sub_zero]
  cases rcI s n p <;> simp
theorem RI.done {s : ByteArray} {n : Nat} {p q : Int} {cs : List Ch} (h : RI s n p n q cs) : rcI s n p = some (cs, q) := by
  unfold RI at h
  rw [Nat.sub_self] at h
  simpa [rcI] using h
theorem RI.no1 {s : ByteArray} {n : Nat} {p q : Int} {i : Nat} {cs : List Ch} (h : RI s n p i q cs) (hi : i < n) (h1 : rd s q = none) : rcI s n p = none := by
  unfold RI at h
  rw [h, show n - i = (n - (i + 1)) + 1 by omega]
  simp [rcI, h1]
theorem RI.no2 {s : ByteArray} {n : Nat} {p q : Int} {i id nx : Nat} {cs : List Ch} (h : RI s n p i q cs) (hi : i < n) (h1 : rd s q = some (id, nx)) (h2 : rd s nx = none) : rcI s n p = none := by
  unfold RI at h
  rw [h, show n - i = (n - (i + 1)) + 1 by omega]
  simp [rcI, h1, h2]
theorem RI.no3 {s : ByteArray} {n : Nat} {p q : Int} {i id nx g qq : Nat} {cs : List Ch} (h : RI s n p i q cs) (hi : i < n) (h1 : rd s q = some (id, nx)) (h2 : rd s nx = some (g, qq)) (h3 : g ≠ 1) (h4 : gso s 2000000000 (qq : Int) = none) : rcI s n p = none := by
  unfold RI at h
  rw [h, show n - i = (n - (i + 1)) + 1 by omega]
  simp [rcI, h1, h2, h3, h4]
theorem RI.gone {s : ByteArray} {n : Nat} {p q : Int} {i id nx qq : Nat} {cs : List Ch} (h : RI s n p i q cs) (hi : i < n) (h1 : rd s q = some (id, nx)) (h2 : rd s nx = some (1, qq)) : RI s n p (i + 1) qq (cs ++ [((id : Int), true, 0, [])]) := by
  unfold RI at h ⊢
  rw [h, show n - i = (n - (i + 1)) + 1 by omega]
  simp only [rcI, h1, h2, if_true]
  cases rcI s (n - (i + 1)) qq <;> simp
theorem RI.there {s : ByteArray} {n : Nat} {p q : Int} {i id nx g qq : Nat} {cs : List Ch} {k e : Int} {l : List (Int × Int)} (h : RI s n p i q cs) (hi : i < n) (h1 : rd s q = some (id, nx)) (h2 : rd s nx = some (g, qq)) (h3 : g ≠ 1) (h4 : gso s 2000000000 (qq : Int) = some (k, l, e)) : RI s n p (i + 1) e (cs ++ [((id : Int), false, k, l)]) := by
  unfold RI at h ⊢
  rw [h, show n - i = (n - (i + 1)) + 1 by omega]
  simp only [rcI, h1, h2, h4, if_neg h3]
  cases rcI s (n - (i + 1)) e <;> simp
/-- A list of n changes of which the first are there. -/
def FI (base hi : Nat) (w : World) (g n : Nat) (cs : List Ch) : Prop :=
  base ≤ g ∧ g < hi ∧ hi ≤ w.heap.size ∧ w.there g 0 (n * 4) ∧ ∃ (ss : Nat → Value) (lo up : Nat → Nat), (∀ j (h : j < cs.length), ElX KN w g j cs[j] (ss j) (lo j) (up j) ∧ base ≤ lo j ∧ up j ≤ hi ∧ (g < lo j ∨ up j ≤ g)) ∧ (∀ i j, i < j → j < cs.length → up i ≤ lo j)
theorem FI.frame {base hi g n : Nat} {w w' : World} {cs : List Ch} (h : FI base hi w g n cs) (hb : ∀ c, base ≤ c → c < hi → w'.heap[c]? = w.heap[c]?) (hs : w.heap.size ≤ w'.heap.size) : FI base hi w' g n cs := by
  obtain ⟨h1, h2, h3, h4, ss, lo, up, h5, h6⟩ := h
  have hg := hb g h1 h2
  refine ⟨h1, h2, by omega, fun i hi' => ?_, ss, lo, up, fun j hj => ?_, h6⟩
  · have := h4 i hi'
    simp only [World.cell?, World.frozen?, hg] at this ⊢
    exact this
  · obtain ⟨a1, a2, a3, a4⟩ := h5 j hj
    exact ⟨a1.blk hg (fun c c1 c2 => hb c (by omega) (by omega)) hs, a2, a3, a4⟩
theorem FI.nil {base hi g n : Nat} {w : World} (h1 : base ≤ g) (h2 : g < hi) (h3 : hi ≤ w.heap.size) (h4 : w.there g 0 (n * 4)) : FI base hi w g n [] :=
  ⟨h1, h2, h3, h4, fun _ => .bool false, fun _ => 0, fun _ => 0, fun j hj => absurd hj (by simp), fun i j _ hj => absurd hj (by simp)⟩
theorem FI.done {base hi g n : Nat} {w : World} {cs : List Ch} (h : FI base hi w g n cs) (hn : cs.length = n) : LC KN base hi w (.slice (some ⟨g, 0, none⟩) n n) cs := by
  subst hn
  obtain ⟨h1, h2, h3, h4, ss, lo, up, h5, h6⟩ := h
  exact ⟨h3, .inr ⟨g, cs.length, ss, lo, up, rfl, Nat.le_refl _, h1, h2, h4, h5, fun i j hne hi' hj => (Nat.lt_or_gt_of_ne hne).elim (fun q => .inl (h6 i j q hj)) (fun q => .inr (h6 j i q hi'))⟩⟩
theorem FI.next {base hi g n i l u : Nat} {w : World} {cs : List Ch} {x : Ch} {sv : Value} (h : FI base hi w g n cs) (hi' : cs.length = i) (hin : i < n) (hs : KN.sub l u w sv x) (hl : hi ≤ l) (hg : g < l) (hbl : base ≤ l) :
    FI base w.heap.size ((((w.setCell ⟨g, i * 4, none⟩ (.int .i64 x.1)).setCell ⟨g, i * 4 + 1, none⟩ (.bool x.2.1)).setCell ⟨g, i * 4 + 2, none⟩ (.int .i64 x.2.2.1)).setCell ⟨g, i * 4 + 3, none⟩ sv) g n (cs ++ [x]) := by
  subst hi'
  obtain ⟨h1, h2, h3, h4, ss, lo, up, h5, h6⟩ := h
  have hu := KN.top hs
  obtain ⟨v0, s0, r0⟩ := there_at h4 (show cs.length * 4 < n * 4 by omega)
  obtain ⟨v1, s1, r1⟩ := there_at h4 (show cs.length * 4 + 1 < n * 4 by omega)
  obtain ⟨v2, s2, r2⟩ := there_at h4 (show cs.length * 4 + 2 < n * 4 by omega)
  obtain ⟨v3, s3, r3⟩ := there_at h4 (show cs.length * 4 + 3 < n * 4 by omega)
  refine ⟨h1, by omega, by simp only [World.size_setCell]; exact Nat.le_refl _, there_set (there_set (there_set (there_set h4 _) _) _) _, fun j => if j = cs.length then sv else ss j, fun j => if j = cs.length then l else lo j, fun j => if j = cs.length then u else up j, fun j hj => ?_, fun i j hij hj => ?_⟩
  · by_cases e : j = cs.length
    · subst e
      simp only [if_true]
      have er : (cs ++ [x])[cs.length]'(by simp) = x := by simp
      rw [er]
      refine ⟨⟨fun t ht => ?_, KN.frame hs (fun c c1 c2 => by rw [Below.heap_setCell _ _ _ _ (by dsimp only; omega), Below.heap_setCell _ _ _ _ (by dsimp only; omega), Below.heap_setCell _ _ _ _ (by dsimp only; omega), Below.heap_setCell _ _ _ _ (by dsimp only; omega)]) (by simp)⟩, hbl, by omega, .inl hg⟩
      have ht4 : t < 4 := ht
      rcases (show t = 0 ∨ t = 1 ∨ t = 2 ∨ t = 3 by omega) with e | e | e | e <;> subst e
      · show World.cell? _ ⟨g, cs.length * 4 + 0, none⟩ = some (Value.int .i64 x.1)
        rw [Nat.add_zero, World.cell?_setCell_other _ _ _ _ (by simp), World.cell?_setCell_other _ _ _ _ (by simp), World.cell?_setCell_other _ _ _ _ (by simp)]
        exact World.cell?_setCell_same _ _ _ s0
      · show World.cell? _ ⟨g, cs.length * 4 + 1, none⟩ = some (Value.bool x.2.1)
        rw [World.cell?_setCell_other _ _ _ _ (by simp), World.cell?_setCell_other _ _ _ _ (by simp)]
        exact World.cell?_setCell_same _ _ _ (by rw [World.cell?_setCell_other _ _ _ _ (by simp)]; exact s1)
      · show World.cell? _ ⟨g, cs.length * 4 + 2, none⟩ = some (Value.int .i64 x.2.2.1)
        rw [World.cell?_setCell_other _ _ _ _ (by simp)]
        exact World.cell?_setCell_same _ _ _ (by rw [World.cell?_setCell_other _ _ _ _ (by simp), World.cell?_setCell_other _ _ _ _ (by simp)]; exact s2)
      · show World.cell? _ ⟨g, cs.length * 4 + 3, none⟩ = some sv
        exact World.cell?_setCell_same _ _ _ (by rw [World.cell?_setCell_other _ _ _ _ (by simp), World.cell?_setCell_other _ _ _ _ (by simp), World.cell?_setCell_other _ _ _ _ (by simp)]; exact s3)
    · have hjl : j < cs.length := by simp at hj; omega
      simp only [if_neg e]
      have er : (cs ++ [x])[j]'(by simpa using hj) = cs[j] := by rw [List.getElem_append_left hjl]
      rw [er]
      obtain ⟨a1, a2, a3, a4⟩ := h5 j hjl
      exact ⟨(((a1.set a4 (by show _ < j * 4 ∨ j * 4 + 4 ≤ _; omega) _).set a4 (by show _ < j * 4 ∨ j * 4 + 4 ≤ _; omega) _).set a4 (by show _ < j * 4 ∨ j * 4 + 4 ≤ _; omega) _).set a4 (by show _ < j * 4 ∨ j * 4 + 4 ≤ _; omega) _, a2, by omega, a4⟩
  · have hil : i < cs.length := by simp at hj; omega
    simp only [if_neg (show i ≠ cs.length by omega)]
    by_cases e : j = cs.length
    · simp only [if_pos e]
      obtain ⟨_, _, a3, _⟩ := h5 i hil
      omega
    · simp only [if_neg e]
      exact h6 i j hij (by simp at hj; omega)
/-- What changesOfBytes answers. -/
def COB (w : World) (o : Option (List Ch)) (e : Ending) (w' : World) : Prop :=
  Below w.heap.size w w' ∧ ((o = none ∧ Refused e) ∨ ∃ cs b, o = some cs ∧ e = .returned (.slice (some ⟨b, 0, none⟩) cs.length cs.length) ∧ LC KN (w.heap.size + 1) w'.heap.size w' (.slice (some ⟨b, 0, none⟩) cs.length cs.length) cs)
theorem cob_refused {w w' : World} {o : Option (List Ch)} {t : ByteArray} (h : o = none) (hb : Below w.heap.size w w') : COB w o (.panicked [{ v := .iface 103 (.agg #[.string t]), recovered := false }]) w' := ⟨hb, .inl ⟨h, ⟨_, rfl⟩⟩⟩
theorem cob_given {w w' : World} {o : Option (List Ch)} {cs : List Ch} {b n : Nat} (h : o = some cs) (hn : cs.length = n) (hl : FI (w.heap.size + 1) w'.heap.size w' b n cs) (hb : Below w.heap.size w w') : COB w o (.returned (.slice (some ⟨b, 0, none⟩) n n)) w' := by
  have := hl.done hn
  subst hn
  exact ⟨hb, .inr ⟨cs, b, h, rfl, this⟩⟩
theorem lc_mono {α : Type} {K : Kd α} {base base' hi : Nat} {w : World} {v : Value} {xs : List α} (h : LC K base hi w v xs) (hb : base' ≤ base) : LC K base' hi w v xs := by
  obtain ⟨h0, h⟩ := h
  rcases h with h | ⟨g, cap, ss, lo, up, e, h1, h2, h3, h4, h5, h6⟩
  · exact ⟨h0, .inl h⟩
  · exact ⟨h0, .inr ⟨g, cap, ss, lo, up, e, h1, by omega, h3, h4, fun j hj => ⟨(h5 j hj).1, by have := (h5 j hj).2.1; omega, (h5 j hj).2.2⟩, h6⟩⟩
set_option maxRecDepth 100000 in
set_option maxHeartbeats 8000000 in
theorem cob_all (s : ByteArray) (hs : s.size ≤ 1048576) (w : World) : Calls Tryz.prog 57 #[.string s] w fun e w' => COB w (gcP s) e w' := by
  have hmx : s.size ≤ maxLen := by unfold maxLen; omega
  cases h0 : rd s 0 with
  | none =>
    have HO := hid (gcP_1 h0)
    go_enter Tryz.func57, Tryz.ntmps57
    go_wp2_with fail
    have r0 : RdAt (w.alloc (.cells #[.string s, .int .i64 0] 107)) w.heap.size s 0 := new_alloc w w.heap.size (.cells #[.string s, .int .i64 0] 107) rfl
    have hB0 := balloc (Below.refl w.heap.size w) (.cells #[.string s, .int .i64 0] 107)
    have hz0 : w.heap.size < (w.alloc (.cells #[.string s, .int .i64 0] 107)).heap.size := by simp
    generalize w.alloc (.cells #[.string s, .int .i64 0] 107) = W0 at *
    refine (number_no W0 w.heap.size s 0 hmx r0 h0).mono ?_
    rintro e W1 ⟨⟨v, rfl⟩, q, rfl⟩
    go_wp2_with fail
    exact ⟨rfl, cob_refused HO.out (by exact ⟨hB0.os, hB0.tape, hB0.output, hB0.size, hB0.block⟩)⟩
  | some r =>
    obtain ⟨n, p⟩ := r
    by_cases hgr : 100 < n
    · have HO := hid (gcP_2 h0 hgr)
      have c1 : (100 : Int) < (n : Int) := by omega
      go_enter Tryz.func57, Tryz.ntmps57
      go_wp2_with fail
      have r0 : RdAt (w.alloc (.cells #[.string s, .int .i64 0] 107)) w.heap.size s 0 := new_alloc w w.heap.size (.cells #[.string s, .int .i64 0] 107) rfl
      have hB0 := balloc (Below.refl w.heap.size w) (.cells #[.string s, .int .i64 0] 107)
      have hz0 : w.heap.size < (w.alloc (.cells #[.string s, .int .i64 0] 107)).heap.size := by simp
      generalize w.alloc (.cells #[.string s, .int .i64 0] 107) = W0 at *
      refine (number_ok W0 w.heap.size s 0 n p hmx r0 h0).mono ?_
      rintro e W1 ⟨rfl, r1, hg1⟩
      have hB1 := bgrown hB0 hg1 (Nat.le_refl _)
      go_wp2_with fail
      exact ⟨rfl, cob_refused HO.out hB1⟩
    have hn : n ≤ 100 := by omega
    have c1 : (n : Int) ≤ 100 := by omega
    have HN := hid (fun hr => gcP_3 h0 hn hr)
    have HY := hid (fun l e hr => gcP_4 (l := l) (e := e) h0 hn hr)
    have hmk := make_chs n (by omega)
    have HH0 := hid h0
    clear h0 hgr
    generalize gcP s = og at *
    go_enter Tryz.func57, Tryz.ntmps57
    go_wp2_with fail
    have r0 : RdAt (w.alloc (.cells #[.string s, .int .i64 0] 107)) w.heap.size s 0 := new_alloc w w.heap.size (.cells #[.string s, .int .i64 0] 107) rfl
    have hB0 := balloc (Below.refl w.heap.size w) (.cells #[.string s, .int .i64 0] 107)
    have hz0 : w.heap.size < (w.alloc (.cells #[.string s, .int .i64 0] 107)).heap.size := by simp
    generalize w.alloc (.cells #[.string s, .int .i64 0] 107) = W0 at *
    refine (number_ok W0 w.heap.size s 0 n p hmx r0 HH0.out).mono ?_
    rintro e W1 ⟨rfl, r1, hg1⟩
    have hB1 := bgrown hB0 hg1 (Nat.le_refl _)
    have hz1 := hg1.size
    clear hg1 hB0 r0 HH0
    go_wp2_with fail
    have hB2 := balloc hB1 (.cells (madeCells #[.int .i64 0, .bool false, .int .i64 0, .slice none 0 0] (n * 4)) 56)
    have hT := made_ownch W1 n
    have r2 : RdAt (W1.alloc (.cells (madeCells #[.int .i64 0, .bool false, .int .i64 0, .slice none 0 0] (n * 4)) 56)) w.heap.size s p := old_alloc r1
    have hl : W1.heap.size < (W1.alloc (.cells (madeCells #[.int .i64 0, .bool false, .int .i64 0, .slice none 0 0] (n * 4)) 56)).heap.size := by simp
    generalize W1.alloc (.cells (madeCells #[.int .i64 0, .bool false, .int .i64 0, .slice none 0 0] (n * 4)) 56) = V at *
    have hgw : w.heap.size + 1 ≤ W1.heap.size := by omega
    generalize W1.heap.size = g at *
    clear hmk hB1 r1
    have HF0 := hid (FI.nil (base := w.heap.size + 1) (hi := V.heap.size) hgw hl (Nat.le_refl _) hT)
    go_loopw [18] (fun ti wr => ∃ (i q : Nat) (cs : List Ch), ti = .int .i64 i ∧ i ≤ n ∧ Hid (cs.length = i) ∧ Hid (RI s n p i q cs) ∧ Hid (RdAt wr w.heap.size s q) ∧ Hid (FI (w.heap.size + 1) wr.heap.size wr g n cs) ∧ Hid (Below w.heap.size w wr)) (fun ti _ => n - (intOf ti).toNat)
    case atStart => exact ⟨0, p, [], rfl, Nat.zero_le _, hid rfl, hid (RI.zero s n p), hid r2, HF0, hid hB2⟩
    case round =>
      clear HF0 hB2 r2 hT hl
      obtain ⟨i, q, cs, rfl, hi, HLc, HRI, HR, HF, HB⟩ := hrel
      have hwX := HB.out.size
      by_cases hlt : i < n
      · have c2 : (i : Int) < (n : Int) := by omega
        cases h1 : rd s (q : Int) with
        | none =>
          have HO := hid (HN.out (HRI.out.no1 hlt h1))
          have HCH := hid (change_no1 wr w.heap.size s q hs HR.out h1)
          clear h1
          go_wp2_with fail
          refine HCH.out.mono ?_
          rintro e w1 ⟨⟨t, rfl⟩, hgr⟩
          have HB1 := hid (bgrown HB.out hgr (Nat.le_refl _))
          clear hgr
          go_wp2_with fail
          exact ⟨rfl, cob_refused HO.out HB1.out⟩
        | some r =>
          obtain ⟨id, nx⟩ := r
          cases h2 : rd s (nx : Int) with
          | none =>
            have HO := hid (HN.out (HRI.out.no2 hlt h1 h2))
            have HCH := hid (change_no2 wr w.heap.size s q id nx hs HR.out h1 h2)
            clear h1 h2
            go_wp2_with fail
            refine HCH.out.mono ?_
            rintro e w1 ⟨⟨t, rfl⟩, hgr⟩
            have HB1 := hid (bgrown HB.out hgr (Nat.le_refl _))
            clear hgr
            go_wp2_with fail
            exact ⟨rfl, cob_refused HO.out HB1.out⟩
          | some r =>
            obtain ⟨fl, qq⟩ := r
            by_cases hfl : fl = 1
            · subst hfl
              have HRIN := hid (HRI.out.gone hlt h1 h2)
              have HCH := hid (change_gone wr w.heap.size s q id nx qq hs HR.out h1 h2)
              clear h1 h2
              go_wp2_with fail
              refine HCH.out.mono ?_
              rintro e w1 ⟨rfl, hrd, hgr⟩
              have hsz1 := hgr.size
              have HF1 := hid (HF.out.frame (w' := w1) (fun c c1 c2 => hgr.block c c2 (fun e => by injection e with e; omega)) hgr.size)
              have HB1 := hid (bgrown HB.out hgr (Nat.le_refl _))
              have HT1 := HF1.out.2.2.2.1
              have hgl := HF1.out.2.1
              have hgb := HF1.out.1
              obtain ⟨v0, s0, r0⟩ := there_at HT1 (show i * 4 < n * 4 by omega)
              obtain ⟨v1, s1, r1⟩ := there_at HT1 (show i * 4 + 1 < n * 4 by omega)
              obtain ⟨v2, s2, r2⟩ := there_at HT1 (show i * 4 + 2 < n * 4 by omega)
              obtain ⟨v3, s3, r3⟩ := there_at HT1 (show i * 4 + 3 < n * 4 by omega)
              have HFN := hid (HF1.out.next (x := ((id : Int), true, 0, [])) (sv := .slice none 0 0) HLc.out hlt (l := w1.heap.size) (u := w1.heap.size) (.inr ⟨Nat.le_refl _, rfl, rfl⟩) (by omega) (by omega) (by omega))
              have HRN : Hid (RdAt ((((w1.setCell ⟨g, i * 4, none⟩ (.int .i64 id)).setCell ⟨g, i * 4 + 1, none⟩ (.bool true)).setCell ⟨g, i * 4 + 2, none⟩ (.int .i64 0)).setCell ⟨g, i * 4 + 3, none⟩ (.slice none 0 0)) w.heap.size s qq) := hid (set_far (set_far (set_far (set_far hrd (by omega)) (by omega)) (by omega)) (by omega))
              have HBN := hid (bset (bset (bset (bset HB1.out (q := g) (k := i * 4) (by omega) (.int .i64 id)) (q := g) (k := i * 4 + 1) (by omega) (.bool true)) (q := g) (k := i * 4 + 2) (by omega) (.int .i64 0)) (q := g) (k := i * 4 + 3) (by omega) (.slice none 0 0))
              have HLN : Hid ((cs ++ [((id : Int), true, 0, [])]).length = i + 1) := hid (by rw [List.length_append, HLc.out]; rfl)
              clear HCH hgr hrd HF HB HF1 HB1 HT1 HR
              go_wp2_with fail
              go_roundw
              case rel => exact ⟨i + 1, qq, cs ++ [((id : Int), true, 0, [])], by go_num, by omega, HLN, HRIN, HRN, hid (by simpa using HFN.out), HBN⟩
              case measure => simp [intOf]; omega
            · cases h4 : gso s 2000000000 (qq : Int) with
              | none =>
                have HO := hid (HN.out (HRI.out.no3 hlt h1 h2 hfl h4))
                have HCH := hid (change_no3 wr w.heap.size s q id nx fl qq hs HR.out h1 h2 hfl h4)
                clear h1 h2 h4
                go_wp2_with fail
                refine HCH.out.mono ?_
                rintro e w1 ⟨⟨t, rfl⟩, hgr⟩
                have HB1 := hid (bgrown HB.out hgr (Nat.le_refl _))
                clear hgr
                go_wp2_with fail
                exact ⟨rfl, cob_refused HO.out HB1.out⟩
              | some r =>
                obtain ⟨k, l, en⟩ := r
                obtain ⟨⟨qe, rfl, hqe⟩, hl0, hl1⟩ := gso_facts h4
                have HRIN := hid (HRI.out.there hlt h1 h2 hfl h4)
                have HCH := hid (change_there wr w.heap.size s q id nx fl qq k qe l hs HR.out h1 h2 hfl h4)
                clear h1 h2 h4
                go_wp2_with fail
                refine HCH.out.mono ?_
                rintro e w1 ⟨b, rfl, hrd, hgr, hbb, hpo⟩
                have hsz1 := hgr.size
                have HF1 := hid (HF.out.frame (w' := w1) (fun c c1 c2 => hgr.block c c2 (fun e => by injection e with e; omega)) hgr.size)
                have HB1 := hid (bgrown HB.out hgr (Nat.le_refl _))
                have HT1 := HF1.out.2.2.2.1
                have hgl := HF1.out.2.1
                have hgb := HF1.out.1
                obtain ⟨v0, s0, r0⟩ := there_at HT1 (show i * 4 < n * 4 by omega)
                obtain ⟨v1, s1, r1⟩ := there_at HT1 (show i * 4 + 1 < n * 4 by omega)
                obtain ⟨v2, s2, r2⟩ := there_at HT1 (show i * 4 + 2 < n * 4 by omega)
                obtain ⟨v3, s3, r3⟩ := there_at HT1 (show i * 4 + 3 < n * 4 by omega)
                have HFN := hid (HF1.out.next (x := ((id : Int), false, k, l)) (sv := .slice (some ⟨b, 0, none⟩) l.length l.length) HLc.out hlt (l := b) (u := w1.heap.size) (.inl ⟨Nat.le_refl _, b, l.length, rfl, Nat.le_refl _, by show l.length ≤ _; omega, Nat.le_refl _, hpo.1, hpo⟩) (by omega) (by omega) (by omega))
                have HRN : Hid (RdAt ((((w1.setCell ⟨g, i * 4, none⟩ (.int .i64 id)).setCell ⟨g, i * 4 + 1, none⟩ (.bool false)).setCell ⟨g, i * 4 + 2, none⟩ (.int .i64 k)).setCell ⟨g, i * 4 + 3, none⟩ (.slice (some ⟨b, 0, none⟩) l.length l.length)) w.heap.size s qe) := hid (set_far (set_far (set_far (set_far hrd (by omega)) (by omega)) (by omega)) (by omega))
                have HBN := hid (bset (bset (bset (bset HB1.out (q := g) (k := i * 4) (by omega) (.int .i64 id)) (q := g) (k := i * 4 + 1) (by omega) (.bool false)) (q := g) (k := i * 4 + 2) (by omega) (.int .i64 k)) (q := g) (k := i * 4 + 3) (by omega) (.slice (some ⟨b, 0, none⟩) l.length l.length))
                have HLN : Hid ((cs ++ [((id : Int), false, k, l)]).length = i + 1) := hid (by rw [List.length_append, HLc.out]; rfl)
                clear HCH hgr hrd HF HB HF1 HB1 HT1 HR
                go_wp2_with fail
                go_roundw
                case rel => exact ⟨i + 1, qe, cs ++ [((id : Int), false, k, l)], by go_num, by omega, HLN, HRIN, HRN, hid (by simpa using HFN.out), HBN⟩
                case measure => simp [intOf]; omega
      · have c2 : (n : Int) ≤ (i : Int) := by omega
        have hin : i = n := by omega
        have HR2 := HRI.out
        have HL2 := HLc.out
        rw [hin] at HR2 HL2
        have HO := hid (HY.out _ _ HR2.done)
        have HL3 := hid HL2
        clear HR2 hin HRI HY HN HL2 HR
        go_wp2_with fail
        go_ret
        exact cob_given HO.out HL3.out HF.out HB.out
theorem cell1c {w : World} {p : Nat} {a : Value} {t : TypeId} (h : w.heap[p]? = some (.cells #[a] t (0, 0))) : w.cell? ⟨p, 0, none⟩ = some a ∧ w.frozen? ⟨p, 0, none⟩ = false := by
  simp only [World.cell?, World.frozen?, h]
  exact ⟨rfl, by simp⟩
theorem set1c {w : World} {p : Nat} {x u : Value} {t : TypeId} (h : w.heap[p]? = some (.cells #[x] t (0, 0))) : (w.setCell ⟨p, 0, none⟩ u).heap[p]? = some (.cells #[u] t (0, 0)) := by
  have hlt := lt_of_block h
  have h' : w.heap[p] = .cells #[x] t (0, 0) := by simpa [Array.getElem?_eq_getElem hlt] using h
  show (w.heap.modify p _)[p]? = _
  rw [Array.getElem?_eq_getElem (by simpa using hlt), Array.getElem_modify_self, h']
  rfl
/-- The two boxes of the closure: the text and the list. -/
def CB (w0 w : World) (s : ByteArray) (v : Value) : Prop :=
  w.heap[w0.heap.size]? = some (.cells #[.string s] 9 (0, 0)) ∧ w.heap[w0.heap.size + 1]? = some (.cells #[v] 35 (0, 0)) ∧ Below w0.heap.size w0 w
theorem CB.below {w0 w w' : World} {s : ByteArray} {v : Value} (h : CB w0 w s v) (hb : Below w.heap.size w w') : CB w0 w' s v := by
  obtain ⟨h0, h1, h2⟩ := h
  exact ⟨keepheap2 hb h0, keepheap2 hb h1, btrans h2 hb⟩
set_option maxHeartbeats 1000000 in
theorem gc1_no (s : ByteArray) (hs : s.size ≤ 1048576) (w0 w : World) (h : CB w0 w s (.slice none 0 0)) (hn : gcP s = none) : Calls Tryz.prog 56 #[.pointer (some ⟨w0.heap.size, 0, none⟩), .pointer (some ⟨w0.heap.size + 1, 0, none⟩)] w fun e w' => Refused e ∧ CB w0 w' s (.slice none 0 0) := by
  have HS := hid (fun w => cob_all s hs w)
  have HH := hid h
  obtain ⟨h0, h1, h2⟩ := h
  obtain ⟨c0, _⟩ := cell1c h0
  have HN := hid hn
  clear h0 h1 h2 hn
  go_enter Tryz.func56, Tryz.ntmps56
  go_wp2_with fail
  refine (HS.out _).mono ?_
  rintro e w1 ⟨hb, ⟨_, t, rfl⟩ | ⟨cs, b, ho, _⟩⟩
  · go_wp2_with fail
    exact ⟨rfl, ⟨_, rfl⟩, HH.out.below hb⟩
  · rw [HN.out] at ho; cases ho
set_option maxHeartbeats 1000000 in
theorem gc1_yes (s : ByteArray) (hs : s.size ≤ 1048576) (w0 w : World) (h : CB w0 w s (.slice none 0 0)) (cs : List Ch) (hn : gcP s = some cs) : Calls Tryz.prog 56 #[.pointer (some ⟨w0.heap.size, 0, none⟩), .pointer (some ⟨w0.heap.size + 1, 0, none⟩)] w fun e w' => e = .returned (.tuple #[]) ∧ ∃ b, CB w0 w' s (.slice (some ⟨b, 0, none⟩) cs.length cs.length) ∧ LC KN (w0.heap.size + 2) w'.heap.size w' (.slice (some ⟨b, 0, none⟩) cs.length cs.length) cs := by
  have HS := hid (fun w => cob_all s hs w)
  have HH := hid h
  obtain ⟨h0, h1, h2⟩ := h
  have hlt := lt_of_block h1
  obtain ⟨c0, _⟩ := cell1c h0
  have HN := hid hn
  clear h0 h1 h2 hn
  go_enter Tryz.func56, Tryz.ntmps56
  go_wp2_with fail
  refine (HS.out _).mono ?_
  rintro e w1 ⟨hb, ⟨ho, _⟩ | ⟨cs', b, ho, rfl, hl⟩⟩
  · rw [HN.out] at ho; cases ho
  · rw [HN.out] at ho
    simp only [Option.some.injEq] at ho
    subst ho
    obtain ⟨h0, h1, h2⟩ := HH.out.below hb
    obtain ⟨y0, y1⟩ := cell1c h1
    have hw1 := hb.size
    have z1 := set1c (u := .slice (some ⟨b, 0, none⟩) cs.length cs.length) h1
    have z0 := set_far (q := w0.heap.size + 1) (k := 0) (u := .slice (some ⟨b, 0, none⟩) cs.length cs.length) h0 (by omega)
    have z2 := bset h2 (q := w0.heap.size + 1) (k := 0) (by omega) (.slice (some ⟨b, 0, none⟩) cs.length cs.length)
    have zl : LC KN (w0.heap.size + 2) (w1.setCell ⟨w0.heap.size + 1, 0, none⟩ (.slice (some ⟨b, 0, none⟩) cs.length cs.length)).heap.size (w1.setCell ⟨w0.heap.size + 1, 0, none⟩ (.slice (some ⟨b, 0, none⟩) cs.length cs.length)) (.slice (some ⟨b, 0, none⟩) cs.length cs.length) cs := by
      have hf := hl.frame (w' := w1.setCell ⟨w0.heap.size + 1, 0, none⟩ (.slice (some ⟨b, 0, none⟩) cs.length cs.length)) (fun c c1 c2 => Below.heap_setCell _ _ _ _ (by dsimp only; omega)) (by simp)
      simp only [World.size_setCell]
      exact lc_mono hf (by omega)
    have HZ := hid (show CB w0 _ s (.slice (some ⟨b, 0, none⟩) cs.length cs.length) ∧ LC KN (w0.heap.size + 2) (w1.setCell ⟨w0.heap.size + 1, 0, none⟩ (.slice (some ⟨b, 0, none⟩) cs.length cs.length)).heap.size (w1.setCell ⟨w0.heap.size + 1, 0, none⟩ (.slice (some ⟨b, 0, none⟩) cs.length cs.length)) (.slice (some ⟨b, 0, none⟩) cs.length cs.length) cs from ⟨⟨z0, z1, z2⟩, zl⟩)
    clear z0 z1 z2 zl hl HH HN HS
    go_wp2_with fail
    go_end0
    exact ⟨rfl, b, HZ.out⟩
end Go.Proofs.YtfjmbbjcghopgaaGreatDoor
namespace Go.Proofs.YtfjmbbjcghopgaaGreatDoor
open Go.RowKit
set_option linter.unusedSimpArgs false
set_option linter.unusedVariables false
theorem lc_up {α : Type} {K : Kd α} {base hi hi' : Nat} {w : World} {v : Value} {xs : List α} (h : LC K base hi w v xs) (hh : hi ≤ hi') (hs : hi' ≤ w.heap.size) : LC K base hi' w v xs := by
  obtain ⟨h0, h⟩ := h
  rcases h with h | ⟨g, cap, ss, lo, up, e, h1, h2, h3, h4, h5, h6⟩
  · exact ⟨hs, .inl h⟩
  · exact ⟨hs, .inr ⟨g, cap, ss, lo, up, e, h1, h2, by omega, h4, fun j hj => ⟨(h5 j hj).1, (h5 j hj).2.1, by have := (h5 j hj).2.2.1; omega, (h5 j hj).2.2.2⟩, h6⟩⟩
theorem rcI_len (s : ByteArray) : ∀ (n : Nat) (i : Int) (l : List Ch) (e : Int), rcI s n i = some (l, e) → l.length = n
  | 0, i, l, e, h => by simp only [rcI, Option.some.injEq, Prod.mk.injEq] at h; rw [← h.1]; rfl
  | n + 1, i, l, e, h => by
    simp only [rcI] at h
    split at h
    · cases h
    · split at h
      · cases h
      · split at h
        · rw [Option.map_eq_some_iff] at h
          obtain ⟨r, hr, h⟩ := h
          simp only [Prod.mk.injEq] at h
          rw [← h.1, List.length_cons, rcI_len s n _ _ _ hr]
        · split at h
          · cases h
          · rw [Option.map_eq_some_iff] at h
            obtain ⟨r, hr, h⟩ := h
            simp only [Prod.mk.injEq] at h
            rw [← h.1, List.length_cons, rcI_len s n _ _ _ hr]
theorem gcP_len {s : ByteArray} {cs : List Ch} (h : gcP s = some cs) : cs.length ≤ 100 := by
  unfold gcP at h
  split at h
  · cases h
  · rename_i n p h1
    split at h
    · cases h
    · cases hr : rcI s n p with
      | none => rw [hr] at h; simp at h
      | some r =>
        obtain ⟨l, e⟩ := r
        rw [hr] at h
        simp only [Option.map_some, Option.some.injEq] at h
        subst h
        have := rcI_len s n _ _ _ hr
        omega
theorem gcS_S (s : ByteArray) : chS ((gcS s).getD []) ∧ ((gcS s).getD []).length ≤ 100 := by
  cases h : gcS s with
  | none => exact ⟨⟨by simp, fun m hm => absurd hm (by simp)⟩, by simp⟩
  | some cs =>
    obtain ⟨h1, h2⟩ := gcS_of h
    have hp : pcb cs = true := by
      cases hp : pcb cs
      · unfold pcT at h1; rw [hp, if_neg (by simp)] at h1; subst h1; exact absurd h2 (by decide)
      · rfl
    unfold pcb at hp
    rw [Bool.and_eq_true, decide_eq_true_eq] at hp
    refine ⟨⟨by show cs.length ≤ _; omega, fun m hm => ?_⟩, hp.2⟩
    have hm' : m < cs.length := hm
    have hb := cgs_all hp.1 m hm'
    show (cs[m]).2.2.2.length ≤ _
    cases hg : (cs[m]).2.1
    · have := (cgb_parts hb).2 hg
      rcases shok_kind this with q | q | q | q <;> omega
    · rw [cgb_gone hb hg]; simp
set_option maxRecDepth 100000 in
set_option maxHeartbeats 4000000 in
theorem impl_GetChanges (s : ByteArray) (hs : s.size ≤ 1048576) (w : World) (hg : w.cell? ⟨0, 0, none⟩ = some (.iface 143 (.agg #[.pointer (some ⟨1, 100, none⟩)]))) : Calls Tryz.prog 41 #[.string s] w fun e w' => GCA w (gcI s) e w' := by
  have hmf : ∀ (fn : Fn) (first cap : Array Value) (w : World), (Instr.makeFunc fn first cap).run Tryz.prog w = .ok (.func fn first cap) w := fun _ _ _ _ => rfl
  cases hn : gcP s with
  | none =>
    have HO := hid (gcI_no hn)
    have HW := hid (fun (W : World) (h : CB w W s (.slice none 0 0)) => whole_no_c _ W _ (gc1_no s hs w W h hn) (fun w' h' => keepcell (h'.2.2) hg))
    clear hn
    go_enter Tryz.func41, Tryz.ntmps41
    go_wp2_with fail
    have hG : CB w ((w.alloc (.cells #[.string s] 9)).alloc (.cells #[.slice none 0 0] 35)) s (.slice none 0 0) := ⟨old_alloc (new_alloc _ _ _ rfl), new_alloc _ _ _ (by simp), balloc (balloc (Below.refl _ _) _) _⟩
    generalize ((w.alloc (.cells #[.string s] 9)).alloc (.cells #[.slice none 0 0] 35)) = W at *
    refine (HW.out _ hG).mono ?_
    rintro e w1 ⟨rfl, w2, hZ', hb⟩
    have hZ := hZ'.below hb
    clear hZ' hb hG HW
    obtain ⟨h0, h1, h2⟩ := hZ
    have HB := hid h2
    clear h0 h1 h2
    have HBd := hid (fun q => Go.RowKit.Below.trans HB.out (show Below w.heap.size w1 (w1.drewN q) from ⟨rfl, rfl, rfl, Nat.le_refl _, fun _ _ => rfl⟩))
    go_wp2_with fail
    go_quiet (fail)
    go_wp2_with fail
    go_ret2
    exact gca_no HO.out (HBd.out _)
  | some cs =>
    have HO := hid (gcI_yes hn)
    have hlen := gcP_len hn
    have HW := hid (fun (W : World) (h : CB w W s (.slice none 0 0)) => whole_ok_c _ W _ (gc1_yes s hs w W h cs hn))
    clear hn
    generalize gcI s = og at *
    go_enter Tryz.func41, Tryz.ntmps41
    go_wp2_with fail
    have hG : CB w ((w.alloc (.cells #[.string s] 9)).alloc (.cells #[.slice none 0 0] 35)) s (.slice none 0 0) := ⟨old_alloc (new_alloc _ _ _ rfl), new_alloc _ _ _ (by simp), balloc (balloc (Below.refl _ _) _) _⟩
    generalize ((w.alloc (.cells #[.string s] 9)).alloc (.cells #[.slice none 0 0] 35)) = W at *
    refine (HW.out _ hG).mono ?_
    rintro e w1 ⟨rfl, b, hZ, hL⟩
    clear hG HW
    obtain ⟨h0, h1, h2⟩ := hZ
    have HB := hid h2
    have HL := hid hL
    obtain ⟨x0, _⟩ := cell1c h0
    obtain ⟨x1, _⟩ := cell1c h1
    have MP := hid (fun (W : World) (hb : Below w1.heap.size w1 W) => impl_PutChanges (some ⟨b, 0, none⟩) cs.length cs W (by omega) (HL.out.chsN.below hb))
    have HH1 := hid h1
    clear h0 h1 h2 hL
    by_cases hq2 : pcT cs = s
    · rw [if_pos hq2] at HO
      have hne : ((pcT cs).toList == s.toList) = true := by rw [hq2]; simp
      clear hq2
      generalize pcT cs = tt at *
      go_wp2_with fail
      go_region_held3 (fun w' => w'.cell? ⟨w.heap.size + 1, 0, none⟩ = some (.slice (some ⟨b, 0, none⟩) cs.length cs.length) ∧ w'.cell? ⟨w.heap.size, 0, none⟩ = some (.string s)) ((go_split_ands; (repeat' apply And.intro) <;> (repeat (first | with_reducible assumption | with_reducible refine keepdrew ?_ | with_reducible refine keepcell (by with_reducible assumption) ?_ | with_reducible refine keepalloc ?_ _))))
        (first
          | (go_at_call 58; refine (MP.out _ (bdrew (Below.refl _ _))).mono ?_; rintro e y5 ⟨rfl, hB5⟩))
      all_goals
        have hB6 := btrans (bdrew (Below.refl w1.heap.size w1)) hB5
        have g1 := keepheap2 hB6 HH1.out
        have HB6 := hid (btrans HB.out hB6)
        have HL6 : Hid (LC KN w.heap.size y5.heap.size y5 (.slice (some ⟨b, 0, none⟩) cs.length cs.length) cs) := hid (lc_mono (lc_up (HL.out.below hB6) hB6.size (Nat.le_refl _)) (by omega))
        clear x0 x1
        obtain ⟨x1, _⟩ := cell1c g1
        go_wp2_with fail
        go_ret2
        exact gca_yes HO.out HL6.out rfl HB6.out
    · rw [if_neg hq2] at HO
      have hne : ((pcT cs).toList == s.toList) = false := by
        rw [beq_eq_false_iff_ne]
        intro e
        rw [ByteArray.toList_eq, ByteArray.toList_eq] at e
        exact hq2 (ByteArray.ext (Array.ext' e))
      clear hq2
      generalize pcT cs = tt at *
      go_wp2_with fail
      go_region_held3 (fun w' => w'.cell? ⟨w.heap.size + 1, 0, none⟩ = some (.slice (some ⟨b, 0, none⟩) cs.length cs.length) ∧ w'.cell? ⟨w.heap.size, 0, none⟩ = some (.string s)) ((go_split_ands; (repeat' apply And.intro) <;> (repeat (first | with_reducible assumption | with_reducible refine keepdrew ?_ | with_reducible refine keepcell (by with_reducible assumption) ?_ | with_reducible refine keepalloc ?_ _))))
        (first
          | (go_at_call 58; refine (MP.out _ (bdrew (Below.refl _ _))).mono ?_; rintro e y5 ⟨rfl, hB5⟩))
      all_goals
        have hB6 := btrans (bdrew (Below.refl w1.heap.size w1)) hB5
        have HB6 := hid (btrans HB.out hB6)
        go_wp2_with fail
        go_ret2
        exact gca_no HO.out HB6.out
end Go.Proofs.YtfjmbbjcghopgaaGreatDoor
