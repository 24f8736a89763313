/- Points that are drawn for the laws of turns and sides. -/
import Derived.Test.YtkncdncpgjpemaaDrawP
namespace Go.Proofs.Ytkncdncpgjpemaa
open Go.RowKit
set_option linter.unusedVariables false
set_option linter.unusedSimpArgs false
theorem new_q (w : World) (a : Option Addr) (len cap : Nat) (hc : CodeAt w a len w.heap.size) : Calls Try.prog 67 #[.slice a len cap] w fun e w' => ∃ p : Nat, e = .returned (.pointer (some ⟨p, 0, none⟩)) ∧ w.heap.size = p ∧ Ready w' p a len cap ∧ (∀ (n : Nat) (o : Obj), w.heap[n]? = some o → w'.heap[n]? = some o) ∧ Below w.heap.size w w' := by
  refine (new_c w a len cap hc).mono ?_
  rintro e w1 ⟨h, rfl, rfl⟩
  exact ⟨_, rfl, rfl, ready_new w a len cap h hc, fun n o h => old_alloc h, balloc (Below.refl _ _) _⟩
set_option maxRecDepth 100000 in
set_option maxHeartbeats 1000000 in
theorem draw_turn (w : World) (a : Option Addr) (len cap : Nat) (hc : CodeAt w a len w.heap.size) : Calls Try.prog 13 #[.slice a len cap] w fun e w' => ∃ ax ay bx bY cx cy : Int, e = .returned (.tuple #[.agg #[.int .i64 ax, .int .i64 ay], .agg #[.int .i64 bx, .int .i64 bY], .agg #[.int .i64 cx, .int .i64 cy]]) ∧ Below w.heap.size w w' := by
  go_enter Try.func13, Try.ntmps13
  go_wp2_with fail
  have g0 : (((w.alloc (.cells #[.int .i64 0, .int .i64 0] 25)).alloc (.cells #[.int .i64 0, .int .i64 0] 25)).alloc (.cells #[.int .i64 0, .int .i64 0] 25)).heap[w.heap.size]? = some (.cells #[.int .i64 0, .int .i64 0] 25 (0, 0)) := by (repeat (first | with_reducible assumption | (with_reducible refine new_alloc _ _ _ ?_; (first | rfl | (simp; done))) | with_reducible refine old_alloc ?_))
  have g1 : (((w.alloc (.cells #[.int .i64 0, .int .i64 0] 25)).alloc (.cells #[.int .i64 0, .int .i64 0] 25)).alloc (.cells #[.int .i64 0, .int .i64 0] 25)).heap[w.heap.size + 1]? = some (.cells #[.int .i64 0, .int .i64 0] 25 (0, 0)) := by (repeat (first | with_reducible assumption | (with_reducible refine new_alloc _ _ _ ?_; (first | rfl | (simp; done))) | with_reducible refine old_alloc ?_))
  have g2 : (((w.alloc (.cells #[.int .i64 0, .int .i64 0] 25)).alloc (.cells #[.int .i64 0, .int .i64 0] 25)).alloc (.cells #[.int .i64 0, .int .i64 0] 25)).heap[w.heap.size + 1 + 1]? = some (.cells #[.int .i64 0, .int .i64 0] 25 (0, 0)) := by (repeat (first | with_reducible assumption | (with_reducible refine new_alloc _ _ _ ?_; (first | rfl | (simp; done))) | with_reducible refine old_alloc ?_))
  have hb0 : Below w.heap.size w (((w.alloc (.cells #[.int .i64 0, .int .i64 0] 25)).alloc (.cells #[.int .i64 0, .int .i64 0] 25)).alloc (.cells #[.int .i64 0, .int .i64 0] 25)) := by (repeat (first | with_reducible exact Below.refl _ _ | with_reducible assumption | (with_reducible refine btrans ?_ (by with_reducible assumption)) | with_reducible refine bdrew ?_ | with_reducible refine balloc ?_ _))
  have hc0 : CodeAt (((w.alloc (.cells #[.int .i64 0, .int .i64 0] 25)).alloc (.cells #[.int .i64 0, .int .i64 0] 25)).alloc (.cells #[.int .i64 0, .int .i64 0] 25)) a len (((w.alloc (.cells #[.int .i64 0, .int .i64 0] 25)).alloc (.cells #[.int .i64 0, .int .i64 0] 25)).alloc (.cells #[.int .i64 0, .int .i64 0] 25)).heap.size := (hc.below hb0).mono (by simp <;> omega)
  have hz0 : (((w.alloc (.cells #[.int .i64 0, .int .i64 0] 25)).alloc (.cells #[.int .i64 0, .int .i64 0] 25)).alloc (.cells #[.int .i64 0, .int .i64 0] 25)).heap.size = w.heap.size + 3 := by simp
  generalize (((w.alloc (.cells #[.int .i64 0, .int .i64 0] 25)).alloc (.cells #[.int .i64 0, .int .i64 0] 25)).alloc (.cells #[.int .i64 0, .int .i64 0] 25)) = v0 at g0 g1 g2 hb0 hc0 hz0 ⊢
  refine (new_q _ a len cap hc0).mono ?_
  rintro e v1 ⟨p, rfl, hp0, hr, hold, hbn⟩
  have hlt := hr.lt
  replace g0 := hold _ _ g0
  replace g1 := hold _ _ g1
  replace g2 := hold _ _ g2
  replace hb0 := btrans hb0 hbn
  have hpw : w.heap.size ≤ p := by omega
  have hpv : ∀ x, x < v0.heap.size → x ≠ p := by intro x hx; omega
  clear hbn hold hc0
  go_wp2_with fail
  refine (point_r _ p a len cap hr).mono ?_
  rintro e v2 ⟨ax, ay, rfl, _, _, hr2, hg⟩
  replace g0 := grown_blk hg g0 (by omega)
  replace g1 := grown_blk hg g1 (by omega)
  replace g2 := grown_blk hg g2 (by omega)
  replace hb0 := bgrown hb0 hg hpw
  have hsv2 := hg.size
  clear hr hg
  rename Ready v2 p a len cap => hr
  go_wp2_with fail
  replace g0 := old_alloc (o' := .cells #[.int .i64 ax, .int .i64 ay] 25) g0
  replace g1 := old_alloc (o' := .cells #[.int .i64 ax, .int .i64 ay] 25) g1
  replace g2 := old_alloc (o' := .cells #[.int .i64 ax, .int .i64 ay] 25) g2
  have gv3 := new_alloc v2 v2.heap.size (.cells #[.int .i64 ax, .int .i64 ay] 25) rfl
  replace hr := hr.alloc (.cells #[.int .i64 ax, .int .i64 ay] 25)
  replace hb0 := balloc hb0 (.cells #[.int .i64 ax, .int .i64 ay] 25)
  have hzv3 : (v2.alloc (.cells #[.int .i64 ax, .int .i64 ay] 25)).heap.size = v2.heap.size + 1 := by simp
  have hqv3 : p < v2.heap.size := by have := hr.lt; omega
  generalize (v2.alloc (.cells #[.int .i64 ax, .int .i64 ay] 25)) = v3 at g0 g1 g2 gv3 hr hb0 hzv3 ⊢
  generalize hkv3 : v2.heap.size = qv3 at *
  refine (point_r _ p a len cap hr).mono ?_
  rintro e v4 ⟨bx, bY, rfl, _, _, hr2, hg⟩
  replace g0 := grown_blk hg g0 (by omega)
  replace g1 := grown_blk hg g1 (by omega)
  replace g2 := grown_blk hg g2 (by omega)
  replace gv3 := grown_blk hg gv3 (by omega)
  replace hb0 := bgrown hb0 hg hpw
  have hsv4 := hg.size
  clear hr hg
  rename Ready v4 p a len cap => hr
  go_wp2_with fail
  replace g0 := old_alloc (o' := .cells #[.int .i64 bx, .int .i64 bY] 25) g0
  replace g1 := old_alloc (o' := .cells #[.int .i64 bx, .int .i64 bY] 25) g1
  replace g2 := old_alloc (o' := .cells #[.int .i64 bx, .int .i64 bY] 25) g2
  replace gv3 := old_alloc (o' := .cells #[.int .i64 bx, .int .i64 bY] 25) gv3
  have gv5 := new_alloc v4 v4.heap.size (.cells #[.int .i64 bx, .int .i64 bY] 25) rfl
  replace hr := hr.alloc (.cells #[.int .i64 bx, .int .i64 bY] 25)
  replace hb0 := balloc hb0 (.cells #[.int .i64 bx, .int .i64 bY] 25)
  have hzv5 : (v4.alloc (.cells #[.int .i64 bx, .int .i64 bY] 25)).heap.size = v4.heap.size + 1 := by simp
  have hqv5 : p < v4.heap.size := by have := hr.lt; omega
  generalize (v4.alloc (.cells #[.int .i64 bx, .int .i64 bY] 25)) = v5 at g0 g1 g2 gv3 gv5 hr hb0 hzv5 ⊢
  generalize hkv5 : v4.heap.size = qv5 at *
  replace g0 : v5.drew.heap[w.heap.size]? = some (.cells #[.int .i64 0, .int .i64 0] 25 (0, 0)) := g0
  replace g1 : v5.drew.heap[w.heap.size + 1]? = some (.cells #[.int .i64 0, .int .i64 0] 25 (0, 0)) := g1
  replace g2 : v5.drew.heap[w.heap.size + 1 + 1]? = some (.cells #[.int .i64 0, .int .i64 0] 25 (0, 0)) := g2
  replace gv3 : v5.drew.heap[qv3]? = some (.cells #[.int .i64 ax, .int .i64 ay] 25 (0, 0)) := gv3
  replace gv5 : v5.drew.heap[qv5]? = some (.cells #[.int .i64 bx, .int .i64 bY] 25 (0, 0)) := gv5
  replace hr : Ready v5.drew p a len cap := hr
  replace hb0 := bdrew hb0
  obtain ⟨lgv3c0, lgv3c1, lgv3f0, lgv3f1⟩ := cell2g gv3
  obtain ⟨lgv5c0, lgv5c1, lgv5f0, lgv5f1⟩ := cell2g gv5
  refine wp_region_held_drew (S := (fun w' => w'.cell? ⟨qv3, 0, none⟩ = some (.int .i64 ax) ∧ w'.cell? ⟨qv3, 1, none⟩ = some (.int .i64 ay) ∧ w'.cell? ⟨qv5, 0, none⟩ = some (.int .i64 bx) ∧ w'.cell? ⟨qv5, 1, none⟩ = some (.int .i64 bY))) (by kernel_rfl) ?_ (fun hHeld => ?_)
  · (repeat' apply And.intro) <;> (with_reducible assumption)
  generalize v5.drew = v6 at hHeld hr hb0 g0 g1 g2 gv3 gv5 lgv3c0 lgv3c1 lgv5c0 lgv5c1 ⊢
  refine wpAnyH_take (i := 0) (v := ?_) rfl (by kernel_rfl) (by kernel_rfl) (by kernel_rfl) (fun _ _ _ h => h) (Or.inl ⟨by rfl, ?_⟩) hHeld ?_
  rotate_left
  · intro w hSw; (try dsimp only at hSw); go_simp; try (with_reducible rfl)
  try simp only [Act.put, List.getElem_toArray, List.getElem_cons_zero, List.getElem_cons_succ, List.setIfInBounds_toArray, List.set_cons_zero, List.set_cons_succ]
  refine wpAnyH_take (i := 1) (v := ?_) rfl (by kernel_rfl) (by kernel_rfl) (by kernel_rfl) (fun _ _ _ h => h) (Or.inl ⟨by rfl, ?_⟩) hHeld ?_
  rotate_left
  · intro w hSw; (try dsimp only at hSw); go_simp; try (with_reducible rfl)
  try simp only [Act.put, List.getElem_toArray, List.getElem_cons_zero, List.getElem_cons_succ, List.setIfInBounds_toArray, List.set_cons_zero, List.set_cons_succ]
  refine wpAnyH_take (i := 2) (v := ?_) rfl (by kernel_rfl) (by kernel_rfl) (by kernel_rfl) (fun _ _ _ h => h) (Or.inl ⟨by rfl, ?_⟩) hHeld ?_
  rotate_left
  · intro w hSw; (try dsimp only at hSw); go_simp; try (with_reducible rfl)
  try simp only [Act.put, List.getElem_toArray, List.getElem_cons_zero, List.getElem_cons_succ, List.setIfInBounds_toArray, List.set_cons_zero, List.set_cons_succ]
  refine wpAnyH_ready (rs := [3]) (by kernel_rfl) (by simp) ?_
  refine AllReadyH.cons rfl (fun K hK => ?_) AllReadyH.nil
  try simp only [Act.put, List.getElem_toArray, List.getElem_cons_zero, List.getElem_cons_succ, List.setIfInBounds_toArray, List.set_cons_zero, List.set_cons_succ]
  go_simp
  (first
      | (go_at_call 68; refine (point_r _ p a len cap hr).mono ?_; rintro e v7 ⟨cx, cy, rfl, _, _, hr2, hg⟩; replace g0 := grown_blk hg g0 (by omega); replace g1 := grown_blk hg g1 (by omega); replace g2 := grown_blk hg g2 (by omega); replace gv3 := grown_blk hg gv3 (by omega); replace gv5 := grown_blk hg gv5 (by omega); replace hb0 := bgrown hb0 hg hpw; clear hr hg; obtain ⟨ngv3c0, ngv3c1, _, _⟩ := cell2g gv3; obtain ⟨ngv5c0, ngv5c1, _, _⟩ := cell2g gv5))
  go_wp2_with fail
  refine hK.out _ _ ?_ (fun hHeld => ?_)
  · (repeat' apply And.intro) <;> (with_reducible assumption)
  clear hK K
  try simp only [Act.put, List.getElem_toArray, List.getElem_cons_zero, List.getElem_cons_succ, List.setIfInBounds_toArray, List.set_cons_zero, List.set_cons_succ]
  obtain ⟨s4c0, s4c1, s4f0, s4f1⟩ := cell2g g0
  have hset := set2 g0 (.int .i64 ax) (.int .i64 ay)
  replace g0 := hset.1
  replace g1 := hset.2 _ _ (by omega) g1
  replace g2 := hset.2 _ _ (by omega) g2
  replace gv3 := hset.2 _ _ (by omega) gv3
  replace gv5 := hset.2 _ _ (by omega) gv5
  clear hset
  replace hb0 := bset hb0 (q := w.heap.size) (k := 0) (by omega) (.int .i64 ax)
  replace hb0 := bset hb0 (q := w.heap.size) (k := 1) (by omega) (.int .i64 ay)
  obtain ⟨t4gv3c0, t4gv3c1, _, _⟩ := cell2g gv3
  obtain ⟨t4gv5c0, t4gv5c1, _, _⟩ := cell2g gv5
  refine wpAnyH_ready (rs := [4]) (by kernel_rfl) (by simp) ?_
  refine AllReadyH.cons rfl (fun K hK => ?_) AllReadyH.nil
  try simp only [Act.put, List.getElem_toArray, List.getElem_cons_zero, List.getElem_cons_succ, List.setIfInBounds_toArray, List.set_cons_zero, List.set_cons_succ]
  go_simp
  refine hK.out _ _ ?_ (fun hHeld => ?_)
  · (repeat' apply And.intro) <;> (with_reducible assumption)
  clear hK K
  try simp only [Act.put, List.getElem_toArray, List.getElem_cons_zero, List.getElem_cons_succ, List.setIfInBounds_toArray, List.set_cons_zero, List.set_cons_succ]
  obtain ⟨s5c0, s5c1, s5f0, s5f1⟩ := cell2g g1
  have hset := set2 g1 (.int .i64 bx) (.int .i64 bY)
  replace g0 := hset.2 _ _ (by omega) g0
  replace g1 := hset.1
  replace g2 := hset.2 _ _ (by omega) g2
  replace gv3 := hset.2 _ _ (by omega) gv3
  replace gv5 := hset.2 _ _ (by omega) gv5
  clear hset
  replace hb0 := bset hb0 (q := w.heap.size + 1) (k := 0) (by omega) (.int .i64 bx)
  replace hb0 := bset hb0 (q := w.heap.size + 1) (k := 1) (by omega) (.int .i64 bY)
  obtain ⟨t5gv3c0, t5gv3c1, _, _⟩ := cell2g gv3
  obtain ⟨t5gv5c0, t5gv5c1, _, _⟩ := cell2g gv5
  refine wpAnyH_ready (rs := [5]) (by kernel_rfl) (by simp) ?_
  refine AllReadyH.cons rfl (fun K hK => ?_) AllReadyH.nil
  try simp only [Act.put, List.getElem_toArray, List.getElem_cons_zero, List.getElem_cons_succ, List.setIfInBounds_toArray, List.set_cons_zero, List.set_cons_succ]
  go_simp
  refine hK.out _ _ ?_ (fun hHeld => ?_)
  · (repeat' apply And.intro) <;> (with_reducible assumption)
  clear hK K
  try simp only [Act.put, List.getElem_toArray, List.getElem_cons_zero, List.getElem_cons_succ, List.setIfInBounds_toArray, List.set_cons_zero, List.set_cons_succ]
  obtain ⟨s6c0, s6c1, s6f0, s6f1⟩ := cell2g g2
  have hset := set2 g2 (.int .i64 cx) (.int .i64 cy)
  replace g0 := hset.2 _ _ (by omega) g0
  replace g1 := hset.2 _ _ (by omega) g1
  replace g2 := hset.1
  replace gv3 := hset.2 _ _ (by omega) gv3
  replace gv5 := hset.2 _ _ (by omega) gv5
  clear hset
  replace hb0 := bset hb0 (q := w.heap.size + 1 + 1) (k := 0) (by omega) (.int .i64 cx)
  replace hb0 := bset hb0 (q := w.heap.size + 1 + 1) (k := 1) (by omega) (.int .i64 cy)
  obtain ⟨t6gv3c0, t6gv3c1, _, _⟩ := cell2g gv3
  obtain ⟨t6gv5c0, t6gv5c1, _, _⟩ := cell2g gv5
  refine wpAnyH_ready (rs := [6]) (by kernel_rfl) (by simp) ?_
  refine AllReadyH.cons rfl (fun K hK => ?_) AllReadyH.nil
  try simp only [Act.put, List.getElem_toArray, List.getElem_cons_zero, List.getElem_cons_succ, List.setIfInBounds_toArray, List.set_cons_zero, List.set_cons_succ]
  go_simp
  refine hK.out _ _ ?_ (fun hHeld => ?_)
  · (repeat' apply And.intro) <;> (with_reducible assumption)
  clear hK K
  try simp only [Act.put, List.getElem_toArray, List.getElem_cons_zero, List.getElem_cons_succ, List.setIfInBounds_toArray, List.set_cons_zero, List.set_cons_succ]
  refine wpAnyH_done (by kernel_rfl) ?_ _
  go_wp2_with fail
  generalize ((((((v7.setCell ⟨w.heap.size, 0, none⟩ (.int .i64 ax)).setCell ⟨w.heap.size, 1, none⟩ (.int .i64 ay)).setCell ⟨w.heap.size + 1, 0, none⟩ (.int .i64 bx)).setCell ⟨w.heap.size + 1, 1, none⟩ (.int .i64 bY)).setCell ⟨w.heap.size + 1 + 1, 0, none⟩ (.int .i64 cx)).setCell ⟨w.heap.size + 1 + 1, 1, none⟩ (.int .i64 cy)) = wf at hb0 g0 g1 g2 gv3 gv5 ⊢
  obtain ⟨z0c0, z0c1, _, _⟩ := cell2g g0
  obtain ⟨z1c0, z1c1, _, _⟩ := cell2g g1
  obtain ⟨z2c0, z2c1, _, _⟩ := cell2g g2
  exact bodyPost_ret (v := .tuple #[.agg #[.int .i64 ax, .int .i64 ay], .agg #[.int .i64 bx, .int .i64 bY], .agg #[.int .i64 cx, .int .i64 cy]]) (by simp [results, Try.results13, go_sem, z0c0, z0c1, z1c0, z1c1, z2c0, z2c1]) rfl ⟨ax, ay, bx, bY, cx, cy, rfl, hb0⟩
set_option maxRecDepth 100000 in
set_option maxHeartbeats 1000000 in
theorem draw_onside (w : World) (a : Option Addr) (len cap : Nat) (hc : CodeAt w a len w.heap.size) : Calls Try.prog 15 #[.slice a len cap] w fun e w' => ∃ ax ay bx bY cx cy : Int, e = .returned (.tuple #[.agg #[.int .i64 ax, .int .i64 ay], .agg #[.int .i64 bx, .int .i64 bY], .agg #[.int .i64 cx, .int .i64 cy]]) ∧ Below w.heap.size w w' := by
  go_enter Try.func15, Try.ntmps15
  go_wp2_with fail
  have g0 : (((w.alloc (.cells #[.int .i64 0, .int .i64 0] 25)).alloc (.cells #[.int .i64 0, .int .i64 0] 25)).alloc (.cells #[.int .i64 0, .int .i64 0] 25)).heap[w.heap.size]? = some (.cells #[.int .i64 0, .int .i64 0] 25 (0, 0)) := by (repeat (first | with_reducible assumption | (with_reducible refine new_alloc _ _ _ ?_; (first | rfl | (simp; done))) | with_reducible refine old_alloc ?_))
  have g1 : (((w.alloc (.cells #[.int .i64 0, .int .i64 0] 25)).alloc (.cells #[.int .i64 0, .int .i64 0] 25)).alloc (.cells #[.int .i64 0, .int .i64 0] 25)).heap[w.heap.size + 1]? = some (.cells #[.int .i64 0, .int .i64 0] 25 (0, 0)) := by (repeat (first | with_reducible assumption | (with_reducible refine new_alloc _ _ _ ?_; (first | rfl | (simp; done))) | with_reducible refine old_alloc ?_))
  have g2 : (((w.alloc (.cells #[.int .i64 0, .int .i64 0] 25)).alloc (.cells #[.int .i64 0, .int .i64 0] 25)).alloc (.cells #[.int .i64 0, .int .i64 0] 25)).heap[w.heap.size + 1 + 1]? = some (.cells #[.int .i64 0, .int .i64 0] 25 (0, 0)) := by (repeat (first | with_reducible assumption | (with_reducible refine new_alloc _ _ _ ?_; (first | rfl | (simp; done))) | with_reducible refine old_alloc ?_))
  have hb0 : Below w.heap.size w (((w.alloc (.cells #[.int .i64 0, .int .i64 0] 25)).alloc (.cells #[.int .i64 0, .int .i64 0] 25)).alloc (.cells #[.int .i64 0, .int .i64 0] 25)) := by (repeat (first | with_reducible exact Below.refl _ _ | with_reducible assumption | (with_reducible refine btrans ?_ (by with_reducible assumption)) | with_reducible refine bdrew ?_ | with_reducible refine balloc ?_ _))
  have hc0 : CodeAt (((w.alloc (.cells #[.int .i64 0, .int .i64 0] 25)).alloc (.cells #[.int .i64 0, .int .i64 0] 25)).alloc (.cells #[.int .i64 0, .int .i64 0] 25)) a len (((w.alloc (.cells #[.int .i64 0, .int .i64 0] 25)).alloc (.cells #[.int .i64 0, .int .i64 0] 25)).alloc (.cells #[.int .i64 0, .int .i64 0] 25)).heap.size := (hc.below hb0).mono (by simp <;> omega)
  have hz0 : (((w.alloc (.cells #[.int .i64 0, .int .i64 0] 25)).alloc (.cells #[.int .i64 0, .int .i64 0] 25)).alloc (.cells #[.int .i64 0, .int .i64 0] 25)).heap.size = w.heap.size + 3 := by simp
  generalize (((w.alloc (.cells #[.int .i64 0, .int .i64 0] 25)).alloc (.cells #[.int .i64 0, .int .i64 0] 25)).alloc (.cells #[.int .i64 0, .int .i64 0] 25)) = v0 at g0 g1 g2 hb0 hc0 hz0 ⊢
  refine (new_q _ a len cap hc0).mono ?_
  rintro e v1 ⟨p, rfl, hp0, hr, hold, hbn⟩
  have hlt := hr.lt
  replace g0 := hold _ _ g0
  replace g1 := hold _ _ g1
  replace g2 := hold _ _ g2
  replace hb0 := btrans hb0 hbn
  have hpw : w.heap.size ≤ p := by omega
  have hpv : ∀ x, x < v0.heap.size → x ≠ p := by intro x hx; omega
  clear hbn hold hc0
  go_wp2_with fail
  refine (point_r _ p a len cap hr).mono ?_
  rintro e v2 ⟨ax, ay, rfl, hax, hay, hr2, hg⟩
  replace g0 := grown_blk hg g0 (by omega)
  replace g1 := grown_blk hg g1 (by omega)
  replace g2 := grown_blk hg g2 (by omega)
  replace hb0 := bgrown hb0 hg hpw
  have hsv2 := hg.size
  clear hr hg
  rename Ready v2 p a len cap => hr
  go_wp2_with fail
  replace g0 := old_alloc (o' := .cells #[.int .i64 ax, .int .i64 ay] 25) g0
  replace g1 := old_alloc (o' := .cells #[.int .i64 ax, .int .i64 ay] 25) g1
  replace g2 := old_alloc (o' := .cells #[.int .i64 ax, .int .i64 ay] 25) g2
  have gv3 := new_alloc v2 v2.heap.size (.cells #[.int .i64 ax, .int .i64 ay] 25) rfl
  replace hr := hr.alloc (.cells #[.int .i64 ax, .int .i64 ay] 25)
  replace hb0 := balloc hb0 (.cells #[.int .i64 ax, .int .i64 ay] 25)
  have hzv3 : (v2.alloc (.cells #[.int .i64 ax, .int .i64 ay] 25)).heap.size = v2.heap.size + 1 := by simp
  have hqv3 : p < v2.heap.size := by have := hr.lt; omega
  generalize (v2.alloc (.cells #[.int .i64 ax, .int .i64 ay] 25)) = v3 at g0 g1 g2 gv3 hr hb0 hzv3 ⊢
  generalize hkv3 : v2.heap.size = qv3 at *
  refine (point_r _ p a len cap hr).mono ?_
  rintro e v4 ⟨bx, bY, rfl, hbx, hby, hr2, hg⟩
  replace g0 := grown_blk hg g0 (by omega)
  replace g1 := grown_blk hg g1 (by omega)
  replace g2 := grown_blk hg g2 (by omega)
  replace gv3 := grown_blk hg gv3 (by omega)
  replace hb0 := bgrown hb0 hg hpw
  have hsv4 := hg.size
  clear hr hg
  rename Ready v4 p a len cap => hr
  go_wp2_with fail
  replace g0 := old_alloc (o' := .cells #[.int .i64 bx, .int .i64 bY] 25) g0
  replace g1 := old_alloc (o' := .cells #[.int .i64 bx, .int .i64 bY] 25) g1
  replace g2 := old_alloc (o' := .cells #[.int .i64 bx, .int .i64 bY] 25) g2
  replace gv3 := old_alloc (o' := .cells #[.int .i64 bx, .int .i64 bY] 25) gv3
  have gv5 := new_alloc v4 v4.heap.size (.cells #[.int .i64 bx, .int .i64 bY] 25) rfl
  replace hr := hr.alloc (.cells #[.int .i64 bx, .int .i64 bY] 25)
  replace hb0 := balloc hb0 (.cells #[.int .i64 bx, .int .i64 bY] 25)
  have hzv5 : (v4.alloc (.cells #[.int .i64 bx, .int .i64 bY] 25)).heap.size = v4.heap.size + 1 := by simp
  have hqv5 : p < v4.heap.size := by have := hr.lt; omega
  generalize (v4.alloc (.cells #[.int .i64 bx, .int .i64 bY] 25)) = v5 at g0 g1 g2 gv3 gv5 hr hb0 hzv5 ⊢
  generalize hkv5 : v4.heap.size = qv5 at *
  refine (point_r _ p a len cap hr).mono ?_
  rintro e v6 ⟨px, py, rfl, _, _, hr2, hg⟩
  replace g0 := grown_blk hg g0 (by omega)
  replace g1 := grown_blk hg g1 (by omega)
  replace g2 := grown_blk hg g2 (by omega)
  replace gv3 := grown_blk hg gv3 (by omega)
  replace gv5 := grown_blk hg gv5 (by omega)
  replace hb0 := bgrown hb0 hg hpw
  have hsv6 := hg.size
  clear hr hg
  rename Ready v6 p a len cap => hr
  go_wp2_with fail
  replace g0 := old_alloc (o' := .cells #[.int .i64 px, .int .i64 py] 25) g0
  replace g1 := old_alloc (o' := .cells #[.int .i64 px, .int .i64 py] 25) g1
  replace g2 := old_alloc (o' := .cells #[.int .i64 px, .int .i64 py] 25) g2
  replace gv3 := old_alloc (o' := .cells #[.int .i64 px, .int .i64 py] 25) gv3
  replace gv5 := old_alloc (o' := .cells #[.int .i64 px, .int .i64 py] 25) gv5
  have gv7 := new_alloc v6 v6.heap.size (.cells #[.int .i64 px, .int .i64 py] 25) rfl
  replace hr := hr.alloc (.cells #[.int .i64 px, .int .i64 py] 25)
  replace hb0 := balloc hb0 (.cells #[.int .i64 px, .int .i64 py] 25)
  have hzv7 : (v6.alloc (.cells #[.int .i64 px, .int .i64 py] 25)).heap.size = v6.heap.size + 1 := by simp
  have hqv7 : p < v6.heap.size := by have := hr.lt; omega
  generalize (v6.alloc (.cells #[.int .i64 px, .int .i64 py] 25)) = v7 at g0 g1 g2 gv3 gv5 gv7 hr hb0 hzv7 ⊢
  generalize hkv7 : v6.heap.size = qv7 at *
  refine (below_r _ p a len cap 4 (by omega) (by omega) hr).mono ?_
  rintro e v8 ⟨x, rfl, x0, x1, hr2, hg⟩
  replace g0 := grown_blk hg g0 (by omega)
  replace g1 := grown_blk hg g1 (by omega)
  replace g2 := grown_blk hg g2 (by omega)
  replace gv3 := grown_blk hg gv3 (by omega)
  replace gv5 := grown_blk hg gv5 (by omega)
  replace gv7 := grown_blk hg gv7 (by omega)
  replace hb0 := bgrown hb0 hg hpw
  have hsv8 := hg.size
  clear hr hg
  rename Ready v8 p a len cap => hr
  by_cases e0 : x = 0
  · skip
    subst e0
    obtain ⟨hgv3c0, hgv3c1, hgv3f0, hgv3f1⟩ := cell2g gv3
    obtain ⟨hgv7c0, hgv7c1, hgv7f0, hgv7f1⟩ := cell2g gv7
    go_wp2_with fail
    have hset := set2 gv7 (.int .i64 ax) (.int .i64 ay)
    replace g0 := hset.2 _ _ (by omega) g0
    replace g1 := hset.2 _ _ (by omega) g1
    replace g2 := hset.2 _ _ (by omega) g2
    replace gv3 := hset.2 _ _ (by omega) gv3
    replace gv5 := hset.2 _ _ (by omega) gv5
    replace gv7 := hset.1
    clear hset
    replace hb0 := bset hb0 (q := qv7) (k := 0) (by omega) (.int .i64 ax)
    replace hr := hr.set (n := qv7) (k := 0) (by omega) (.int .i64 ax)
    replace hb0 := bset hb0 (q := qv7) (k := 1) (by omega) (.int .i64 ay)
    replace hr := hr.set (n := qv7) (k := 1) (by omega) (.int .i64 ay)
    generalize ((v8.setCell ⟨qv7, 0, none⟩ (.int .i64 ax)).setCell ⟨qv7, 1, none⟩ (.int .i64 ay)) = v9 at hb0 hr g0 g1 g2 gv3 gv5 gv7 ⊢
    replace g0 : v9.drew.heap[w.heap.size]? = some (.cells #[.int .i64 0, .int .i64 0] 25 (0, 0)) := g0
    replace g1 : v9.drew.heap[w.heap.size + 1]? = some (.cells #[.int .i64 0, .int .i64 0] 25 (0, 0)) := g1
    replace g2 : v9.drew.heap[w.heap.size + 1 + 1]? = some (.cells #[.int .i64 0, .int .i64 0] 25 (0, 0)) := g2
    replace gv3 : v9.drew.heap[qv3]? = some (.cells #[.int .i64 ax, .int .i64 ay] 25 (0, 0)) := gv3
    replace gv5 : v9.drew.heap[qv5]? = some (.cells #[.int .i64 bx, .int .i64 bY] 25 (0, 0)) := gv5
    replace gv7 : v9.drew.heap[qv7]? = some (.cells #[.int .i64 ax, .int .i64 ay] 25 (0, 0)) := gv7
    replace hr : Ready v9.drew p a len cap := hr
    replace hb0 := bdrew hb0
    obtain ⟨lgv7c0, lgv7c1, lgv7f0, lgv7f1⟩ := cell2g gv7
    obtain ⟨lgv3c0, lgv3c1, lgv3f0, lgv3f1⟩ := cell2g gv3
    obtain ⟨lgv5c0, lgv5c1, lgv5f0, lgv5f1⟩ := cell2g gv5
    refine wp_region_held_drew (S := (fun w' => w'.cell? ⟨qv7, 0, none⟩ = some (.int .i64 ax) ∧ w'.cell? ⟨qv7, 1, none⟩ = some (.int .i64 ay) ∧ w'.cell? ⟨qv3, 0, none⟩ = some (.int .i64 ax) ∧ w'.cell? ⟨qv3, 1, none⟩ = some (.int .i64 ay) ∧ w'.cell? ⟨qv5, 0, none⟩ = some (.int .i64 bx) ∧ w'.cell? ⟨qv5, 1, none⟩ = some (.int .i64 bY))) (by kernel_rfl) ?_ (fun hHeld => ?_)
    · (repeat' apply And.intro) <;> (with_reducible assumption)
    generalize v9.drew = v10 at hHeld hr hb0 g0 g1 g2 gv3 gv5 gv7 lgv7c0 lgv7c1 lgv3c0 lgv3c1 lgv5c0 lgv5c1 ⊢
    refine wpAnyH_take (i := 0) (v := ?_) rfl (by kernel_rfl) (by kernel_rfl) (by kernel_rfl) (fun _ _ _ h => h) (Or.inl ⟨by rfl, ?_⟩) hHeld ?_
    rotate_left
    · intro w hSw; (try dsimp only at hSw); go_simp; try (with_reducible rfl)
    try simp only [Act.put, List.getElem_toArray, List.getElem_cons_zero, List.getElem_cons_succ, List.setIfInBounds_toArray, List.set_cons_zero, List.set_cons_succ]
    refine wpAnyH_take (i := 1) (v := ?_) rfl (by kernel_rfl) (by kernel_rfl) (by kernel_rfl) (fun _ _ _ h => h) (Or.inl ⟨by rfl, ?_⟩) hHeld ?_
    rotate_left
    · intro w hSw; (try dsimp only at hSw); go_simp; try (with_reducible rfl)
    try simp only [Act.put, List.getElem_toArray, List.getElem_cons_zero, List.getElem_cons_succ, List.setIfInBounds_toArray, List.set_cons_zero, List.set_cons_succ]
    refine wpAnyH_take (i := 2) (v := ?_) rfl (by kernel_rfl) (by kernel_rfl) (by kernel_rfl) (fun _ _ _ h => h) (Or.inl ⟨by rfl, ?_⟩) hHeld ?_
    rotate_left
    · intro w hSw; (try dsimp only at hSw); go_simp; try (with_reducible rfl)
    try simp only [Act.put, List.getElem_toArray, List.getElem_cons_zero, List.getElem_cons_succ, List.setIfInBounds_toArray, List.set_cons_zero, List.set_cons_succ]
    obtain ⟨s3c0, s3c1, s3f0, s3f1⟩ := cell2g g0
    have hset := set2 g0 (.int .i64 ax) (.int .i64 ay)
    replace g0 := hset.1
    replace g1 := hset.2 _ _ (by omega) g1
    replace g2 := hset.2 _ _ (by omega) g2
    replace gv3 := hset.2 _ _ (by omega) gv3
    replace gv5 := hset.2 _ _ (by omega) gv5
    replace gv7 := hset.2 _ _ (by omega) gv7
    clear hset
    replace hb0 := bset hb0 (q := w.heap.size) (k := 0) (by omega) (.int .i64 ax)
    replace hb0 := bset hb0 (q := w.heap.size) (k := 1) (by omega) (.int .i64 ay)
    obtain ⟨t3gv7c0, t3gv7c1, _, _⟩ := cell2g gv7
    obtain ⟨t3gv3c0, t3gv3c1, _, _⟩ := cell2g gv3
    obtain ⟨t3gv5c0, t3gv5c1, _, _⟩ := cell2g gv5
    refine wpAnyH_ready (rs := [3]) (by kernel_rfl) (by simp) ?_
    refine AllReadyH.cons rfl (fun K hK => ?_) AllReadyH.nil
    try simp only [Act.put, List.getElem_toArray, List.getElem_cons_zero, List.getElem_cons_succ, List.setIfInBounds_toArray, List.set_cons_zero, List.set_cons_succ]
    go_simp
    refine hK.out _ _ ?_ (fun hHeld => ?_)
    · (repeat' apply And.intro) <;> (with_reducible assumption)
    clear hK K
    try simp only [Act.put, List.getElem_toArray, List.getElem_cons_zero, List.getElem_cons_succ, List.setIfInBounds_toArray, List.set_cons_zero, List.set_cons_succ]
    obtain ⟨s4c0, s4c1, s4f0, s4f1⟩ := cell2g g1
    have hset := set2 g1 (.int .i64 ax) (.int .i64 ay)
    replace g0 := hset.2 _ _ (by omega) g0
    replace g1 := hset.1
    replace g2 := hset.2 _ _ (by omega) g2
    replace gv3 := hset.2 _ _ (by omega) gv3
    replace gv5 := hset.2 _ _ (by omega) gv5
    replace gv7 := hset.2 _ _ (by omega) gv7
    clear hset
    replace hb0 := bset hb0 (q := w.heap.size + 1) (k := 0) (by omega) (.int .i64 ax)
    replace hb0 := bset hb0 (q := w.heap.size + 1) (k := 1) (by omega) (.int .i64 ay)
    obtain ⟨t4gv7c0, t4gv7c1, _, _⟩ := cell2g gv7
    obtain ⟨t4gv3c0, t4gv3c1, _, _⟩ := cell2g gv3
    obtain ⟨t4gv5c0, t4gv5c1, _, _⟩ := cell2g gv5
    refine wpAnyH_ready (rs := [4]) (by kernel_rfl) (by simp) ?_
    refine AllReadyH.cons rfl (fun K hK => ?_) AllReadyH.nil
    try simp only [Act.put, List.getElem_toArray, List.getElem_cons_zero, List.getElem_cons_succ, List.setIfInBounds_toArray, List.set_cons_zero, List.set_cons_succ]
    go_simp
    refine hK.out _ _ ?_ (fun hHeld => ?_)
    · (repeat' apply And.intro) <;> (with_reducible assumption)
    clear hK K
    try simp only [Act.put, List.getElem_toArray, List.getElem_cons_zero, List.getElem_cons_succ, List.setIfInBounds_toArray, List.set_cons_zero, List.set_cons_succ]
    obtain ⟨s5c0, s5c1, s5f0, s5f1⟩ := cell2g g2
    have hset := set2 g2 (.int .i64 bx) (.int .i64 bY)
    replace g0 := hset.2 _ _ (by omega) g0
    replace g1 := hset.2 _ _ (by omega) g1
    replace g2 := hset.1
    replace gv3 := hset.2 _ _ (by omega) gv3
    replace gv5 := hset.2 _ _ (by omega) gv5
    replace gv7 := hset.2 _ _ (by omega) gv7
    clear hset
    replace hb0 := bset hb0 (q := w.heap.size + 1 + 1) (k := 0) (by omega) (.int .i64 bx)
    replace hb0 := bset hb0 (q := w.heap.size + 1 + 1) (k := 1) (by omega) (.int .i64 bY)
    obtain ⟨t5gv7c0, t5gv7c1, _, _⟩ := cell2g gv7
    obtain ⟨t5gv3c0, t5gv3c1, _, _⟩ := cell2g gv3
    obtain ⟨t5gv5c0, t5gv5c1, _, _⟩ := cell2g gv5
    refine wpAnyH_ready (rs := [5]) (by kernel_rfl) (by simp) ?_
    refine AllReadyH.cons rfl (fun K hK => ?_) AllReadyH.nil
    try simp only [Act.put, List.getElem_toArray, List.getElem_cons_zero, List.getElem_cons_succ, List.setIfInBounds_toArray, List.set_cons_zero, List.set_cons_succ]
    go_simp
    refine hK.out _ _ ?_ (fun hHeld => ?_)
    · (repeat' apply And.intro) <;> (with_reducible assumption)
    clear hK K
    try simp only [Act.put, List.getElem_toArray, List.getElem_cons_zero, List.getElem_cons_succ, List.setIfInBounds_toArray, List.set_cons_zero, List.set_cons_succ]
    refine wpAnyH_done (by kernel_rfl) ?_ _
    go_wp2_with fail
    generalize ((((((v10.setCell ⟨w.heap.size, 0, none⟩ (.int .i64 ax)).setCell ⟨w.heap.size, 1, none⟩ (.int .i64 ay)).setCell ⟨w.heap.size + 1, 0, none⟩ (.int .i64 ax)).setCell ⟨w.heap.size + 1, 1, none⟩ (.int .i64 ay)).setCell ⟨w.heap.size + 1 + 1, 0, none⟩ (.int .i64 bx)).setCell ⟨w.heap.size + 1 + 1, 1, none⟩ (.int .i64 bY)) = wf at hb0 g0 g1 g2 gv3 gv5 gv7 ⊢
    obtain ⟨z0c0, z0c1, _, _⟩ := cell2g g0
    obtain ⟨z1c0, z1c1, _, _⟩ := cell2g g1
    obtain ⟨z2c0, z2c1, _, _⟩ := cell2g g2
    exact bodyPost_ret (v := .tuple #[.agg #[.int .i64 ax, .int .i64 ay], .agg #[.int .i64 ax, .int .i64 ay], .agg #[.int .i64 bx, .int .i64 bY]]) (by simp [results, Try.results15, go_sem, z0c0, z0c1, z1c0, z1c1, z2c0, z2c1]) rfl ⟨ax, ay, ax, ay, bx, bY, rfl, hb0⟩
  have n0 : (x == 0) = false := by rw [beq_eq_false_iff_ne]; exact e0
  by_cases e1 : x = 1
  · skip
    subst e1
    obtain ⟨hax1, hax2⟩ := hax
    obtain ⟨hay1, hay2⟩ := hay
    obtain ⟨hbx1, hbx2⟩ := hbx
    obtain ⟨hby1, hby2⟩ := hby
    obtain ⟨hgv3c0, hgv3c1, hgv3f0, hgv3f1⟩ := cell2g gv3
    obtain ⟨hgv5c0, hgv5c1, hgv5f0, hgv5f1⟩ := cell2g gv5
    obtain ⟨hgv7c0, hgv7c1, hgv7f0, hgv7f1⟩ := cell2g gv7
    go_wp2_with fail
    generalize (ax + bx).tdiv 2 = mx
    generalize (ay + bY).tdiv 2 = my
    have hset := set2 gv7 (.int .i64 mx) (.int .i64 my)
    replace g0 := hset.2 _ _ (by omega) g0
    replace g1 := hset.2 _ _ (by omega) g1
    replace g2 := hset.2 _ _ (by omega) g2
    replace gv3 := hset.2 _ _ (by omega) gv3
    replace gv5 := hset.2 _ _ (by omega) gv5
    replace gv7 := hset.1
    clear hset
    replace hb0 := bset hb0 (q := qv7) (k := 0) (by omega) (.int .i64 mx)
    replace hr := hr.set (n := qv7) (k := 0) (by omega) (.int .i64 mx)
    replace hb0 := bset hb0 (q := qv7) (k := 1) (by omega) (.int .i64 my)
    replace hr := hr.set (n := qv7) (k := 1) (by omega) (.int .i64 my)
    generalize ((v8.setCell ⟨qv7, 0, none⟩ (.int .i64 mx)).setCell ⟨qv7, 1, none⟩ (.int .i64 my)) = v9 at hb0 hr g0 g1 g2 gv3 gv5 gv7 ⊢
    replace g0 : v9.drew.heap[w.heap.size]? = some (.cells #[.int .i64 0, .int .i64 0] 25 (0, 0)) := g0
    replace g1 : v9.drew.heap[w.heap.size + 1]? = some (.cells #[.int .i64 0, .int .i64 0] 25 (0, 0)) := g1
    replace g2 : v9.drew.heap[w.heap.size + 1 + 1]? = some (.cells #[.int .i64 0, .int .i64 0] 25 (0, 0)) := g2
    replace gv3 : v9.drew.heap[qv3]? = some (.cells #[.int .i64 ax, .int .i64 ay] 25 (0, 0)) := gv3
    replace gv5 : v9.drew.heap[qv5]? = some (.cells #[.int .i64 bx, .int .i64 bY] 25 (0, 0)) := gv5
    replace gv7 : v9.drew.heap[qv7]? = some (.cells #[.int .i64 mx, .int .i64 my] 25 (0, 0)) := gv7
    replace hr : Ready v9.drew p a len cap := hr
    replace hb0 := bdrew hb0
    obtain ⟨lgv7c0, lgv7c1, lgv7f0, lgv7f1⟩ := cell2g gv7
    obtain ⟨lgv3c0, lgv3c1, lgv3f0, lgv3f1⟩ := cell2g gv3
    obtain ⟨lgv5c0, lgv5c1, lgv5f0, lgv5f1⟩ := cell2g gv5
    refine wp_region_held_drew (S := (fun w' => w'.cell? ⟨qv7, 0, none⟩ = some (.int .i64 mx) ∧ w'.cell? ⟨qv7, 1, none⟩ = some (.int .i64 my) ∧ w'.cell? ⟨qv3, 0, none⟩ = some (.int .i64 ax) ∧ w'.cell? ⟨qv3, 1, none⟩ = some (.int .i64 ay) ∧ w'.cell? ⟨qv5, 0, none⟩ = some (.int .i64 bx) ∧ w'.cell? ⟨qv5, 1, none⟩ = some (.int .i64 bY))) (by kernel_rfl) ?_ (fun hHeld => ?_)
    · (repeat' apply And.intro) <;> (with_reducible assumption)
    generalize v9.drew = v10 at hHeld hr hb0 g0 g1 g2 gv3 gv5 gv7 lgv7c0 lgv7c1 lgv3c0 lgv3c1 lgv5c0 lgv5c1 ⊢
    refine wpAnyH_take (i := 0) (v := ?_) rfl (by kernel_rfl) (by kernel_rfl) (by kernel_rfl) (fun _ _ _ h => h) (Or.inl ⟨by rfl, ?_⟩) hHeld ?_
    rotate_left
    · intro w hSw; (try dsimp only at hSw); go_simp; try (with_reducible rfl)
    try simp only [Act.put, List.getElem_toArray, List.getElem_cons_zero, List.getElem_cons_succ, List.setIfInBounds_toArray, List.set_cons_zero, List.set_cons_succ]
    refine wpAnyH_take (i := 1) (v := ?_) rfl (by kernel_rfl) (by kernel_rfl) (by kernel_rfl) (fun _ _ _ h => h) (Or.inl ⟨by rfl, ?_⟩) hHeld ?_
    rotate_left
    · intro w hSw; (try dsimp only at hSw); go_simp; try (with_reducible rfl)
    try simp only [Act.put, List.getElem_toArray, List.getElem_cons_zero, List.getElem_cons_succ, List.setIfInBounds_toArray, List.set_cons_zero, List.set_cons_succ]
    refine wpAnyH_take (i := 2) (v := ?_) rfl (by kernel_rfl) (by kernel_rfl) (by kernel_rfl) (fun _ _ _ h => h) (Or.inl ⟨by rfl, ?_⟩) hHeld ?_
    rotate_left
    · intro w hSw; (try dsimp only at hSw); go_simp; try (with_reducible rfl)
    try simp only [Act.put, List.getElem_toArray, List.getElem_cons_zero, List.getElem_cons_succ, List.setIfInBounds_toArray, List.set_cons_zero, List.set_cons_succ]
    obtain ⟨s3c0, s3c1, s3f0, s3f1⟩ := cell2g g0
    have hset := set2 g0 (.int .i64 mx) (.int .i64 my)
    replace g0 := hset.1
    replace g1 := hset.2 _ _ (by omega) g1
    replace g2 := hset.2 _ _ (by omega) g2
    replace gv3 := hset.2 _ _ (by omega) gv3
    replace gv5 := hset.2 _ _ (by omega) gv5
    replace gv7 := hset.2 _ _ (by omega) gv7
    clear hset
    replace hb0 := bset hb0 (q := w.heap.size) (k := 0) (by omega) (.int .i64 mx)
    replace hb0 := bset hb0 (q := w.heap.size) (k := 1) (by omega) (.int .i64 my)
    obtain ⟨t3gv7c0, t3gv7c1, _, _⟩ := cell2g gv7
    obtain ⟨t3gv3c0, t3gv3c1, _, _⟩ := cell2g gv3
    obtain ⟨t3gv5c0, t3gv5c1, _, _⟩ := cell2g gv5
    refine wpAnyH_ready (rs := [3]) (by kernel_rfl) (by simp) ?_
    refine AllReadyH.cons rfl (fun K hK => ?_) AllReadyH.nil
    try simp only [Act.put, List.getElem_toArray, List.getElem_cons_zero, List.getElem_cons_succ, List.setIfInBounds_toArray, List.set_cons_zero, List.set_cons_succ]
    go_simp
    refine hK.out _ _ ?_ (fun hHeld => ?_)
    · (repeat' apply And.intro) <;> (with_reducible assumption)
    clear hK K
    try simp only [Act.put, List.getElem_toArray, List.getElem_cons_zero, List.getElem_cons_succ, List.setIfInBounds_toArray, List.set_cons_zero, List.set_cons_succ]
    obtain ⟨s4c0, s4c1, s4f0, s4f1⟩ := cell2g g1
    have hset := set2 g1 (.int .i64 ax) (.int .i64 ay)
    replace g0 := hset.2 _ _ (by omega) g0
    replace g1 := hset.1
    replace g2 := hset.2 _ _ (by omega) g2
    replace gv3 := hset.2 _ _ (by omega) gv3
    replace gv5 := hset.2 _ _ (by omega) gv5
    replace gv7 := hset.2 _ _ (by omega) gv7
    clear hset
    replace hb0 := bset hb0 (q := w.heap.size + 1) (k := 0) (by omega) (.int .i64 ax)
    replace hb0 := bset hb0 (q := w.heap.size + 1) (k := 1) (by omega) (.int .i64 ay)
    obtain ⟨t4gv7c0, t4gv7c1, _, _⟩ := cell2g gv7
    obtain ⟨t4gv3c0, t4gv3c1, _, _⟩ := cell2g gv3
    obtain ⟨t4gv5c0, t4gv5c1, _, _⟩ := cell2g gv5
    refine wpAnyH_ready (rs := [4]) (by kernel_rfl) (by simp) ?_
    refine AllReadyH.cons rfl (fun K hK => ?_) AllReadyH.nil
    try simp only [Act.put, List.getElem_toArray, List.getElem_cons_zero, List.getElem_cons_succ, List.setIfInBounds_toArray, List.set_cons_zero, List.set_cons_succ]
    go_simp
    refine hK.out _ _ ?_ (fun hHeld => ?_)
    · (repeat' apply And.intro) <;> (with_reducible assumption)
    clear hK K
    try simp only [Act.put, List.getElem_toArray, List.getElem_cons_zero, List.getElem_cons_succ, List.setIfInBounds_toArray, List.set_cons_zero, List.set_cons_succ]
    obtain ⟨s5c0, s5c1, s5f0, s5f1⟩ := cell2g g2
    have hset := set2 g2 (.int .i64 bx) (.int .i64 bY)
    replace g0 := hset.2 _ _ (by omega) g0
    replace g1 := hset.2 _ _ (by omega) g1
    replace g2 := hset.1
    replace gv3 := hset.2 _ _ (by omega) gv3
    replace gv5 := hset.2 _ _ (by omega) gv5
    replace gv7 := hset.2 _ _ (by omega) gv7
    clear hset
    replace hb0 := bset hb0 (q := w.heap.size + 1 + 1) (k := 0) (by omega) (.int .i64 bx)
    replace hb0 := bset hb0 (q := w.heap.size + 1 + 1) (k := 1) (by omega) (.int .i64 bY)
    obtain ⟨t5gv7c0, t5gv7c1, _, _⟩ := cell2g gv7
    obtain ⟨t5gv3c0, t5gv3c1, _, _⟩ := cell2g gv3
    obtain ⟨t5gv5c0, t5gv5c1, _, _⟩ := cell2g gv5
    refine wpAnyH_ready (rs := [5]) (by kernel_rfl) (by simp) ?_
    refine AllReadyH.cons rfl (fun K hK => ?_) AllReadyH.nil
    try simp only [Act.put, List.getElem_toArray, List.getElem_cons_zero, List.getElem_cons_succ, List.setIfInBounds_toArray, List.set_cons_zero, List.set_cons_succ]
    go_simp
    refine hK.out _ _ ?_ (fun hHeld => ?_)
    · (repeat' apply And.intro) <;> (with_reducible assumption)
    clear hK K
    try simp only [Act.put, List.getElem_toArray, List.getElem_cons_zero, List.getElem_cons_succ, List.setIfInBounds_toArray, List.set_cons_zero, List.set_cons_succ]
    refine wpAnyH_done (by kernel_rfl) ?_ _
    go_wp2_with fail
    generalize ((((((v10.setCell ⟨w.heap.size, 0, none⟩ (.int .i64 mx)).setCell ⟨w.heap.size, 1, none⟩ (.int .i64 my)).setCell ⟨w.heap.size + 1, 0, none⟩ (.int .i64 ax)).setCell ⟨w.heap.size + 1, 1, none⟩ (.int .i64 ay)).setCell ⟨w.heap.size + 1 + 1, 0, none⟩ (.int .i64 bx)).setCell ⟨w.heap.size + 1 + 1, 1, none⟩ (.int .i64 bY)) = wf at hb0 g0 g1 g2 gv3 gv5 gv7 ⊢
    obtain ⟨z0c0, z0c1, _, _⟩ := cell2g g0
    obtain ⟨z1c0, z1c1, _, _⟩ := cell2g g1
    obtain ⟨z2c0, z2c1, _, _⟩ := cell2g g2
    exact bodyPost_ret (v := .tuple #[.agg #[.int .i64 mx, .int .i64 my], .agg #[.int .i64 ax, .int .i64 ay], .agg #[.int .i64 bx, .int .i64 bY]]) (by simp [results, Try.results15, go_sem, z0c0, z0c1, z1c0, z1c1, z2c0, z2c1]) rfl ⟨mx, my, ax, ay, bx, bY, rfl, hb0⟩
  have n1 : (x == 1) = false := by rw [beq_eq_false_iff_ne]; exact e1
  clear e0 e1
  go_wp2_with fail
  replace g0 : v8.drew.heap[w.heap.size]? = some (.cells #[.int .i64 0, .int .i64 0] 25 (0, 0)) := g0
  replace g1 : v8.drew.heap[w.heap.size + 1]? = some (.cells #[.int .i64 0, .int .i64 0] 25 (0, 0)) := g1
  replace g2 : v8.drew.heap[w.heap.size + 1 + 1]? = some (.cells #[.int .i64 0, .int .i64 0] 25 (0, 0)) := g2
  replace gv3 : v8.drew.heap[qv3]? = some (.cells #[.int .i64 ax, .int .i64 ay] 25 (0, 0)) := gv3
  replace gv5 : v8.drew.heap[qv5]? = some (.cells #[.int .i64 bx, .int .i64 bY] 25 (0, 0)) := gv5
  replace gv7 : v8.drew.heap[qv7]? = some (.cells #[.int .i64 px, .int .i64 py] 25 (0, 0)) := gv7
  replace hr : Ready v8.drew p a len cap := hr
  replace hb0 := bdrew hb0
  obtain ⟨lgv7c0, lgv7c1, lgv7f0, lgv7f1⟩ := cell2g gv7
  obtain ⟨lgv3c0, lgv3c1, lgv3f0, lgv3f1⟩ := cell2g gv3
  obtain ⟨lgv5c0, lgv5c1, lgv5f0, lgv5f1⟩ := cell2g gv5
  refine wp_region_held_drew (S := (fun w' => w'.cell? ⟨qv7, 0, none⟩ = some (.int .i64 px) ∧ w'.cell? ⟨qv7, 1, none⟩ = some (.int .i64 py) ∧ w'.cell? ⟨qv3, 0, none⟩ = some (.int .i64 ax) ∧ w'.cell? ⟨qv3, 1, none⟩ = some (.int .i64 ay) ∧ w'.cell? ⟨qv5, 0, none⟩ = some (.int .i64 bx) ∧ w'.cell? ⟨qv5, 1, none⟩ = some (.int .i64 bY))) (by kernel_rfl) ?_ (fun hHeld => ?_)
  · (repeat' apply And.intro) <;> (with_reducible assumption)
  generalize v8.drew = v9 at hHeld hr hb0 g0 g1 g2 gv3 gv5 gv7 lgv7c0 lgv7c1 lgv3c0 lgv3c1 lgv5c0 lgv5c1 ⊢
  refine wpAnyH_take (i := 0) (v := ?_) rfl (by kernel_rfl) (by kernel_rfl) (by kernel_rfl) (fun _ _ _ h => h) (Or.inl ⟨by rfl, ?_⟩) hHeld ?_
  rotate_left
  · intro w hSw; (try dsimp only at hSw); go_simp; try (with_reducible rfl)
  try simp only [Act.put, List.getElem_toArray, List.getElem_cons_zero, List.getElem_cons_succ, List.setIfInBounds_toArray, List.set_cons_zero, List.set_cons_succ]
  refine wpAnyH_take (i := 1) (v := ?_) rfl (by kernel_rfl) (by kernel_rfl) (by kernel_rfl) (fun _ _ _ h => h) (Or.inl ⟨by rfl, ?_⟩) hHeld ?_
  rotate_left
  · intro w hSw; (try dsimp only at hSw); go_simp; try (with_reducible rfl)
  try simp only [Act.put, List.getElem_toArray, List.getElem_cons_zero, List.getElem_cons_succ, List.setIfInBounds_toArray, List.set_cons_zero, List.set_cons_succ]
  refine wpAnyH_take (i := 2) (v := ?_) rfl (by kernel_rfl) (by kernel_rfl) (by kernel_rfl) (fun _ _ _ h => h) (Or.inl ⟨by rfl, ?_⟩) hHeld ?_
  rotate_left
  · intro w hSw; (try dsimp only at hSw); go_simp; try (with_reducible rfl)
  try simp only [Act.put, List.getElem_toArray, List.getElem_cons_zero, List.getElem_cons_succ, List.setIfInBounds_toArray, List.set_cons_zero, List.set_cons_succ]
  obtain ⟨s3c0, s3c1, s3f0, s3f1⟩ := cell2g g0
  have hset := set2 g0 (.int .i64 px) (.int .i64 py)
  replace g0 := hset.1
  replace g1 := hset.2 _ _ (by omega) g1
  replace g2 := hset.2 _ _ (by omega) g2
  replace gv3 := hset.2 _ _ (by omega) gv3
  replace gv5 := hset.2 _ _ (by omega) gv5
  replace gv7 := hset.2 _ _ (by omega) gv7
  clear hset
  replace hb0 := bset hb0 (q := w.heap.size) (k := 0) (by omega) (.int .i64 px)
  replace hb0 := bset hb0 (q := w.heap.size) (k := 1) (by omega) (.int .i64 py)
  obtain ⟨t3gv7c0, t3gv7c1, _, _⟩ := cell2g gv7
  obtain ⟨t3gv3c0, t3gv3c1, _, _⟩ := cell2g gv3
  obtain ⟨t3gv5c0, t3gv5c1, _, _⟩ := cell2g gv5
  refine wpAnyH_ready (rs := [3]) (by kernel_rfl) (by simp) ?_
  refine AllReadyH.cons rfl (fun K hK => ?_) AllReadyH.nil
  try simp only [Act.put, List.getElem_toArray, List.getElem_cons_zero, List.getElem_cons_succ, List.setIfInBounds_toArray, List.set_cons_zero, List.set_cons_succ]
  go_simp
  refine hK.out _ _ ?_ (fun hHeld => ?_)
  · (repeat' apply And.intro) <;> (with_reducible assumption)
  clear hK K
  try simp only [Act.put, List.getElem_toArray, List.getElem_cons_zero, List.getElem_cons_succ, List.setIfInBounds_toArray, List.set_cons_zero, List.set_cons_succ]
  obtain ⟨s4c0, s4c1, s4f0, s4f1⟩ := cell2g g1
  have hset := set2 g1 (.int .i64 ax) (.int .i64 ay)
  replace g0 := hset.2 _ _ (by omega) g0
  replace g1 := hset.1
  replace g2 := hset.2 _ _ (by omega) g2
  replace gv3 := hset.2 _ _ (by omega) gv3
  replace gv5 := hset.2 _ _ (by omega) gv5
  replace gv7 := hset.2 _ _ (by omega) gv7
  clear hset
  replace hb0 := bset hb0 (q := w.heap.size + 1) (k := 0) (by omega) (.int .i64 ax)
  replace hb0 := bset hb0 (q := w.heap.size + 1) (k := 1) (by omega) (.int .i64 ay)
  obtain ⟨t4gv7c0, t4gv7c1, _, _⟩ := cell2g gv7
  obtain ⟨t4gv3c0, t4gv3c1, _, _⟩ := cell2g gv3
  obtain ⟨t4gv5c0, t4gv5c1, _, _⟩ := cell2g gv5
  refine wpAnyH_ready (rs := [4]) (by kernel_rfl) (by simp) ?_
  refine AllReadyH.cons rfl (fun K hK => ?_) AllReadyH.nil
  try simp only [Act.put, List.getElem_toArray, List.getElem_cons_zero, List.getElem_cons_succ, List.setIfInBounds_toArray, List.set_cons_zero, List.set_cons_succ]
  go_simp
  refine hK.out _ _ ?_ (fun hHeld => ?_)
  · (repeat' apply And.intro) <;> (with_reducible assumption)
  clear hK K
  try simp only [Act.put, List.getElem_toArray, List.getElem_cons_zero, List.getElem_cons_succ, List.setIfInBounds_toArray, List.set_cons_zero, List.set_cons_succ]
  obtain ⟨s5c0, s5c1, s5f0, s5f1⟩ := cell2g g2
  have hset := set2 g2 (.int .i64 bx) (.int .i64 bY)
  replace g0 := hset.2 _ _ (by omega) g0
  replace g1 := hset.2 _ _ (by omega) g1
  replace g2 := hset.1
  replace gv3 := hset.2 _ _ (by omega) gv3
  replace gv5 := hset.2 _ _ (by omega) gv5
  replace gv7 := hset.2 _ _ (by omega) gv7
  clear hset
  replace hb0 := bset hb0 (q := w.heap.size + 1 + 1) (k := 0) (by omega) (.int .i64 bx)
  replace hb0 := bset hb0 (q := w.heap.size + 1 + 1) (k := 1) (by omega) (.int .i64 bY)
  obtain ⟨t5gv7c0, t5gv7c1, _, _⟩ := cell2g gv7
  obtain ⟨t5gv3c0, t5gv3c1, _, _⟩ := cell2g gv3
  obtain ⟨t5gv5c0, t5gv5c1, _, _⟩ := cell2g gv5
  refine wpAnyH_ready (rs := [5]) (by kernel_rfl) (by simp) ?_
  refine AllReadyH.cons rfl (fun K hK => ?_) AllReadyH.nil
  try simp only [Act.put, List.getElem_toArray, List.getElem_cons_zero, List.getElem_cons_succ, List.setIfInBounds_toArray, List.set_cons_zero, List.set_cons_succ]
  go_simp
  refine hK.out _ _ ?_ (fun hHeld => ?_)
  · (repeat' apply And.intro) <;> (with_reducible assumption)
  clear hK K
  try simp only [Act.put, List.getElem_toArray, List.getElem_cons_zero, List.getElem_cons_succ, List.setIfInBounds_toArray, List.set_cons_zero, List.set_cons_succ]
  refine wpAnyH_done (by kernel_rfl) ?_ _
  go_wp2_with fail
  generalize ((((((v9.setCell ⟨w.heap.size, 0, none⟩ (.int .i64 px)).setCell ⟨w.heap.size, 1, none⟩ (.int .i64 py)).setCell ⟨w.heap.size + 1, 0, none⟩ (.int .i64 ax)).setCell ⟨w.heap.size + 1, 1, none⟩ (.int .i64 ay)).setCell ⟨w.heap.size + 1 + 1, 0, none⟩ (.int .i64 bx)).setCell ⟨w.heap.size + 1 + 1, 1, none⟩ (.int .i64 bY)) = wf at hb0 g0 g1 g2 gv3 gv5 gv7 ⊢
  obtain ⟨z0c0, z0c1, _, _⟩ := cell2g g0
  obtain ⟨z1c0, z1c1, _, _⟩ := cell2g g1
  obtain ⟨z2c0, z2c1, _, _⟩ := cell2g g2
  exact bodyPost_ret (v := .tuple #[.agg #[.int .i64 px, .int .i64 py], .agg #[.int .i64 ax, .int .i64 ay], .agg #[.int .i64 bx, .int .i64 bY]]) (by simp [results, Try.results15, go_sem, z0c0, z0c1, z1c0, z1c1, z2c0, z2c1]) rfl ⟨px, py, ax, ay, bx, bY, rfl, hb0⟩
set_option maxRecDepth 100000 in
set_option maxHeartbeats 1000000 in
theorem draw_sides (w : World) (a : Option Addr) (len cap : Nat) (hc : CodeAt w a len w.heap.size) : Calls Try.prog 35 #[.slice a len cap] w fun e w' => ∃ ax ay bx bY cx cy dx dy : Int, e = .returned (.tuple #[.agg #[.int .i64 ax, .int .i64 ay], .agg #[.int .i64 bx, .int .i64 bY], .agg #[.int .i64 cx, .int .i64 cy], .agg #[.int .i64 dx, .int .i64 dy]]) ∧ Below w.heap.size w w' := by
  go_enter Try.func35, Try.ntmps35
  go_wp2_with fail
  have g0 : ((((w.alloc (.cells #[.int .i64 0, .int .i64 0] 25)).alloc (.cells #[.int .i64 0, .int .i64 0] 25)).alloc (.cells #[.int .i64 0, .int .i64 0] 25)).alloc (.cells #[.int .i64 0, .int .i64 0] 25)).heap[w.heap.size]? = some (.cells #[.int .i64 0, .int .i64 0] 25 (0, 0)) := by (repeat (first | with_reducible assumption | (with_reducible refine new_alloc _ _ _ ?_; (first | rfl | (simp; done))) | with_reducible refine old_alloc ?_))
  have g1 : ((((w.alloc (.cells #[.int .i64 0, .int .i64 0] 25)).alloc (.cells #[.int .i64 0, .int .i64 0] 25)).alloc (.cells #[.int .i64 0, .int .i64 0] 25)).alloc (.cells #[.int .i64 0, .int .i64 0] 25)).heap[w.heap.size + 1]? = some (.cells #[.int .i64 0, .int .i64 0] 25 (0, 0)) := by (repeat (first | with_reducible assumption | (with_reducible refine new_alloc _ _ _ ?_; (first | rfl | (simp; done))) | with_reducible refine old_alloc ?_))
  have g2 : ((((w.alloc (.cells #[.int .i64 0, .int .i64 0] 25)).alloc (.cells #[.int .i64 0, .int .i64 0] 25)).alloc (.cells #[.int .i64 0, .int .i64 0] 25)).alloc (.cells #[.int .i64 0, .int .i64 0] 25)).heap[w.heap.size + 1 + 1]? = some (.cells #[.int .i64 0, .int .i64 0] 25 (0, 0)) := by (repeat (first | with_reducible assumption | (with_reducible refine new_alloc _ _ _ ?_; (first | rfl | (simp; done))) | with_reducible refine old_alloc ?_))
  have g3 : ((((w.alloc (.cells #[.int .i64 0, .int .i64 0] 25)).alloc (.cells #[.int .i64 0, .int .i64 0] 25)).alloc (.cells #[.int .i64 0, .int .i64 0] 25)).alloc (.cells #[.int .i64 0, .int .i64 0] 25)).heap[w.heap.size + 1 + 1 + 1]? = some (.cells #[.int .i64 0, .int .i64 0] 25 (0, 0)) := by (repeat (first | with_reducible assumption | (with_reducible refine new_alloc _ _ _ ?_; (first | rfl | (simp; done))) | with_reducible refine old_alloc ?_))
  have hb0 : Below w.heap.size w ((((w.alloc (.cells #[.int .i64 0, .int .i64 0] 25)).alloc (.cells #[.int .i64 0, .int .i64 0] 25)).alloc (.cells #[.int .i64 0, .int .i64 0] 25)).alloc (.cells #[.int .i64 0, .int .i64 0] 25)) := by (repeat (first | with_reducible exact Below.refl _ _ | with_reducible assumption | (with_reducible refine btrans ?_ (by with_reducible assumption)) | with_reducible refine bdrew ?_ | with_reducible refine balloc ?_ _))
  have hc0 : CodeAt ((((w.alloc (.cells #[.int .i64 0, .int .i64 0] 25)).alloc (.cells #[.int .i64 0, .int .i64 0] 25)).alloc (.cells #[.int .i64 0, .int .i64 0] 25)).alloc (.cells #[.int .i64 0, .int .i64 0] 25)) a len ((((w.alloc (.cells #[.int .i64 0, .int .i64 0] 25)).alloc (.cells #[.int .i64 0, .int .i64 0] 25)).alloc (.cells #[.int .i64 0, .int .i64 0] 25)).alloc (.cells #[.int .i64 0, .int .i64 0] 25)).heap.size := (hc.below hb0).mono (by simp <;> omega)
  have hz0 : ((((w.alloc (.cells #[.int .i64 0, .int .i64 0] 25)).alloc (.cells #[.int .i64 0, .int .i64 0] 25)).alloc (.cells #[.int .i64 0, .int .i64 0] 25)).alloc (.cells #[.int .i64 0, .int .i64 0] 25)).heap.size = w.heap.size + 4 := by simp
  generalize ((((w.alloc (.cells #[.int .i64 0, .int .i64 0] 25)).alloc (.cells #[.int .i64 0, .int .i64 0] 25)).alloc (.cells #[.int .i64 0, .int .i64 0] 25)).alloc (.cells #[.int .i64 0, .int .i64 0] 25)) = v0 at g0 g1 g2 g3 hb0 hc0 hz0 ⊢
  refine (new_q _ a len cap hc0).mono ?_
  rintro e v1 ⟨p, rfl, hp0, hr, hold, hbn⟩
  have hlt := hr.lt
  replace g0 := hold _ _ g0
  replace g1 := hold _ _ g1
  replace g2 := hold _ _ g2
  replace g3 := hold _ _ g3
  replace hb0 := btrans hb0 hbn
  have hpw : w.heap.size ≤ p := by omega
  have hpv : ∀ x, x < v0.heap.size → x ≠ p := by intro x hx; omega
  clear hbn hold hc0
  go_wp2_with fail
  refine (point_r _ p a len cap hr).mono ?_
  rintro e v2 ⟨ax, ay, rfl, _, _, hr2, hg⟩
  replace g0 := grown_blk hg g0 (by omega)
  replace g1 := grown_blk hg g1 (by omega)
  replace g2 := grown_blk hg g2 (by omega)
  replace g3 := grown_blk hg g3 (by omega)
  replace hb0 := bgrown hb0 hg hpw
  have hsv2 := hg.size
  clear hr hg
  rename Ready v2 p a len cap => hr
  go_wp2_with fail
  replace g0 := old_alloc (o' := .cells #[.int .i64 ax, .int .i64 ay] 25) g0
  replace g1 := old_alloc (o' := .cells #[.int .i64 ax, .int .i64 ay] 25) g1
  replace g2 := old_alloc (o' := .cells #[.int .i64 ax, .int .i64 ay] 25) g2
  replace g3 := old_alloc (o' := .cells #[.int .i64 ax, .int .i64 ay] 25) g3
  have gv3 := new_alloc v2 v2.heap.size (.cells #[.int .i64 ax, .int .i64 ay] 25) rfl
  replace hr := hr.alloc (.cells #[.int .i64 ax, .int .i64 ay] 25)
  replace hb0 := balloc hb0 (.cells #[.int .i64 ax, .int .i64 ay] 25)
  have hzv3 : (v2.alloc (.cells #[.int .i64 ax, .int .i64 ay] 25)).heap.size = v2.heap.size + 1 := by simp
  have hqv3 : p < v2.heap.size := by have := hr.lt; omega
  generalize (v2.alloc (.cells #[.int .i64 ax, .int .i64 ay] 25)) = v3 at g0 g1 g2 g3 gv3 hr hb0 hzv3 ⊢
  generalize hkv3 : v2.heap.size = qv3 at *
  refine (point_r _ p a len cap hr).mono ?_
  rintro e v4 ⟨bx, bY, rfl, _, _, hr2, hg⟩
  replace g0 := grown_blk hg g0 (by omega)
  replace g1 := grown_blk hg g1 (by omega)
  replace g2 := grown_blk hg g2 (by omega)
  replace g3 := grown_blk hg g3 (by omega)
  replace gv3 := grown_blk hg gv3 (by omega)
  replace hb0 := bgrown hb0 hg hpw
  have hsv4 := hg.size
  clear hr hg
  rename Ready v4 p a len cap => hr
  go_wp2_with fail
  replace g0 := old_alloc (o' := .cells #[.int .i64 bx, .int .i64 bY] 25) g0
  replace g1 := old_alloc (o' := .cells #[.int .i64 bx, .int .i64 bY] 25) g1
  replace g2 := old_alloc (o' := .cells #[.int .i64 bx, .int .i64 bY] 25) g2
  replace g3 := old_alloc (o' := .cells #[.int .i64 bx, .int .i64 bY] 25) g3
  replace gv3 := old_alloc (o' := .cells #[.int .i64 bx, .int .i64 bY] 25) gv3
  have gv5 := new_alloc v4 v4.heap.size (.cells #[.int .i64 bx, .int .i64 bY] 25) rfl
  replace hr := hr.alloc (.cells #[.int .i64 bx, .int .i64 bY] 25)
  replace hb0 := balloc hb0 (.cells #[.int .i64 bx, .int .i64 bY] 25)
  have hzv5 : (v4.alloc (.cells #[.int .i64 bx, .int .i64 bY] 25)).heap.size = v4.heap.size + 1 := by simp
  have hqv5 : p < v4.heap.size := by have := hr.lt; omega
  generalize (v4.alloc (.cells #[.int .i64 bx, .int .i64 bY] 25)) = v5 at g0 g1 g2 g3 gv3 gv5 hr hb0 hzv5 ⊢
  generalize hkv5 : v4.heap.size = qv5 at *
  refine (point_r _ p a len cap hr).mono ?_
  rintro e v6 ⟨dx, dy, rfl, _, _, hr2, hg⟩
  replace g0 := grown_blk hg g0 (by omega)
  replace g1 := grown_blk hg g1 (by omega)
  replace g2 := grown_blk hg g2 (by omega)
  replace g3 := grown_blk hg g3 (by omega)
  replace gv3 := grown_blk hg gv3 (by omega)
  replace gv5 := grown_blk hg gv5 (by omega)
  replace hb0 := bgrown hb0 hg hpw
  have hsv6 := hg.size
  clear hr hg
  rename Ready v6 p a len cap => hr
  go_wp2_with fail
  replace g0 := old_alloc (o' := .cells #[.int .i64 dx, .int .i64 dy] 25) g0
  replace g1 := old_alloc (o' := .cells #[.int .i64 dx, .int .i64 dy] 25) g1
  replace g2 := old_alloc (o' := .cells #[.int .i64 dx, .int .i64 dy] 25) g2
  replace g3 := old_alloc (o' := .cells #[.int .i64 dx, .int .i64 dy] 25) g3
  replace gv3 := old_alloc (o' := .cells #[.int .i64 dx, .int .i64 dy] 25) gv3
  replace gv5 := old_alloc (o' := .cells #[.int .i64 dx, .int .i64 dy] 25) gv5
  have gv7 := new_alloc v6 v6.heap.size (.cells #[.int .i64 dx, .int .i64 dy] 25) rfl
  replace hr := hr.alloc (.cells #[.int .i64 dx, .int .i64 dy] 25)
  replace hb0 := balloc hb0 (.cells #[.int .i64 dx, .int .i64 dy] 25)
  have hzv7 : (v6.alloc (.cells #[.int .i64 dx, .int .i64 dy] 25)).heap.size = v6.heap.size + 1 := by simp
  have hqv7 : p < v6.heap.size := by have := hr.lt; omega
  generalize (v6.alloc (.cells #[.int .i64 dx, .int .i64 dy] 25)) = v7 at g0 g1 g2 g3 gv3 gv5 gv7 hr hb0 hzv7 ⊢
  generalize hkv7 : v6.heap.size = qv7 at *
  refine (once_r _ p a len cap 4 (by omega) (by omega) hr).mono ?_
  rintro e v8 ⟨b, rfl, hr2, hg⟩
  replace g0 := grown_blk hg g0 (by omega)
  replace g1 := grown_blk hg g1 (by omega)
  replace g2 := grown_blk hg g2 (by omega)
  replace g3 := grown_blk hg g3 (by omega)
  replace gv3 := grown_blk hg gv3 (by omega)
  replace gv5 := grown_blk hg gv5 (by omega)
  replace gv7 := grown_blk hg gv7 (by omega)
  replace hb0 := bgrown hb0 hg hpw
  have hsv8 := hg.size
  clear hr hg
  rename Ready v8 p a len cap => hr
  cases b
  · skip
    go_wp2_with fail
    replace g0 : v8.drew.heap[w.heap.size]? = some (.cells #[.int .i64 0, .int .i64 0] 25 (0, 0)) := g0
    replace g1 : v8.drew.heap[w.heap.size + 1]? = some (.cells #[.int .i64 0, .int .i64 0] 25 (0, 0)) := g1
    replace g2 : v8.drew.heap[w.heap.size + 1 + 1]? = some (.cells #[.int .i64 0, .int .i64 0] 25 (0, 0)) := g2
    replace g3 : v8.drew.heap[w.heap.size + 1 + 1 + 1]? = some (.cells #[.int .i64 0, .int .i64 0] 25 (0, 0)) := g3
    replace gv3 : v8.drew.heap[qv3]? = some (.cells #[.int .i64 ax, .int .i64 ay] 25 (0, 0)) := gv3
    replace gv5 : v8.drew.heap[qv5]? = some (.cells #[.int .i64 bx, .int .i64 bY] 25 (0, 0)) := gv5
    replace gv7 : v8.drew.heap[qv7]? = some (.cells #[.int .i64 dx, .int .i64 dy] 25 (0, 0)) := gv7
    replace hr : Ready v8.drew p a len cap := hr
    replace hb0 := bdrew hb0
    obtain ⟨lgv3c0, lgv3c1, lgv3f0, lgv3f1⟩ := cell2g gv3
    obtain ⟨lgv5c0, lgv5c1, lgv5f0, lgv5f1⟩ := cell2g gv5
    obtain ⟨lgv7c0, lgv7c1, lgv7f0, lgv7f1⟩ := cell2g gv7
    refine wp_region_held_drew (S := (fun w' => w'.cell? ⟨qv3, 0, none⟩ = some (.int .i64 ax) ∧ w'.cell? ⟨qv3, 1, none⟩ = some (.int .i64 ay) ∧ w'.cell? ⟨qv5, 0, none⟩ = some (.int .i64 bx) ∧ w'.cell? ⟨qv5, 1, none⟩ = some (.int .i64 bY) ∧ w'.cell? ⟨qv7, 0, none⟩ = some (.int .i64 dx) ∧ w'.cell? ⟨qv7, 1, none⟩ = some (.int .i64 dy))) (by kernel_rfl) ?_ (fun hHeld => ?_)
    · (repeat' apply And.intro) <;> (with_reducible assumption)
    generalize v8.drew = v9 at hHeld hr hb0 g0 g1 g2 g3 gv3 gv5 gv7 lgv3c0 lgv3c1 lgv5c0 lgv5c1 lgv7c0 lgv7c1 ⊢
    refine wpAnyH_take (i := 0) (v := ?_) rfl (by kernel_rfl) (by kernel_rfl) (by kernel_rfl) (fun _ _ _ h => h) (Or.inl ⟨by rfl, ?_⟩) hHeld ?_
    rotate_left
    · intro w hSw; (try dsimp only at hSw); go_simp; try (with_reducible rfl)
    try simp only [Act.put, List.getElem_toArray, List.getElem_cons_zero, List.getElem_cons_succ, List.setIfInBounds_toArray, List.set_cons_zero, List.set_cons_succ]
    refine wpAnyH_take (i := 1) (v := ?_) rfl (by kernel_rfl) (by kernel_rfl) (by kernel_rfl) (fun _ _ _ h => h) (Or.inl ⟨by rfl, ?_⟩) hHeld ?_
    rotate_left
    · intro w hSw; (try dsimp only at hSw); go_simp; try (with_reducible rfl)
    try simp only [Act.put, List.getElem_toArray, List.getElem_cons_zero, List.getElem_cons_succ, List.setIfInBounds_toArray, List.set_cons_zero, List.set_cons_succ]
    refine wpAnyH_take (i := 2) (v := ?_) rfl (by kernel_rfl) (by kernel_rfl) (by kernel_rfl) (fun _ _ _ h => h) (Or.inl ⟨by rfl, ?_⟩) hHeld ?_
    rotate_left
    · intro w hSw; (try dsimp only at hSw); go_simp; try (with_reducible rfl)
    try simp only [Act.put, List.getElem_toArray, List.getElem_cons_zero, List.getElem_cons_succ, List.setIfInBounds_toArray, List.set_cons_zero, List.set_cons_succ]
    refine wpAnyH_take (i := 3) (v := ?_) rfl (by kernel_rfl) (by kernel_rfl) (by kernel_rfl) (fun _ _ _ h => h) (Or.inl ⟨by rfl, ?_⟩) hHeld ?_
    rotate_left
    · intro w hSw; (try dsimp only at hSw); go_simp; try (with_reducible rfl)
    try simp only [Act.put, List.getElem_toArray, List.getElem_cons_zero, List.getElem_cons_succ, List.setIfInBounds_toArray, List.set_cons_zero, List.set_cons_succ]
    refine wpAnyH_ready (rs := [4]) (by kernel_rfl) (by simp) ?_
    refine AllReadyH.cons rfl (fun K hK => ?_) AllReadyH.nil
    try simp only [Act.put, List.getElem_toArray, List.getElem_cons_zero, List.getElem_cons_succ, List.setIfInBounds_toArray, List.set_cons_zero, List.set_cons_succ]
    go_simp
    (first
        | (go_at_call 68; refine (point_r _ p a len cap hr).mono ?_; rintro e v10 ⟨ex, ey, rfl, _, _, hr2, hg⟩; replace g0 := grown_blk hg g0 (by omega); replace g1 := grown_blk hg g1 (by omega); replace g2 := grown_blk hg g2 (by omega); replace g3 := grown_blk hg g3 (by omega); replace gv3 := grown_blk hg gv3 (by omega); replace gv5 := grown_blk hg gv5 (by omega); replace gv7 := grown_blk hg gv7 (by omega); replace hb0 := bgrown hb0 hg hpw; clear hr hg; obtain ⟨ngv3c0, ngv3c1, _, _⟩ := cell2g gv3; obtain ⟨ngv5c0, ngv5c1, _, _⟩ := cell2g gv5; obtain ⟨ngv7c0, ngv7c1, _, _⟩ := cell2g gv7))
    go_wp2_with fail
    refine hK.out _ _ ?_ (fun hHeld => ?_)
    · (repeat' apply And.intro) <;> (with_reducible assumption)
    clear hK K
    try simp only [Act.put, List.getElem_toArray, List.getElem_cons_zero, List.getElem_cons_succ, List.setIfInBounds_toArray, List.set_cons_zero, List.set_cons_succ]
    obtain ⟨s5c0, s5c1, s5f0, s5f1⟩ := cell2g g0
    have hset := set2 g0 (.int .i64 ax) (.int .i64 ay)
    replace g0 := hset.1
    replace g1 := hset.2 _ _ (by omega) g1
    replace g2 := hset.2 _ _ (by omega) g2
    replace g3 := hset.2 _ _ (by omega) g3
    replace gv3 := hset.2 _ _ (by omega) gv3
    replace gv5 := hset.2 _ _ (by omega) gv5
    replace gv7 := hset.2 _ _ (by omega) gv7
    clear hset
    replace hb0 := bset hb0 (q := w.heap.size) (k := 0) (by omega) (.int .i64 ax)
    replace hb0 := bset hb0 (q := w.heap.size) (k := 1) (by omega) (.int .i64 ay)
    obtain ⟨t5gv3c0, t5gv3c1, _, _⟩ := cell2g gv3
    obtain ⟨t5gv5c0, t5gv5c1, _, _⟩ := cell2g gv5
    obtain ⟨t5gv7c0, t5gv7c1, _, _⟩ := cell2g gv7
    refine wpAnyH_ready (rs := [5]) (by kernel_rfl) (by simp) ?_
    refine AllReadyH.cons rfl (fun K hK => ?_) AllReadyH.nil
    try simp only [Act.put, List.getElem_toArray, List.getElem_cons_zero, List.getElem_cons_succ, List.setIfInBounds_toArray, List.set_cons_zero, List.set_cons_succ]
    go_simp
    refine hK.out _ _ ?_ (fun hHeld => ?_)
    · (repeat' apply And.intro) <;> (with_reducible assumption)
    clear hK K
    try simp only [Act.put, List.getElem_toArray, List.getElem_cons_zero, List.getElem_cons_succ, List.setIfInBounds_toArray, List.set_cons_zero, List.set_cons_succ]
    obtain ⟨s6c0, s6c1, s6f0, s6f1⟩ := cell2g g1
    have hset := set2 g1 (.int .i64 bx) (.int .i64 bY)
    replace g0 := hset.2 _ _ (by omega) g0
    replace g1 := hset.1
    replace g2 := hset.2 _ _ (by omega) g2
    replace g3 := hset.2 _ _ (by omega) g3
    replace gv3 := hset.2 _ _ (by omega) gv3
    replace gv5 := hset.2 _ _ (by omega) gv5
    replace gv7 := hset.2 _ _ (by omega) gv7
    clear hset
    replace hb0 := bset hb0 (q := w.heap.size + 1) (k := 0) (by omega) (.int .i64 bx)
    replace hb0 := bset hb0 (q := w.heap.size + 1) (k := 1) (by omega) (.int .i64 bY)
    obtain ⟨t6gv3c0, t6gv3c1, _, _⟩ := cell2g gv3
    obtain ⟨t6gv5c0, t6gv5c1, _, _⟩ := cell2g gv5
    obtain ⟨t6gv7c0, t6gv7c1, _, _⟩ := cell2g gv7
    refine wpAnyH_ready (rs := [6]) (by kernel_rfl) (by simp) ?_
    refine AllReadyH.cons rfl (fun K hK => ?_) AllReadyH.nil
    try simp only [Act.put, List.getElem_toArray, List.getElem_cons_zero, List.getElem_cons_succ, List.setIfInBounds_toArray, List.set_cons_zero, List.set_cons_succ]
    go_simp
    refine hK.out _ _ ?_ (fun hHeld => ?_)
    · (repeat' apply And.intro) <;> (with_reducible assumption)
    clear hK K
    try simp only [Act.put, List.getElem_toArray, List.getElem_cons_zero, List.getElem_cons_succ, List.setIfInBounds_toArray, List.set_cons_zero, List.set_cons_succ]
    obtain ⟨s7c0, s7c1, s7f0, s7f1⟩ := cell2g g2
    have hset := set2 g2 (.int .i64 dx) (.int .i64 dy)
    replace g0 := hset.2 _ _ (by omega) g0
    replace g1 := hset.2 _ _ (by omega) g1
    replace g2 := hset.1
    replace g3 := hset.2 _ _ (by omega) g3
    replace gv3 := hset.2 _ _ (by omega) gv3
    replace gv5 := hset.2 _ _ (by omega) gv5
    replace gv7 := hset.2 _ _ (by omega) gv7
    clear hset
    replace hb0 := bset hb0 (q := w.heap.size + 1 + 1) (k := 0) (by omega) (.int .i64 dx)
    replace hb0 := bset hb0 (q := w.heap.size + 1 + 1) (k := 1) (by omega) (.int .i64 dy)
    obtain ⟨t7gv3c0, t7gv3c1, _, _⟩ := cell2g gv3
    obtain ⟨t7gv5c0, t7gv5c1, _, _⟩ := cell2g gv5
    obtain ⟨t7gv7c0, t7gv7c1, _, _⟩ := cell2g gv7
    refine wpAnyH_ready (rs := [7]) (by kernel_rfl) (by simp) ?_
    refine AllReadyH.cons rfl (fun K hK => ?_) AllReadyH.nil
    try simp only [Act.put, List.getElem_toArray, List.getElem_cons_zero, List.getElem_cons_succ, List.setIfInBounds_toArray, List.set_cons_zero, List.set_cons_succ]
    go_simp
    refine hK.out _ _ ?_ (fun hHeld => ?_)
    · (repeat' apply And.intro) <;> (with_reducible assumption)
    clear hK K
    try simp only [Act.put, List.getElem_toArray, List.getElem_cons_zero, List.getElem_cons_succ, List.setIfInBounds_toArray, List.set_cons_zero, List.set_cons_succ]
    obtain ⟨s8c0, s8c1, s8f0, s8f1⟩ := cell2g g3
    have hset := set2 g3 (.int .i64 ex) (.int .i64 ey)
    replace g0 := hset.2 _ _ (by omega) g0
    replace g1 := hset.2 _ _ (by omega) g1
    replace g2 := hset.2 _ _ (by omega) g2
    replace g3 := hset.1
    replace gv3 := hset.2 _ _ (by omega) gv3
    replace gv5 := hset.2 _ _ (by omega) gv5
    replace gv7 := hset.2 _ _ (by omega) gv7
    clear hset
    replace hb0 := bset hb0 (q := w.heap.size + 1 + 1 + 1) (k := 0) (by omega) (.int .i64 ex)
    replace hb0 := bset hb0 (q := w.heap.size + 1 + 1 + 1) (k := 1) (by omega) (.int .i64 ey)
    obtain ⟨t8gv3c0, t8gv3c1, _, _⟩ := cell2g gv3
    obtain ⟨t8gv5c0, t8gv5c1, _, _⟩ := cell2g gv5
    obtain ⟨t8gv7c0, t8gv7c1, _, _⟩ := cell2g gv7
    refine wpAnyH_ready (rs := [8]) (by kernel_rfl) (by simp) ?_
    refine AllReadyH.cons rfl (fun K hK => ?_) AllReadyH.nil
    try simp only [Act.put, List.getElem_toArray, List.getElem_cons_zero, List.getElem_cons_succ, List.setIfInBounds_toArray, List.set_cons_zero, List.set_cons_succ]
    go_simp
    refine hK.out _ _ ?_ (fun hHeld => ?_)
    · (repeat' apply And.intro) <;> (with_reducible assumption)
    clear hK K
    try simp only [Act.put, List.getElem_toArray, List.getElem_cons_zero, List.getElem_cons_succ, List.setIfInBounds_toArray, List.set_cons_zero, List.set_cons_succ]
    refine wpAnyH_done (by kernel_rfl) ?_ _
    go_wp2_with fail
    generalize ((((((((v10.setCell ⟨w.heap.size, 0, none⟩ (.int .i64 ax)).setCell ⟨w.heap.size, 1, none⟩ (.int .i64 ay)).setCell ⟨w.heap.size + 1, 0, none⟩ (.int .i64 bx)).setCell ⟨w.heap.size + 1, 1, none⟩ (.int .i64 bY)).setCell ⟨w.heap.size + 1 + 1, 0, none⟩ (.int .i64 dx)).setCell ⟨w.heap.size + 1 + 1, 1, none⟩ (.int .i64 dy)).setCell ⟨w.heap.size + 1 + 1 + 1, 0, none⟩ (.int .i64 ex)).setCell ⟨w.heap.size + 1 + 1 + 1, 1, none⟩ (.int .i64 ey)) = wf at hb0 g0 g1 g2 g3 gv3 gv5 gv7 ⊢
    obtain ⟨z0c0, z0c1, _, _⟩ := cell2g g0
    obtain ⟨z1c0, z1c1, _, _⟩ := cell2g g1
    obtain ⟨z2c0, z2c1, _, _⟩ := cell2g g2
    obtain ⟨z3c0, z3c1, _, _⟩ := cell2g g3
    exact bodyPost_ret (v := .tuple #[.agg #[.int .i64 ax, .int .i64 ay], .agg #[.int .i64 bx, .int .i64 bY], .agg #[.int .i64 dx, .int .i64 dy], .agg #[.int .i64 ex, .int .i64 ey]]) (by simp [results, Try.results35, go_sem, z0c0, z0c1, z1c0, z1c1, z2c0, z2c1, z3c0, z3c1]) rfl ⟨ax, ay, bx, bY, dx, dy, ex, ey, rfl, hb0⟩
  · skip
    go_wp2_with fail
    replace g0 : v8.drew.heap[w.heap.size]? = some (.cells #[.int .i64 0, .int .i64 0] 25 (0, 0)) := g0
    replace g1 : v8.drew.heap[w.heap.size + 1]? = some (.cells #[.int .i64 0, .int .i64 0] 25 (0, 0)) := g1
    replace g2 : v8.drew.heap[w.heap.size + 1 + 1]? = some (.cells #[.int .i64 0, .int .i64 0] 25 (0, 0)) := g2
    replace g3 : v8.drew.heap[w.heap.size + 1 + 1 + 1]? = some (.cells #[.int .i64 0, .int .i64 0] 25 (0, 0)) := g3
    replace gv3 : v8.drew.heap[qv3]? = some (.cells #[.int .i64 ax, .int .i64 ay] 25 (0, 0)) := gv3
    replace gv5 : v8.drew.heap[qv5]? = some (.cells #[.int .i64 bx, .int .i64 bY] 25 (0, 0)) := gv5
    replace gv7 : v8.drew.heap[qv7]? = some (.cells #[.int .i64 dx, .int .i64 dy] 25 (0, 0)) := gv7
    replace hr : Ready v8.drew p a len cap := hr
    replace hb0 := bdrew hb0
    obtain ⟨lgv3c0, lgv3c1, lgv3f0, lgv3f1⟩ := cell2g gv3
    obtain ⟨lgv5c0, lgv5c1, lgv5f0, lgv5f1⟩ := cell2g gv5
    obtain ⟨lgv7c0, lgv7c1, lgv7f0, lgv7f1⟩ := cell2g gv7
    refine wp_region_held_drew (S := (fun w' => w'.cell? ⟨qv3, 0, none⟩ = some (.int .i64 ax) ∧ w'.cell? ⟨qv3, 1, none⟩ = some (.int .i64 ay) ∧ w'.cell? ⟨qv5, 0, none⟩ = some (.int .i64 bx) ∧ w'.cell? ⟨qv5, 1, none⟩ = some (.int .i64 bY) ∧ w'.cell? ⟨qv7, 0, none⟩ = some (.int .i64 dx) ∧ w'.cell? ⟨qv7, 1, none⟩ = some (.int .i64 dy))) (by kernel_rfl) ?_ (fun hHeld => ?_)
    · (repeat' apply And.intro) <;> (with_reducible assumption)
    generalize v8.drew = v9 at hHeld hr hb0 g0 g1 g2 g3 gv3 gv5 gv7 lgv3c0 lgv3c1 lgv5c0 lgv5c1 lgv7c0 lgv7c1 ⊢
    refine wpAnyH_take (i := 0) (v := ?_) rfl (by kernel_rfl) (by kernel_rfl) (by kernel_rfl) (fun _ _ _ h => h) (Or.inl ⟨by rfl, ?_⟩) hHeld ?_
    rotate_left
    · intro w hSw; (try dsimp only at hSw); go_simp; try (with_reducible rfl)
    try simp only [Act.put, List.getElem_toArray, List.getElem_cons_zero, List.getElem_cons_succ, List.setIfInBounds_toArray, List.set_cons_zero, List.set_cons_succ]
    refine wpAnyH_take (i := 1) (v := ?_) rfl (by kernel_rfl) (by kernel_rfl) (by kernel_rfl) (fun _ _ _ h => h) (Or.inl ⟨by rfl, ?_⟩) hHeld ?_
    rotate_left
    · intro w hSw; (try dsimp only at hSw); go_simp; try (with_reducible rfl)
    try simp only [Act.put, List.getElem_toArray, List.getElem_cons_zero, List.getElem_cons_succ, List.setIfInBounds_toArray, List.set_cons_zero, List.set_cons_succ]
    refine wpAnyH_take (i := 2) (v := ?_) rfl (by kernel_rfl) (by kernel_rfl) (by kernel_rfl) (fun _ _ _ h => h) (Or.inl ⟨by rfl, ?_⟩) hHeld ?_
    rotate_left
    · intro w hSw; (try dsimp only at hSw); go_simp; try (with_reducible rfl)
    try simp only [Act.put, List.getElem_toArray, List.getElem_cons_zero, List.getElem_cons_succ, List.setIfInBounds_toArray, List.set_cons_zero, List.set_cons_succ]
    refine wpAnyH_take (i := 3) (v := ?_) rfl (by kernel_rfl) (by kernel_rfl) (by kernel_rfl) (fun _ _ _ h => h) (Or.inl ⟨by rfl, ?_⟩) hHeld ?_
    rotate_left
    · intro w hSw; (try dsimp only at hSw); go_simp; try (with_reducible rfl)
    try simp only [Act.put, List.getElem_toArray, List.getElem_cons_zero, List.getElem_cons_succ, List.setIfInBounds_toArray, List.set_cons_zero, List.set_cons_succ]
    obtain ⟨s4c0, s4c1, s4f0, s4f1⟩ := cell2g g0
    have hset := set2 g0 (.int .i64 ax) (.int .i64 ay)
    replace g0 := hset.1
    replace g1 := hset.2 _ _ (by omega) g1
    replace g2 := hset.2 _ _ (by omega) g2
    replace g3 := hset.2 _ _ (by omega) g3
    replace gv3 := hset.2 _ _ (by omega) gv3
    replace gv5 := hset.2 _ _ (by omega) gv5
    replace gv7 := hset.2 _ _ (by omega) gv7
    clear hset
    replace hb0 := bset hb0 (q := w.heap.size) (k := 0) (by omega) (.int .i64 ax)
    replace hb0 := bset hb0 (q := w.heap.size) (k := 1) (by omega) (.int .i64 ay)
    obtain ⟨t4gv3c0, t4gv3c1, _, _⟩ := cell2g gv3
    obtain ⟨t4gv5c0, t4gv5c1, _, _⟩ := cell2g gv5
    obtain ⟨t4gv7c0, t4gv7c1, _, _⟩ := cell2g gv7
    refine wpAnyH_ready (rs := [4]) (by kernel_rfl) (by simp) ?_
    refine AllReadyH.cons rfl (fun K hK => ?_) AllReadyH.nil
    try simp only [Act.put, List.getElem_toArray, List.getElem_cons_zero, List.getElem_cons_succ, List.setIfInBounds_toArray, List.set_cons_zero, List.set_cons_succ]
    go_simp
    refine hK.out _ _ ?_ (fun hHeld => ?_)
    · (repeat' apply And.intro) <;> (with_reducible assumption)
    clear hK K
    try simp only [Act.put, List.getElem_toArray, List.getElem_cons_zero, List.getElem_cons_succ, List.setIfInBounds_toArray, List.set_cons_zero, List.set_cons_succ]
    obtain ⟨s5c0, s5c1, s5f0, s5f1⟩ := cell2g g1
    have hset := set2 g1 (.int .i64 bx) (.int .i64 bY)
    replace g0 := hset.2 _ _ (by omega) g0
    replace g1 := hset.1
    replace g2 := hset.2 _ _ (by omega) g2
    replace g3 := hset.2 _ _ (by omega) g3
    replace gv3 := hset.2 _ _ (by omega) gv3
    replace gv5 := hset.2 _ _ (by omega) gv5
    replace gv7 := hset.2 _ _ (by omega) gv7
    clear hset
    replace hb0 := bset hb0 (q := w.heap.size + 1) (k := 0) (by omega) (.int .i64 bx)
    replace hb0 := bset hb0 (q := w.heap.size + 1) (k := 1) (by omega) (.int .i64 bY)
    obtain ⟨t5gv3c0, t5gv3c1, _, _⟩ := cell2g gv3
    obtain ⟨t5gv5c0, t5gv5c1, _, _⟩ := cell2g gv5
    obtain ⟨t5gv7c0, t5gv7c1, _, _⟩ := cell2g gv7
    refine wpAnyH_ready (rs := [5]) (by kernel_rfl) (by simp) ?_
    refine AllReadyH.cons rfl (fun K hK => ?_) AllReadyH.nil
    try simp only [Act.put, List.getElem_toArray, List.getElem_cons_zero, List.getElem_cons_succ, List.setIfInBounds_toArray, List.set_cons_zero, List.set_cons_succ]
    go_simp
    refine hK.out _ _ ?_ (fun hHeld => ?_)
    · (repeat' apply And.intro) <;> (with_reducible assumption)
    clear hK K
    try simp only [Act.put, List.getElem_toArray, List.getElem_cons_zero, List.getElem_cons_succ, List.setIfInBounds_toArray, List.set_cons_zero, List.set_cons_succ]
    obtain ⟨s6c0, s6c1, s6f0, s6f1⟩ := cell2g g2
    have hset := set2 g2 (.int .i64 ax) (.int .i64 ay)
    replace g0 := hset.2 _ _ (by omega) g0
    replace g1 := hset.2 _ _ (by omega) g1
    replace g2 := hset.1
    replace g3 := hset.2 _ _ (by omega) g3
    replace gv3 := hset.2 _ _ (by omega) gv3
    replace gv5 := hset.2 _ _ (by omega) gv5
    replace gv7 := hset.2 _ _ (by omega) gv7
    clear hset
    replace hb0 := bset hb0 (q := w.heap.size + 1 + 1) (k := 0) (by omega) (.int .i64 ax)
    replace hb0 := bset hb0 (q := w.heap.size + 1 + 1) (k := 1) (by omega) (.int .i64 ay)
    obtain ⟨t6gv3c0, t6gv3c1, _, _⟩ := cell2g gv3
    obtain ⟨t6gv5c0, t6gv5c1, _, _⟩ := cell2g gv5
    obtain ⟨t6gv7c0, t6gv7c1, _, _⟩ := cell2g gv7
    refine wpAnyH_ready (rs := [6]) (by kernel_rfl) (by simp) ?_
    refine AllReadyH.cons rfl (fun K hK => ?_) AllReadyH.nil
    try simp only [Act.put, List.getElem_toArray, List.getElem_cons_zero, List.getElem_cons_succ, List.setIfInBounds_toArray, List.set_cons_zero, List.set_cons_succ]
    go_simp
    refine hK.out _ _ ?_ (fun hHeld => ?_)
    · (repeat' apply And.intro) <;> (with_reducible assumption)
    clear hK K
    try simp only [Act.put, List.getElem_toArray, List.getElem_cons_zero, List.getElem_cons_succ, List.setIfInBounds_toArray, List.set_cons_zero, List.set_cons_succ]
    obtain ⟨s7c0, s7c1, s7f0, s7f1⟩ := cell2g g3
    have hset := set2 g3 (.int .i64 dx) (.int .i64 dy)
    replace g0 := hset.2 _ _ (by omega) g0
    replace g1 := hset.2 _ _ (by omega) g1
    replace g2 := hset.2 _ _ (by omega) g2
    replace g3 := hset.1
    replace gv3 := hset.2 _ _ (by omega) gv3
    replace gv5 := hset.2 _ _ (by omega) gv5
    replace gv7 := hset.2 _ _ (by omega) gv7
    clear hset
    replace hb0 := bset hb0 (q := w.heap.size + 1 + 1 + 1) (k := 0) (by omega) (.int .i64 dx)
    replace hb0 := bset hb0 (q := w.heap.size + 1 + 1 + 1) (k := 1) (by omega) (.int .i64 dy)
    obtain ⟨t7gv3c0, t7gv3c1, _, _⟩ := cell2g gv3
    obtain ⟨t7gv5c0, t7gv5c1, _, _⟩ := cell2g gv5
    obtain ⟨t7gv7c0, t7gv7c1, _, _⟩ := cell2g gv7
    refine wpAnyH_ready (rs := [7]) (by kernel_rfl) (by simp) ?_
    refine AllReadyH.cons rfl (fun K hK => ?_) AllReadyH.nil
    try simp only [Act.put, List.getElem_toArray, List.getElem_cons_zero, List.getElem_cons_succ, List.setIfInBounds_toArray, List.set_cons_zero, List.set_cons_succ]
    go_simp
    refine hK.out _ _ ?_ (fun hHeld => ?_)
    · (repeat' apply And.intro) <;> (with_reducible assumption)
    clear hK K
    try simp only [Act.put, List.getElem_toArray, List.getElem_cons_zero, List.getElem_cons_succ, List.setIfInBounds_toArray, List.set_cons_zero, List.set_cons_succ]
    refine wpAnyH_done (by kernel_rfl) ?_ _
    go_wp2_with fail
    generalize ((((((((v9.setCell ⟨w.heap.size, 0, none⟩ (.int .i64 ax)).setCell ⟨w.heap.size, 1, none⟩ (.int .i64 ay)).setCell ⟨w.heap.size + 1, 0, none⟩ (.int .i64 bx)).setCell ⟨w.heap.size + 1, 1, none⟩ (.int .i64 bY)).setCell ⟨w.heap.size + 1 + 1, 0, none⟩ (.int .i64 ax)).setCell ⟨w.heap.size + 1 + 1, 1, none⟩ (.int .i64 ay)).setCell ⟨w.heap.size + 1 + 1 + 1, 0, none⟩ (.int .i64 dx)).setCell ⟨w.heap.size + 1 + 1 + 1, 1, none⟩ (.int .i64 dy)) = wf at hb0 g0 g1 g2 g3 gv3 gv5 gv7 ⊢
    obtain ⟨z0c0, z0c1, _, _⟩ := cell2g g0
    obtain ⟨z1c0, z1c1, _, _⟩ := cell2g g1
    obtain ⟨z2c0, z2c1, _, _⟩ := cell2g g2
    obtain ⟨z3c0, z3c1, _, _⟩ := cell2g g3
    exact bodyPost_ret (v := .tuple #[.agg #[.int .i64 ax, .int .i64 ay], .agg #[.int .i64 bx, .int .i64 bY], .agg #[.int .i64 ax, .int .i64 ay], .agg #[.int .i64 dx, .int .i64 dy]]) (by simp [results, Try.results35, go_sem, z0c0, z0c1, z1c0, z1c1, z2c0, z2c1, z3c0, z3c1]) rfl ⟨ax, ay, bx, bY, ax, ay, dx, dy, rfl, hb0⟩
end Go.Proofs.Ytkncdncpgjpemaa
