/- Boxes that are drawn. -/
import Derived.Test.YtkncdncpgjpemaaDrawT
import Derived.Test.YtkncdncpgjpemaaGeo10
namespace Go.Proofs.Ytkncdncpgjpemaa
open Go.RowKit
set_option linter.unusedVariables false
set_option linter.unusedSimpArgs false
def Cd2 (z : Int) : Prop := -40010 ≤ z ∧ z ≤ 40010
set_option maxRecDepth 100000 in
set_option maxHeartbeats 1000000 in
theorem box_r (w : World) (p : Nat) (a : Option Addr) (len cap : Nat) (h : Ready w p a len cap) : Calls Try.prog 81 #[.pointer (some ⟨p, 0, none⟩)] w fun e w' => ∃ x y z u : Int, e = .returned (.agg #[.int .i64 x, .int .i64 y, .int .i64 z, .int .i64 u]) ∧ Cd2 x ∧ Cd2 y ∧ Cd2 z ∧ Cd2 u ∧ Ready w' p a len cap ∧ w.grownBy w' (some p) := by
  have hlt := h.lt
  go_enter Try.func81, Try.ntmps81
  go_wp2_with fail
  refine (coord_r _ p a len cap (h.alloc _)).mono ?_
  rintro e w1 ⟨x, rfl, ⟨x1, x2⟩, hr, hg⟩
  have hb := grown_blk hg (heap_alloc_new w _) (by omega)
  replace hg := grown_trans (grown_alloc _ _ _) hg
  go_wp2_with fail
  refine (coord_r _ p a len cap hr).mono ?_
  rintro e w2 ⟨y, rfl, ⟨y1, y2⟩, hr2, hg2⟩
  replace hb := grown_blk hg2 hb (by omega)
  replace hg := grown_trans hg hg2
  clear hg2 hr
  go_wp2_with fail
  refine (below_r _ p a len cap 8 (by omega) (by omega) hr2).mono ?_
  rintro e w3 ⟨z, rfl, z0, z1, hr, hg2⟩
  replace hb := grown_blk hg2 hb (by omega)
  replace hg := grown_trans hg hg2
  clear hg2 hr2
  go_wp2_with fail
  refine (below_r _ p a len cap 8 (by omega) (by omega) hr).mono ?_
  rintro e w4 ⟨u, rfl, u0, u1, hr2, hg2⟩
  replace hb := grown_blk hg2 hb (by omega)
  replace hg := grown_trans hg hg2
  have hsz := hg.size
  have hlt4 := hr2.lt
  clear hg2 hr
  have hqz : w.heap.size < w4.heap.size := lt_of_block hb
  go_wp2_with fail
  refine (once_r _ p a len cap 20 (by omega) (by omega) (hr2.alloc _)).mono ?_
  rintro e w5 ⟨b, rfl, hr, hg2⟩
  have hq := grown_blk hg2 (heap_alloc_new w4 _) (by omega)
  replace hb := grown_blk hg2 (old_alloc hb) (by omega)
  replace hg := grown_trans (grown_trans hg (grown_alloc _ _ _)) hg2
  clear hg2 hr2
  generalize w4.heap.size = q at *
  obtain ⟨k0, k1, k2, k3, f0, f1, f2, f3⟩ := cell4 hb
  obtain ⟨l0, l1, l2, l3, m0, m1, m2, m3⟩ := cell4 hq
  have Hb := hid hb
  have Hq := hid hq
  clear hb hq
  cases b
  · go_wp2_with fail
    have gN := Hb.out
    have rN := hr
    have wN := hg
    have gF := (set4r gN (.int .i64 x) (.int .i64 y) (.int .i64 (x + z)) (.int .i64 (y + u))).1
    have rF := (Ready.set (Ready.set (Ready.set (Ready.set rN (n := w.heap.size) (k := 0) hlt (.int .i64 x)) (n := w.heap.size) (k := 1) hlt (.int .i64 y)) (n := w.heap.size) (k := 2) hlt (.int .i64 (x + z))) (n := w.heap.size) (k := 3) hlt (.int .i64 (y + u)))
    have wF := (grown_setn (grown_setn (grown_setn (grown_setn wN (n := w.heap.size) (k := 0) (Nat.le_refl _) (.int .i64 x)) (n := w.heap.size) (k := 1) (Nat.le_refl _) (.int .i64 y)) (n := w.heap.size) (k := 2) (Nat.le_refl _) (.int .i64 (x + z))) (n := w.heap.size) (k := 3) (Nat.le_refl _) (.int .i64 (y + u)))
    generalize ((((w5.setCell ⟨w.heap.size, 0, none⟩ (.int .i64 x)).setCell ⟨w.heap.size, 1, none⟩ (.int .i64 y)).setCell ⟨w.heap.size, 2, none⟩ (.int .i64 (x + z))).setCell ⟨w.heap.size, 3, none⟩ (.int .i64 (y + u))) = wf at gF rF wF ⊢
    obtain ⟨z0', z1', z2', z3', _, _, _, _⟩ := cell4 gF
    exact bodyPost_ret (v := .agg #[.int .i64 x, .int .i64 y, .int .i64 (x + z), .int .i64 (y + u)]) (by simp [results, Try.results81, go_sem, z0', z1', z2', z3']) rfl ⟨x, y, (x + z), (y + u), rfl, ⟨by omega, by omega⟩, ⟨by omega, by omega⟩, ⟨by omega, by omega⟩, ⟨by omega, by omega⟩, rF, wF⟩
  · go_wp2_with fail
    have gN := set_far (q := q) (k := 2) (u := .int .i64 (x - 1)) Hb.out (by omega)
    have rN := hr.set (n := q) (k := 2) (by omega) (.int .i64 (x - 1))
    have wN := grown_setn hg (n := q) (k := 2) (by omega) (.int .i64 (x - 1))
    have gF := (set4r gN (.int .i64 x) (.int .i64 y) (.int .i64 (x - 1)) (.int .i64 (y + u))).1
    have rF := (Ready.set (Ready.set (Ready.set (Ready.set rN (n := w.heap.size) (k := 0) hlt (.int .i64 x)) (n := w.heap.size) (k := 1) hlt (.int .i64 y)) (n := w.heap.size) (k := 2) hlt (.int .i64 (x - 1))) (n := w.heap.size) (k := 3) hlt (.int .i64 (y + u)))
    have wF := (grown_setn (grown_setn (grown_setn (grown_setn wN (n := w.heap.size) (k := 0) (Nat.le_refl _) (.int .i64 x)) (n := w.heap.size) (k := 1) (Nat.le_refl _) (.int .i64 y)) (n := w.heap.size) (k := 2) (Nat.le_refl _) (.int .i64 (x - 1))) (n := w.heap.size) (k := 3) (Nat.le_refl _) (.int .i64 (y + u)))
    generalize (((((w5.setCell ⟨q, 2, none⟩ (.int .i64 (x - 1))).setCell ⟨w.heap.size, 0, none⟩ (.int .i64 x)).setCell ⟨w.heap.size, 1, none⟩ (.int .i64 y)).setCell ⟨w.heap.size, 2, none⟩ (.int .i64 (x - 1))).setCell ⟨w.heap.size, 3, none⟩ (.int .i64 (y + u))) = wf at gF rF wF ⊢
    obtain ⟨z0', z1', z2', z3', _, _, _, _⟩ := cell4 gF
    exact bodyPost_ret (v := .agg #[.int .i64 x, .int .i64 y, .int .i64 (x - 1), .int .i64 (y + u)]) (by simp [results, Try.results81, go_sem, z0', z1', z2', z3']) rfl ⟨x, y, (x - 1), (y + u), rfl, ⟨by omega, by omega⟩, ⟨by omega, by omega⟩, ⟨by omega, by omega⟩, ⟨by omega, by omega⟩, rF, wF⟩
set_option maxRecDepth 100000 in
set_option maxHeartbeats 1000000 in
theorem draw_boxhas (w : World) (a : Option Addr) (len cap : Nat) (hc : CodeAt w a len w.heap.size) : Calls Try.prog 21 #[.slice a len cap] w fun e w' => ∃ a0 a1 a2 a3 b0 b1 b2 b3 : Int, e = .returned (.tuple #[.agg #[.int .i64 a0, .int .i64 a1, .int .i64 a2, .int .i64 a3], .agg #[.int .i64 b0, .int .i64 b1, .int .i64 b2, .int .i64 b3]]) ∧ Below w.heap.size w w' := by
  go_enter Try.func21, Try.ntmps21
  go_wp2_with fail
  have g0 : ((w.alloc (.cells #[.int .i64 0, .int .i64 0, .int .i64 0, .int .i64 0] 32)).alloc (.cells #[.int .i64 0, .int .i64 0, .int .i64 0, .int .i64 0] 32)).heap[w.heap.size]? = some (.cells #[.int .i64 0, .int .i64 0, .int .i64 0, .int .i64 0] 32 (0, 0)) := by (repeat (first | with_reducible assumption | (with_reducible refine new_alloc _ _ _ ?_; (first | rfl | (simp; done))) | with_reducible refine old_alloc ?_))
  have g1 : ((w.alloc (.cells #[.int .i64 0, .int .i64 0, .int .i64 0, .int .i64 0] 32)).alloc (.cells #[.int .i64 0, .int .i64 0, .int .i64 0, .int .i64 0] 32)).heap[w.heap.size + 1]? = some (.cells #[.int .i64 0, .int .i64 0, .int .i64 0, .int .i64 0] 32 (0, 0)) := by (repeat (first | with_reducible assumption | (with_reducible refine new_alloc _ _ _ ?_; (first | rfl | (simp; done))) | with_reducible refine old_alloc ?_))
  have hb0 : Below w.heap.size w ((w.alloc (.cells #[.int .i64 0, .int .i64 0, .int .i64 0, .int .i64 0] 32)).alloc (.cells #[.int .i64 0, .int .i64 0, .int .i64 0, .int .i64 0] 32)) := by (repeat (first | with_reducible exact Below.refl _ _ | with_reducible assumption | (with_reducible refine btrans ?_ (by with_reducible assumption)) | with_reducible refine bdrew ?_ | with_reducible refine balloc ?_ _))
  have hc0 : CodeAt ((w.alloc (.cells #[.int .i64 0, .int .i64 0, .int .i64 0, .int .i64 0] 32)).alloc (.cells #[.int .i64 0, .int .i64 0, .int .i64 0, .int .i64 0] 32)) a len ((w.alloc (.cells #[.int .i64 0, .int .i64 0, .int .i64 0, .int .i64 0] 32)).alloc (.cells #[.int .i64 0, .int .i64 0, .int .i64 0, .int .i64 0] 32)).heap.size := (hc.below hb0).mono (by simp <;> omega)
  have hz0 : ((w.alloc (.cells #[.int .i64 0, .int .i64 0, .int .i64 0, .int .i64 0] 32)).alloc (.cells #[.int .i64 0, .int .i64 0, .int .i64 0, .int .i64 0] 32)).heap.size = w.heap.size + 2 := by simp
  generalize ((w.alloc (.cells #[.int .i64 0, .int .i64 0, .int .i64 0, .int .i64 0] 32)).alloc (.cells #[.int .i64 0, .int .i64 0, .int .i64 0, .int .i64 0] 32)) = v0 at g0 g1 hb0 hc0 hz0 ⊢
  refine (new_q _ a len cap hc0).mono ?_
  rintro e v1 ⟨p, rfl, hp0, hr, hold, hbn⟩
  have hlt := hr.lt
  replace g0 := hold _ _ g0
  replace g1 := hold _ _ g1
  replace hb0 := btrans hb0 hbn
  have hpw : w.heap.size ≤ p := by omega
  have hpv : ∀ x, x < v0.heap.size → x ≠ p := by intro x hx; omega
  clear hbn hold hc0
  go_wp2_with fail
  refine (box_r _ p a len cap hr).mono ?_
  rintro e v2 ⟨a0, a1, a2, a3, rfl, ⟨p1, p2⟩, ⟨p3, p4⟩, ⟨p5, p6⟩, ⟨p7, p8⟩, hr2, hg⟩
  replace g0 := grown_blk hg g0 (by omega)
  replace g1 := grown_blk hg g1 (by omega)
  replace hb0 := bgrown hb0 hg hpw
  have hsv2 := hg.size
  clear hr hg
  rename Ready v2 p a len cap => hr
  go_wp2_with fail
  replace g0 := old_alloc (o' := .cells #[.int .i64 a0, .int .i64 a1, .int .i64 a2, .int .i64 a3] 32) g0
  replace g1 := old_alloc (o' := .cells #[.int .i64 a0, .int .i64 a1, .int .i64 a2, .int .i64 a3] 32) g1
  have gv3 := new_alloc v2 v2.heap.size (.cells #[.int .i64 a0, .int .i64 a1, .int .i64 a2, .int .i64 a3] 32) rfl
  replace hr := hr.alloc (.cells #[.int .i64 a0, .int .i64 a1, .int .i64 a2, .int .i64 a3] 32)
  replace hb0 := balloc hb0 (.cells #[.int .i64 a0, .int .i64 a1, .int .i64 a2, .int .i64 a3] 32)
  have hzv3 : (v2.alloc (.cells #[.int .i64 a0, .int .i64 a1, .int .i64 a2, .int .i64 a3] 32)).heap.size = v2.heap.size + 1 := by simp
  have hqv3 : p < v2.heap.size := by have := hr.lt; omega
  generalize (v2.alloc (.cells #[.int .i64 a0, .int .i64 a1, .int .i64 a2, .int .i64 a3] 32)) = v3 at g0 g1 gv3 hr hb0 hzv3 ⊢
  generalize hkv3 : v2.heap.size = qv3 at *
  refine (box_r _ p a len cap hr).mono ?_
  rintro e v4 ⟨b0, b1, b2, b3, rfl, _, _, _, _, hr2, hg⟩
  replace g0 := grown_blk hg g0 (by omega)
  replace g1 := grown_blk hg g1 (by omega)
  replace gv3 := grown_blk hg gv3 (by omega)
  replace hb0 := bgrown hb0 hg hpw
  have hsv4 := hg.size
  clear hr hg
  rename Ready v4 p a len cap => hr
  go_wp2_with fail
  replace g0 := old_alloc (o' := .cells #[.int .i64 b0, .int .i64 b1, .int .i64 b2, .int .i64 b3] 32) g0
  replace g1 := old_alloc (o' := .cells #[.int .i64 b0, .int .i64 b1, .int .i64 b2, .int .i64 b3] 32) g1
  replace gv3 := old_alloc (o' := .cells #[.int .i64 b0, .int .i64 b1, .int .i64 b2, .int .i64 b3] 32) gv3
  have gv5 := new_alloc v4 v4.heap.size (.cells #[.int .i64 b0, .int .i64 b1, .int .i64 b2, .int .i64 b3] 32) rfl
  replace hr := hr.alloc (.cells #[.int .i64 b0, .int .i64 b1, .int .i64 b2, .int .i64 b3] 32)
  replace hb0 := balloc hb0 (.cells #[.int .i64 b0, .int .i64 b1, .int .i64 b2, .int .i64 b3] 32)
  have hzv5 : (v4.alloc (.cells #[.int .i64 b0, .int .i64 b1, .int .i64 b2, .int .i64 b3] 32)).heap.size = v4.heap.size + 1 := by simp
  have hqv5 : p < v4.heap.size := by have := hr.lt; omega
  generalize (v4.alloc (.cells #[.int .i64 b0, .int .i64 b1, .int .i64 b2, .int .i64 b3] 32)) = v5 at g0 g1 gv3 gv5 hr hb0 hzv5 ⊢
  generalize hkv5 : v4.heap.size = qv5 at *
  refine (once_r _ p a len cap 2 (by omega) (by omega) hr).mono ?_
  rintro e v6 ⟨b, rfl, hr2, hg⟩
  replace g0 := grown_blk hg g0 (by omega)
  replace g1 := grown_blk hg g1 (by omega)
  replace gv3 := grown_blk hg gv3 (by omega)
  replace gv5 := grown_blk hg gv5 (by omega)
  replace hb0 := bgrown hb0 hg hpw
  have hsv6 := hg.size
  clear hr hg
  rename Ready v6 p a len cap => hr
  cases b
  · skip
    go_wp2_with fail
    replace g0 : v6.drew.heap[w.heap.size]? = some (.cells #[.int .i64 0, .int .i64 0, .int .i64 0, .int .i64 0] 32 (0, 0)) := g0
    replace g1 : v6.drew.heap[w.heap.size + 1]? = some (.cells #[.int .i64 0, .int .i64 0, .int .i64 0, .int .i64 0] 32 (0, 0)) := g1
    replace gv3 : v6.drew.heap[qv3]? = some (.cells #[.int .i64 a0, .int .i64 a1, .int .i64 a2, .int .i64 a3] 32 (0, 0)) := gv3
    replace gv5 : v6.drew.heap[qv5]? = some (.cells #[.int .i64 b0, .int .i64 b1, .int .i64 b2, .int .i64 b3] 32 (0, 0)) := gv5
    replace hr : Ready v6.drew p a len cap := hr
    replace hb0 := bdrew hb0
    obtain ⟨lgv3c0, lgv3c1, lgv3c2, lgv3c3, lgv3f0, lgv3f1, lgv3f2, lgv3f3⟩ := cell4 gv3
    obtain ⟨lgv5c0, lgv5c1, lgv5c2, lgv5c3, lgv5f0, lgv5f1, lgv5f2, lgv5f3⟩ := cell4 gv5
    refine wp_region_held_drew (S := (fun w' => w'.cell? ⟨qv3, 0, none⟩ = some (.int .i64 a0) ∧ w'.cell? ⟨qv3, 1, none⟩ = some (.int .i64 a1) ∧ w'.cell? ⟨qv3, 2, none⟩ = some (.int .i64 a2) ∧ w'.cell? ⟨qv3, 3, none⟩ = some (.int .i64 a3) ∧ w'.cell? ⟨qv5, 0, none⟩ = some (.int .i64 b0) ∧ w'.cell? ⟨qv5, 1, none⟩ = some (.int .i64 b1) ∧ w'.cell? ⟨qv5, 2, none⟩ = some (.int .i64 b2) ∧ w'.cell? ⟨qv5, 3, none⟩ = some (.int .i64 b3))) (by kernel_rfl) ?_ (fun hHeld => ?_)
    · (repeat' apply And.intro) <;> (with_reducible assumption)
    generalize v6.drew = v7 at hHeld hr hb0 g0 g1 gv3 gv5 lgv3c0 lgv3c1 lgv3c2 lgv3c3 lgv5c0 lgv5c1 lgv5c2 lgv5c3 ⊢
    refine wpAnyH_take (i := 0) (v := ?_) rfl (by kernel_rfl) (by kernel_rfl) (by kernel_rfl) (fun _ _ _ h => h) (Or.inl ⟨by rfl, ?_⟩) hHeld ?_
    rotate_left
    · intro w hSw; (try dsimp only at hSw); go_simp; try (with_reducible rfl)
    try simp only [Act.put, List.getElem_toArray, List.getElem_cons_zero, List.getElem_cons_succ, List.setIfInBounds_toArray, List.set_cons_zero, List.set_cons_succ]
    refine wpAnyH_take (i := 1) (v := ?_) rfl (by kernel_rfl) (by kernel_rfl) (by kernel_rfl) (fun _ _ _ h => h) (Or.inl ⟨by rfl, ?_⟩) hHeld ?_
    rotate_left
    · intro w hSw; (try dsimp only at hSw); go_simp; try (with_reducible rfl)
    try simp only [Act.put, List.getElem_toArray, List.getElem_cons_zero, List.getElem_cons_succ, List.setIfInBounds_toArray, List.set_cons_zero, List.set_cons_succ]
    obtain ⟨s2c0, s2c1, s2c2, s2c3, s2f0, s2f1, s2f2, s2f3⟩ := cell4 g0
    have hset := set4r g0 (.int .i64 a0) (.int .i64 a1) (.int .i64 a2) (.int .i64 a3)
    replace g0 := hset.1
    replace g1 := hset.2 _ _ (by omega) g1
    replace gv3 := hset.2 _ _ (by omega) gv3
    replace gv5 := hset.2 _ _ (by omega) gv5
    clear hset
    replace hb0 := bset hb0 (q := w.heap.size) (k := 0) (by omega) (.int .i64 a0)
    replace hb0 := bset hb0 (q := w.heap.size) (k := 1) (by omega) (.int .i64 a1)
    replace hb0 := bset hb0 (q := w.heap.size) (k := 2) (by omega) (.int .i64 a2)
    replace hb0 := bset hb0 (q := w.heap.size) (k := 3) (by omega) (.int .i64 a3)
    obtain ⟨t2gv3c0, t2gv3c1, t2gv3c2, t2gv3c3, _, _, _, _⟩ := cell4 gv3
    obtain ⟨t2gv5c0, t2gv5c1, t2gv5c2, t2gv5c3, _, _, _, _⟩ := cell4 gv5
    refine wpAnyH_ready (rs := [2]) (by kernel_rfl) (by simp) ?_
    refine AllReadyH.cons rfl (fun K hK => ?_) AllReadyH.nil
    try simp only [Act.put, List.getElem_toArray, List.getElem_cons_zero, List.getElem_cons_succ, List.setIfInBounds_toArray, List.set_cons_zero, List.set_cons_succ]
    go_simp
    refine hK.out _ _ ?_ (fun hHeld => ?_)
    · (repeat' apply And.intro) <;> (with_reducible assumption)
    clear hK K
    try simp only [Act.put, List.getElem_toArray, List.getElem_cons_zero, List.getElem_cons_succ, List.setIfInBounds_toArray, List.set_cons_zero, List.set_cons_succ]
    obtain ⟨s3c0, s3c1, s3c2, s3c3, s3f0, s3f1, s3f2, s3f3⟩ := cell4 g1
    have hset := set4r g1 (.int .i64 b0) (.int .i64 b1) (.int .i64 b2) (.int .i64 b3)
    replace g0 := hset.2 _ _ (by omega) g0
    replace g1 := hset.1
    replace gv3 := hset.2 _ _ (by omega) gv3
    replace gv5 := hset.2 _ _ (by omega) gv5
    clear hset
    replace hb0 := bset hb0 (q := w.heap.size + 1) (k := 0) (by omega) (.int .i64 b0)
    replace hb0 := bset hb0 (q := w.heap.size + 1) (k := 1) (by omega) (.int .i64 b1)
    replace hb0 := bset hb0 (q := w.heap.size + 1) (k := 2) (by omega) (.int .i64 b2)
    replace hb0 := bset hb0 (q := w.heap.size + 1) (k := 3) (by omega) (.int .i64 b3)
    obtain ⟨t3gv3c0, t3gv3c1, t3gv3c2, t3gv3c3, _, _, _, _⟩ := cell4 gv3
    obtain ⟨t3gv5c0, t3gv5c1, t3gv5c2, t3gv5c3, _, _, _, _⟩ := cell4 gv5
    refine wpAnyH_ready (rs := [3]) (by kernel_rfl) (by simp) ?_
    refine AllReadyH.cons rfl (fun K hK => ?_) AllReadyH.nil
    try simp only [Act.put, List.getElem_toArray, List.getElem_cons_zero, List.getElem_cons_succ, List.setIfInBounds_toArray, List.set_cons_zero, List.set_cons_succ]
    go_simp
    refine hK.out _ _ ?_ (fun hHeld => ?_)
    · (repeat' apply And.intro) <;> (with_reducible assumption)
    clear hK K
    try simp only [Act.put, List.getElem_toArray, List.getElem_cons_zero, List.getElem_cons_succ, List.setIfInBounds_toArray, List.set_cons_zero, List.set_cons_succ]
    refine wpAnyH_done (by kernel_rfl) ?_ _
    go_wp2_with fail
    generalize ((((((((v7.setCell ⟨w.heap.size, 0, none⟩ (.int .i64 a0)).setCell ⟨w.heap.size, 1, none⟩ (.int .i64 a1)).setCell ⟨w.heap.size, 2, none⟩ (.int .i64 a2)).setCell ⟨w.heap.size, 3, none⟩ (.int .i64 a3)).setCell ⟨w.heap.size + 1, 0, none⟩ (.int .i64 b0)).setCell ⟨w.heap.size + 1, 1, none⟩ (.int .i64 b1)).setCell ⟨w.heap.size + 1, 2, none⟩ (.int .i64 b2)).setCell ⟨w.heap.size + 1, 3, none⟩ (.int .i64 b3)) = wf at hb0 g0 g1 gv3 gv5 ⊢
    obtain ⟨z0c0, z0c1, z0c2, z0c3, _, _, _, _⟩ := cell4 g0
    obtain ⟨z1c0, z1c1, z1c2, z1c3, _, _, _, _⟩ := cell4 g1
    exact bodyPost_ret (v := .tuple #[.agg #[.int .i64 a0, .int .i64 a1, .int .i64 a2, .int .i64 a3], .agg #[.int .i64 b0, .int .i64 b1, .int .i64 b2, .int .i64 b3]]) (by simp [results, Try.results21, go_sem, z0c0, z0c1, z0c2, z0c3, z1c0, z1c1, z1c2, z1c3]) rfl ⟨a0, a1, a2, a3, b0, b1, b2, b3, rfl, hb0⟩
  · skip
    go_wp2_with fail
    replace g0 : v6.drew.heap[w.heap.size]? = some (.cells #[.int .i64 0, .int .i64 0, .int .i64 0, .int .i64 0] 32 (0, 0)) := g0
    replace g1 : v6.drew.heap[w.heap.size + 1]? = some (.cells #[.int .i64 0, .int .i64 0, .int .i64 0, .int .i64 0] 32 (0, 0)) := g1
    replace gv3 : v6.drew.heap[qv3]? = some (.cells #[.int .i64 a0, .int .i64 a1, .int .i64 a2, .int .i64 a3] 32 (0, 0)) := gv3
    replace gv5 : v6.drew.heap[qv5]? = some (.cells #[.int .i64 b0, .int .i64 b1, .int .i64 b2, .int .i64 b3] 32 (0, 0)) := gv5
    replace hr : Ready v6.drew p a len cap := hr
    replace hb0 := bdrew hb0
    obtain ⟨lc0, lc1, lc2, lc3, lf0, lf1, lf2, lf3⟩ := cell4 gv3
    refine wp_region_held_drew (S := (fun w' => w'.cell? ⟨qv3, 0, none⟩ = some (.int .i64 a0) ∧ w'.cell? ⟨qv3, 1, none⟩ = some (.int .i64 a1) ∧ w'.cell? ⟨qv3, 2, none⟩ = some (.int .i64 a2) ∧ w'.cell? ⟨qv3, 3, none⟩ = some (.int .i64 a3))) (by kernel_rfl) ?_ (fun hHeld => ?_)
    · (repeat' apply And.intro) <;> (with_reducible assumption)
    generalize v6.drew = v7 at hHeld hr hb0 g0 g1 gv3 gv5 lc0 lc1 lc2 lc3 ⊢
    refine wpAnyH_take (i := 0) (v := ?_) rfl (by kernel_rfl) (by kernel_rfl) (by kernel_rfl) (fun _ _ _ h => h) (Or.inl ⟨by rfl, ?_⟩) hHeld ?_
    rotate_left
    · intro w hSw; (try dsimp only at hSw); go_simp; try (with_reducible rfl)
    try simp only [Act.put, List.getElem_toArray, List.getElem_cons_zero, List.getElem_cons_succ, List.setIfInBounds_toArray, List.set_cons_zero, List.set_cons_succ]
    refine wpAnyH_take (i := 1) (v := ?_) rfl (by kernel_rfl) (by kernel_rfl) (by kernel_rfl) (fun _ _ _ h => h) (Or.inl ⟨by rfl, ?_⟩) hHeld ?_
    rotate_left
    · intro w hSw; (try dsimp only at hSw); go_simp; try (with_reducible rfl)
    try simp only [Act.put, List.getElem_toArray, List.getElem_cons_zero, List.getElem_cons_succ, List.setIfInBounds_toArray, List.set_cons_zero, List.set_cons_succ]
    refine wpAnyH_take (i := 2) (v := ?_) rfl (by kernel_rfl) (by kernel_rfl) (by kernel_rfl) (fun _ _ _ h => h) (Or.inl ⟨by rfl, ?_⟩) hHeld ?_
    rotate_left
    · intro w hSw; (try dsimp only at hSw); go_simp; try (with_reducible rfl)
    try simp only [Act.put, List.getElem_toArray, List.getElem_cons_zero, List.getElem_cons_succ, List.setIfInBounds_toArray, List.set_cons_zero, List.set_cons_succ]
    refine wpAnyH_take (i := 5) (v := ?_) rfl (by kernel_rfl) (by kernel_rfl) (by kernel_rfl) (fun _ _ _ h => h) (Or.inl ⟨by rfl, ?_⟩) hHeld ?_
    rotate_left
    · intro w hSw; (try dsimp only at hSw); go_simp; try (with_reducible rfl)
    try simp only [Act.put, List.getElem_toArray, List.getElem_cons_zero, List.getElem_cons_succ, List.setIfInBounds_toArray, List.set_cons_zero, List.set_cons_succ]
    refine wpAnyH_take (i := 6) (v := ?_) rfl (by kernel_rfl) (by kernel_rfl) (by kernel_rfl) (fun _ _ _ h => h) (Or.inl ⟨by rfl, ?_⟩) hHeld ?_
    rotate_left
    · intro w hSw; (try dsimp only at hSw); go_simp; try (with_reducible rfl)
    try simp only [Act.put, List.getElem_toArray, List.getElem_cons_zero, List.getElem_cons_succ, List.setIfInBounds_toArray, List.set_cons_zero, List.set_cons_succ]
    refine wpAnyH_take (i := 7) (v := ?_) rfl (by kernel_rfl) (by kernel_rfl) (by kernel_rfl) (fun _ _ _ h => h) (Or.inl ⟨by rfl, ?_⟩) hHeld ?_
    rotate_left
    · intro w hSw; (try dsimp only at hSw); go_simp; try (with_reducible rfl)
    try simp only [Act.put, List.getElem_toArray, List.getElem_cons_zero, List.getElem_cons_succ, List.setIfInBounds_toArray, List.set_cons_zero, List.set_cons_succ]
    refine wpAnyH_take (i := 8) (v := ?_) rfl (by kernel_rfl) (by kernel_rfl) (by kernel_rfl) (fun _ _ _ h => h) (Or.inl ⟨by rfl, ?_⟩) hHeld ?_
    rotate_left
    · intro w hSw; (try dsimp only at hSw); go_simp; try (with_reducible rfl)
    try simp only [Act.put, List.getElem_toArray, List.getElem_cons_zero, List.getElem_cons_succ, List.setIfInBounds_toArray, List.set_cons_zero, List.set_cons_succ]
    refine wpAnyH_take (i := 9) (v := ?_) rfl (by kernel_rfl) (by kernel_rfl) (by kernel_rfl) (fun _ _ _ h => h) (Or.inl ⟨by rfl, ?_⟩) hHeld ?_
    rotate_left
    · intro w hSw; (try dsimp only at hSw); go_simp; try (with_reducible rfl)
    try simp only [Act.put, List.getElem_toArray, List.getElem_cons_zero, List.getElem_cons_succ, List.setIfInBounds_toArray, List.set_cons_zero, List.set_cons_succ]
    refine wpAnyH_take (i := 10) (v := ?_) rfl (by kernel_rfl) (by kernel_rfl) (by kernel_rfl) (fun _ _ _ h => h) (Or.inl ⟨by rfl, ?_⟩) hHeld ?_
    rotate_left
    · intro w hSw; (try dsimp only at hSw); go_simp; try (with_reducible rfl)
    try simp only [Act.put, List.getElem_toArray, List.getElem_cons_zero, List.getElem_cons_succ, List.setIfInBounds_toArray, List.set_cons_zero, List.set_cons_succ]
    refine wpAnyH_take (i := 11) (v := ?_) rfl (by kernel_rfl) (by kernel_rfl) (by kernel_rfl) (fun _ _ _ h => h) (Or.inl ⟨by rfl, ?_⟩) hHeld ?_
    rotate_left
    · intro w hSw; (try dsimp only at hSw); go_simp; try (with_reducible rfl)
    try simp only [Act.put, List.getElem_toArray, List.getElem_cons_zero, List.getElem_cons_succ, List.setIfInBounds_toArray, List.set_cons_zero, List.set_cons_succ]
    refine wpAnyH_ready (rs := [3]) (by kernel_rfl) (by simp) ?_
    refine AllReadyH.cons rfl (fun K hK => ?_) AllReadyH.nil
    try simp only [Act.put, List.getElem_toArray, List.getElem_cons_zero, List.getElem_cons_succ, List.setIfInBounds_toArray, List.set_cons_zero, List.set_cons_succ]
    go_simp
    (first
        | (go_at_call 71; refine (below_r _ p a len cap 2 (by omega) (by omega) hr).mono ?_; rintro e v8 ⟨x, rfl, x0, x1, hr2, hg⟩; replace g0 := grown_blk hg g0 (by omega); replace g1 := grown_blk hg g1 (by omega); replace gv3 := grown_blk hg gv3 (by omega); replace gv5 := grown_blk hg gv5 (by omega); replace hb0 := bgrown hb0 hg hpw; clear hr hg; rename Ready v8 p a len cap => hr; obtain ⟨m10, m11, m12, m13, _, _, _, _⟩ := cell4 gv3))
    go_wp2_with fail
    refine hK.out _ _ ?_ (fun hHeld => ?_)
    · (repeat' apply And.intro) <;> (with_reducible assumption)
    clear hK K
    try simp only [Act.put, List.getElem_toArray, List.getElem_cons_zero, List.getElem_cons_succ, List.setIfInBounds_toArray, List.set_cons_zero, List.set_cons_succ]
    refine wpAnyH_take (i := 4) (v := ?_) rfl (by kernel_rfl) (by kernel_rfl) (by kernel_rfl) (fun _ _ _ h => h) (Or.inl ⟨by rfl, ?_⟩) hHeld ?_
    rotate_left
    · intro w hSw; (try dsimp only at hSw); go_simp; try (with_reducible rfl)
    try simp only [Act.put, List.getElem_toArray, List.getElem_cons_zero, List.getElem_cons_succ, List.setIfInBounds_toArray, List.set_cons_zero, List.set_cons_succ]
    refine wpAnyH_ready (rs := [12]) (by kernel_rfl) (by simp) ?_
    refine AllReadyH.cons rfl (fun K hK => ?_) AllReadyH.nil
    try simp only [Act.put, List.getElem_toArray, List.getElem_cons_zero, List.getElem_cons_succ, List.setIfInBounds_toArray, List.set_cons_zero, List.set_cons_succ]
    go_simp
    (first
        | (go_at_call 71; refine (below_r _ p a len cap 2 (by omega) (by omega) hr).mono ?_; rintro e v9 ⟨y, rfl, y0, y1, hr2, hg⟩; replace g0 := grown_blk hg g0 (by omega); replace g1 := grown_blk hg g1 (by omega); replace gv3 := grown_blk hg gv3 (by omega); replace gv5 := grown_blk hg gv5 (by omega); replace hb0 := bgrown hb0 hg hpw; clear hr hg; rename Ready v9 p a len cap => hr; obtain ⟨m20, m21, m22, m23, _, _, _, _⟩ := cell4 gv3))
    go_wp2_with fail
    refine hK.out _ _ ?_ (fun hHeld => ?_)
    · (repeat' apply And.intro) <;> (with_reducible assumption)
    clear hK K
    try simp only [Act.put, List.getElem_toArray, List.getElem_cons_zero, List.getElem_cons_succ, List.setIfInBounds_toArray, List.set_cons_zero, List.set_cons_succ]
    refine wpAnyH_take (i := 13) (v := ?_) rfl (by kernel_rfl) (by kernel_rfl) (by kernel_rfl) (fun _ _ _ h => h) (Or.inl ⟨by rfl, ?_⟩) hHeld ?_
    rotate_left
    · intro w hSw; (try dsimp only at hSw); go_simp; try (with_reducible rfl)
    try simp only [Act.put, List.getElem_toArray, List.getElem_cons_zero, List.getElem_cons_succ, List.setIfInBounds_toArray, List.set_cons_zero, List.set_cons_succ]
    refine wpAnyH_take (i := 14) (v := ?_) rfl (by kernel_rfl) (by kernel_rfl) (by kernel_rfl) (fun _ _ _ h => h) (Or.inl ⟨by rfl, ?_⟩) hHeld ?_
    rotate_left
    · intro w hSw; (try dsimp only at hSw); go_simp; try (with_reducible rfl)
    try simp only [Act.put, List.getElem_toArray, List.getElem_cons_zero, List.getElem_cons_succ, List.setIfInBounds_toArray, List.set_cons_zero, List.set_cons_succ]
    obtain ⟨s0, s1, s2, s3, t0, t1, t2, t3⟩ := cell4 gv5
    have hset := set4r gv5 (.int .i64 (IntKind.i64.wrap (a0 + x))) (.int .i64 a1) (.int .i64 a2) (.int .i64 (IntKind.i64.wrap (a3 - y)))
    replace g0 := hset.2 _ _ (by omega) g0
    replace g1 := hset.2 _ _ (by omega) g1
    replace gv3 := hset.2 _ _ (by omega) gv3
    replace gv5 := hset.1
    clear hset
    replace hb0 := bset hb0 (q := qv5) (k := 0) (by omega) (.int .i64 (IntKind.i64.wrap (a0 + x)))
    replace hr := hr.set (n := qv5) (k := 0) (by omega) (.int .i64 (IntKind.i64.wrap (a0 + x)))
    replace hb0 := bset hb0 (q := qv5) (k := 1) (by omega) (.int .i64 a1)
    replace hr := hr.set (n := qv5) (k := 1) (by omega) (.int .i64 a1)
    replace hb0 := bset hb0 (q := qv5) (k := 2) (by omega) (.int .i64 a2)
    replace hr := hr.set (n := qv5) (k := 2) (by omega) (.int .i64 a2)
    replace hb0 := bset hb0 (q := qv5) (k := 3) (by omega) (.int .i64 (IntKind.i64.wrap (a3 - y)))
    replace hr := hr.set (n := qv5) (k := 3) (by omega) (.int .i64 (IntKind.i64.wrap (a3 - y)))
    obtain ⟨e0, e1, e2, e3, _, _, _, _⟩ := cell4 gv3
    refine wpAnyH_ready (rs := [15]) (by kernel_rfl) (by simp) ?_
    refine AllReadyH.cons rfl (fun K hK => ?_) AllReadyH.nil
    try simp only [Act.put, List.getElem_toArray, List.getElem_cons_zero, List.getElem_cons_succ, List.setIfInBounds_toArray, List.set_cons_zero, List.set_cons_succ]
    go_simp
    refine hK.out _ _ ?_ (fun hHeld => ?_)
    · (repeat' apply And.intro) <;> (with_reducible assumption)
    clear hK K
    try simp only [Act.put, List.getElem_toArray, List.getElem_cons_zero, List.getElem_cons_succ, List.setIfInBounds_toArray, List.set_cons_zero, List.set_cons_succ]
    refine wpAnyH_done (by kernel_rfl) ?_ _
    generalize IntKind.i64.wrap (a0 + x) = n0 at *
    generalize IntKind.i64.wrap (a3 - y) = n3 at *
    go_wp2_with fail
    generalize ((((v9.setCell ⟨qv5, 0, none⟩ (.int .i64 n0)).setCell ⟨qv5, 1, none⟩ (.int .i64 a1)).setCell ⟨qv5, 2, none⟩ (.int .i64 a2)).setCell ⟨qv5, 3, none⟩ (.int .i64 n3)) = v10 at hb0 hr g0 g1 gv3 gv5 ⊢
    replace g0 : v10.drew.heap[w.heap.size]? = some (.cells #[.int .i64 0, .int .i64 0, .int .i64 0, .int .i64 0] 32 (0, 0)) := g0
    replace g1 : v10.drew.heap[w.heap.size + 1]? = some (.cells #[.int .i64 0, .int .i64 0, .int .i64 0, .int .i64 0] 32 (0, 0)) := g1
    replace gv3 : v10.drew.heap[qv3]? = some (.cells #[.int .i64 a0, .int .i64 a1, .int .i64 a2, .int .i64 a3] 32 (0, 0)) := gv3
    replace gv5 : v10.drew.heap[qv5]? = some (.cells #[.int .i64 n0, .int .i64 a1, .int .i64 a2, .int .i64 n3] 32 (0, 0)) := gv5
    replace hr : Ready v10.drew p a len cap := hr
    replace hb0 := bdrew hb0
    obtain ⟨lgv3c0, lgv3c1, lgv3c2, lgv3c3, lgv3f0, lgv3f1, lgv3f2, lgv3f3⟩ := cell4 gv3
    obtain ⟨lgv5c0, lgv5c1, lgv5c2, lgv5c3, lgv5f0, lgv5f1, lgv5f2, lgv5f3⟩ := cell4 gv5
    refine wp_region_held_drew (S := (fun w' => w'.cell? ⟨qv3, 0, none⟩ = some (.int .i64 a0) ∧ w'.cell? ⟨qv3, 1, none⟩ = some (.int .i64 a1) ∧ w'.cell? ⟨qv3, 2, none⟩ = some (.int .i64 a2) ∧ w'.cell? ⟨qv3, 3, none⟩ = some (.int .i64 a3) ∧ w'.cell? ⟨qv5, 0, none⟩ = some (.int .i64 n0) ∧ w'.cell? ⟨qv5, 1, none⟩ = some (.int .i64 a1) ∧ w'.cell? ⟨qv5, 2, none⟩ = some (.int .i64 a2) ∧ w'.cell? ⟨qv5, 3, none⟩ = some (.int .i64 n3))) (by kernel_rfl) ?_ (fun hHeld => ?_)
    · (repeat' apply And.intro) <;> (with_reducible assumption)
    generalize v10.drew = v11 at hHeld hr hb0 g0 g1 gv3 gv5 lgv3c0 lgv3c1 lgv3c2 lgv3c3 lgv5c0 lgv5c1 lgv5c2 lgv5c3 ⊢
    refine wpAnyH_take (i := 0) (v := ?_) rfl (by kernel_rfl) (by kernel_rfl) (by kernel_rfl) (fun _ _ _ h => h) (Or.inl ⟨by rfl, ?_⟩) hHeld ?_
    rotate_left
    · intro w hSw; (try dsimp only at hSw); go_simp; try (with_reducible rfl)
    try simp only [Act.put, List.getElem_toArray, List.getElem_cons_zero, List.getElem_cons_succ, List.setIfInBounds_toArray, List.set_cons_zero, List.set_cons_succ]
    refine wpAnyH_take (i := 1) (v := ?_) rfl (by kernel_rfl) (by kernel_rfl) (by kernel_rfl) (fun _ _ _ h => h) (Or.inl ⟨by rfl, ?_⟩) hHeld ?_
    rotate_left
    · intro w hSw; (try dsimp only at hSw); go_simp; try (with_reducible rfl)
    try simp only [Act.put, List.getElem_toArray, List.getElem_cons_zero, List.getElem_cons_succ, List.setIfInBounds_toArray, List.set_cons_zero, List.set_cons_succ]
    obtain ⟨s2c0, s2c1, s2c2, s2c3, s2f0, s2f1, s2f2, s2f3⟩ := cell4 g0
    have hset := set4r g0 (.int .i64 a0) (.int .i64 a1) (.int .i64 a2) (.int .i64 a3)
    replace g0 := hset.1
    replace g1 := hset.2 _ _ (by omega) g1
    replace gv3 := hset.2 _ _ (by omega) gv3
    replace gv5 := hset.2 _ _ (by omega) gv5
    clear hset
    replace hb0 := bset hb0 (q := w.heap.size) (k := 0) (by omega) (.int .i64 a0)
    replace hb0 := bset hb0 (q := w.heap.size) (k := 1) (by omega) (.int .i64 a1)
    replace hb0 := bset hb0 (q := w.heap.size) (k := 2) (by omega) (.int .i64 a2)
    replace hb0 := bset hb0 (q := w.heap.size) (k := 3) (by omega) (.int .i64 a3)
    obtain ⟨t2gv3c0, t2gv3c1, t2gv3c2, t2gv3c3, _, _, _, _⟩ := cell4 gv3
    obtain ⟨t2gv5c0, t2gv5c1, t2gv5c2, t2gv5c3, _, _, _, _⟩ := cell4 gv5
    refine wpAnyH_ready (rs := [2]) (by kernel_rfl) (by simp) ?_
    refine AllReadyH.cons rfl (fun K hK => ?_) AllReadyH.nil
    try simp only [Act.put, List.getElem_toArray, List.getElem_cons_zero, List.getElem_cons_succ, List.setIfInBounds_toArray, List.set_cons_zero, List.set_cons_succ]
    go_simp
    refine hK.out _ _ ?_ (fun hHeld => ?_)
    · (repeat' apply And.intro) <;> (with_reducible assumption)
    clear hK K
    try simp only [Act.put, List.getElem_toArray, List.getElem_cons_zero, List.getElem_cons_succ, List.setIfInBounds_toArray, List.set_cons_zero, List.set_cons_succ]
    obtain ⟨s3c0, s3c1, s3c2, s3c3, s3f0, s3f1, s3f2, s3f3⟩ := cell4 g1
    have hset := set4r g1 (.int .i64 n0) (.int .i64 a1) (.int .i64 a2) (.int .i64 n3)
    replace g0 := hset.2 _ _ (by omega) g0
    replace g1 := hset.1
    replace gv3 := hset.2 _ _ (by omega) gv3
    replace gv5 := hset.2 _ _ (by omega) gv5
    clear hset
    replace hb0 := bset hb0 (q := w.heap.size + 1) (k := 0) (by omega) (.int .i64 n0)
    replace hb0 := bset hb0 (q := w.heap.size + 1) (k := 1) (by omega) (.int .i64 a1)
    replace hb0 := bset hb0 (q := w.heap.size + 1) (k := 2) (by omega) (.int .i64 a2)
    replace hb0 := bset hb0 (q := w.heap.size + 1) (k := 3) (by omega) (.int .i64 n3)
    obtain ⟨t3gv3c0, t3gv3c1, t3gv3c2, t3gv3c3, _, _, _, _⟩ := cell4 gv3
    obtain ⟨t3gv5c0, t3gv5c1, t3gv5c2, t3gv5c3, _, _, _, _⟩ := cell4 gv5
    refine wpAnyH_ready (rs := [3]) (by kernel_rfl) (by simp) ?_
    refine AllReadyH.cons rfl (fun K hK => ?_) AllReadyH.nil
    try simp only [Act.put, List.getElem_toArray, List.getElem_cons_zero, List.getElem_cons_succ, List.setIfInBounds_toArray, List.set_cons_zero, List.set_cons_succ]
    go_simp
    refine hK.out _ _ ?_ (fun hHeld => ?_)
    · (repeat' apply And.intro) <;> (with_reducible assumption)
    clear hK K
    try simp only [Act.put, List.getElem_toArray, List.getElem_cons_zero, List.getElem_cons_succ, List.setIfInBounds_toArray, List.set_cons_zero, List.set_cons_succ]
    refine wpAnyH_done (by kernel_rfl) ?_ _
    go_wp2_with fail
    generalize ((((((((v11.setCell ⟨w.heap.size, 0, none⟩ (.int .i64 a0)).setCell ⟨w.heap.size, 1, none⟩ (.int .i64 a1)).setCell ⟨w.heap.size, 2, none⟩ (.int .i64 a2)).setCell ⟨w.heap.size, 3, none⟩ (.int .i64 a3)).setCell ⟨w.heap.size + 1, 0, none⟩ (.int .i64 n0)).setCell ⟨w.heap.size + 1, 1, none⟩ (.int .i64 a1)).setCell ⟨w.heap.size + 1, 2, none⟩ (.int .i64 a2)).setCell ⟨w.heap.size + 1, 3, none⟩ (.int .i64 n3)) = wf at hb0 g0 g1 gv3 gv5 ⊢
    obtain ⟨z0c0, z0c1, z0c2, z0c3, _, _, _, _⟩ := cell4 g0
    obtain ⟨z1c0, z1c1, z1c2, z1c3, _, _, _, _⟩ := cell4 g1
    exact bodyPost_ret (v := .tuple #[.agg #[.int .i64 a0, .int .i64 a1, .int .i64 a2, .int .i64 a3], .agg #[.int .i64 n0, .int .i64 a1, .int .i64 a2, .int .i64 n3]]) (by simp [results, Try.results21, go_sem, z0c0, z0c1, z0c2, z0c3, z1c0, z1c1, z1c2, z1c3]) rfl ⟨a0, a1, a2, a3, n0, a1, a2, n3, rfl, hb0⟩
end Go.Proofs.Ytkncdncpgjpemaa
