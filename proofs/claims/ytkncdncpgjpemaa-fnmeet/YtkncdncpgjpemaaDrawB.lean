/- Boxes that are drawn. -/
import Derived.Test.YtkncdncpgjpemaaDrawT
import Derived.Test.YtkncdncpgjpemaaGeo10
namespace Go.Proofs.Ytkncdncpgjpemaa
open Go.RowKit
set_option linter.unusedVariables false
set_option linter.unusedSimpArgs false
def Cd2 (z : Int) : Prop := -40010 ≤ z ∧ z ≤ 40010
set_option maxRecDepth 100000 in
set_option maxHeartbeats 1000000 in
theorem box_r (w : World) (p : Nat) (a : Option Addr) (len cap : Nat) (h : Ready w p a len cap) : Calls Try.prog 81 #[.pointer (some ⟨p, 0, none⟩)] w fun e w' => ∃ x y z u : Int, e = .returned (.agg #[.int .i64 x, .int .i64 y, .int .i64 z, .int .i64 u]) ∧ Cd2 x ∧ Cd2 y ∧ Cd2 z ∧ Cd2 u ∧ Ready w' p a len cap ∧ w.grownBy w' (some p) := by
  have hlt := h.lt
  go_enter Try.func81, Try.ntmps81
  go_wp2_with fail
  refine (coord_r _ p a len cap (h.alloc _)).mono ?_
  rintro e w1 ⟨x, rfl, ⟨x1, x2⟩, hr, hg⟩
  have hb := grown_blk hg (heap_alloc_new w _) (by omega)
  replace hg := grown_trans (grown_alloc _ _ _) hg
  go_wp2_with fail
  refine (coord_r _ p a len cap hr).mono ?_
  rintro e w2 ⟨y, rfl, ⟨y1, y2⟩, hr2, hg2⟩
  replace hb := grown_blk hg2 hb (by omega)
  replace hg := grown_trans hg hg2
  clear hg2 hr
  go_wp2_with fail
  refine (below_r _ p a len cap 8 (by omega) (by omega) hr2).mono ?_
  rintro e w3 ⟨z, rfl, z0, z1, hr, hg2⟩
  replace hb := grown_blk hg2 hb (by omega)
  replace hg := grown_trans hg hg2
  clear hg2 hr2
  go_wp2_with fail
  refine (below_r _ p a len cap 8 (by omega) (by omega) hr).mono ?_
  rintro e w4 ⟨u, rfl, u0, u1, hr2, hg2⟩
  replace hb := grown_blk hg2 hb (by omega)
  replace hg := grown_trans hg hg2
  have hsz := hg.size
  have hlt4 := hr2.lt
  clear hg2 hr
  have hqz : w.heap.size < w4.heap.size := lt_of_block hb
  go_wp2_with fail
  refine (once_r _ p a len cap 20 (by omega) (by omega) (hr2.alloc _)).mono ?_
  rintro e w5 ⟨b, rfl, hr, hg2⟩
  have hq := grown_blk hg2 (heap_alloc_new w4 _) (by omega)
  replace hb := grown_blk hg2 (old_alloc hb) (by omega)
  replace hg := grown_trans (grown_trans hg (grown_alloc _ _ _)) hg2
  clear hg2 hr2
  generalize w4.heap.size = q at *
  obtain ⟨k0, k1, k2, k3, f0, f1, f2, f3⟩ := cell4 hb
  obtain ⟨l0, l1, l2, l3, m0, m1, m2, m3⟩ := cell4 hq
  have Hb := hid hb
  have Hq := hid hq
  clear hb hq
  cases b
  · go_wp2_with fail
    have gN := Hb.out
    have rN := hr
    have wN := hg
    have gF := (set4r gN (.int .i64 x) (.int .i64 y) (.int .i64 (x + z)) (.int .i64 (y + u))).1
    have rF := (Ready.set (Ready.set (Ready.set (Ready.set rN (n := w.heap.size) (k := 0) hlt (.int .i64 x)) (n := w.heap.size) (k := 1) hlt (.int .i64 y)) (n := w.heap.size) (k := 2) hlt (.int .i64 (x + z))) (n := w.heap.size) (k := 3) hlt (.int .i64 (y + u)))
    have wF := (grown_setn (grown_setn (grown_setn (grown_setn wN (n := w.heap.size) (k := 0) (Nat.le_refl _) (.int .i64 x)) (n := w.heap.size) (k := 1) (Nat.le_refl _) (.int .i64 y)) (n := w.heap.size) (k := 2) (Nat.le_refl _) (.int .i64 (x + z))) (n := w.heap.size) (k := 3) (Nat.le_refl _) (.int .i64 (y + u)))
    generalize ((((w5.setCell ⟨w.heap.size, 0, none⟩ (.int .i64 x)).setCell ⟨w.heap.size, 1, none⟩ (.int .i64 y)).setCell ⟨w.heap.size, 2, none⟩ (.int .i64 (x + z))).setCell ⟨w.heap.size, 3, none⟩ (.int .i64 (y + u))) = wf at gF rF wF ⊢
    obtain ⟨z0', z1', z2', z3', _, _, _, _⟩ := cell4 gF
    exact bodyPost_ret (v := .agg #[.int .i64 x, .int .i64 y, .int .i64 (x + z), .int .i64 (y + u)]) (by simp [results, Try.results81, go_sem, z0', z1', z2', z3']) rfl ⟨x, y, (x + z), (y + u), rfl, ⟨by omega, by omega⟩, ⟨by omega, by omega⟩, ⟨by omega, by omega⟩, ⟨by omega, by omega⟩, rF, wF⟩
  · go_wp2_with fail
    have gN := set_far (q := q) (k := 2) (u := .int .i64 (x - 1)) Hb.out (by omega)
    have rN := hr.set (n := q) (k := 2) (by omega) (.int .i64 (x - 1))
    have wN := grown_setn hg (n := q) (k := 2) (by omega) (.int .i64 (x - 1))
    have gF := (set4r gN (.int .i64 x) (.int .i64 y) (.int .i64 (x - 1)) (.int .i64 (y + u))).1
    have rF := (Ready.set (Ready.set (Ready.set (Ready.set rN (n := w.heap.size) (k := 0) hlt (.int .i64 x)) (n := w.heap.size) (k := 1) hlt (.int .i64 y)) (n := w.heap.size) (k := 2) hlt (.int .i64 (x - 1))) (n := w.heap.size) (k := 3) hlt (.int .i64 (y + u)))
    have wF := (grown_setn (grown_setn (grown_setn (grown_setn wN (n := w.heap.size) (k := 0) (Nat.le_refl _) (.int .i64 x)) (n := w.heap.size) (k := 1) (Nat.le_refl _) (.int .i64 y)) (n := w.heap.size) (k := 2) (Nat.le_refl _) (.int .i64 (x - 1))) (n := w.heap.size) (k := 3) (Nat.le_refl _) (.int .i64 (y + u)))
    generalize (((((w5.setCell ⟨q, 2, none⟩ (.int .i64 (x - 1))).setCell ⟨w.heap.size, 0, none⟩ (.int .i64 x)).setCell ⟨w.heap.size, 1, none⟩ (.int .i64 y)).setCell ⟨w.heap.size, 2, none⟩ (.int .i64 (x - 1))).setCell ⟨w.heap.size, 3, none⟩ (.int .i64 (y + u))) = wf at gF rF wF ⊢
    obtain ⟨z0', z1', z2', z3', _, _, _, _⟩ := cell4 gF
    exact bodyPost_ret (v := .agg #[.int .i64 x, .int .i64 y, .int .i64 (x - 1), .int .i64 (y + u)]) (by simp [results, Try.results81, go_sem, z0', z1', z2', z3']) rfl ⟨x, y, (x - 1), (y + u), rfl, ⟨by omega, by omega⟩, ⟨by omega, by omega⟩, ⟨by omega, by omega⟩, ⟨by omega, by omega⟩, rF, wF⟩
end Go.Proofs.Ytkncdncpgjpemaa
