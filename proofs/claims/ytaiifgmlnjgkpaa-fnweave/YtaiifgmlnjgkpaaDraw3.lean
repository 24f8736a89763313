/- What is drawn for the weaving: two numbers, and one. -/
import Derived.Test.YtaiifgmlnjgkpaaDraw2
namespace Go.Proofs.Ytaiifgmlnjgkpaa
open Go.RowKit
set_option maxRecDepth 100000 in
set_option maxHeartbeats 1000000 in
theorem draw_weave (w : World) (a : Option Addr) (len cap : Nat) (hc : CodeAt w a len w.heap.size) : Calls Try.prog 18 #[.slice a len cap] w fun e w' => ∃ x y : Int, e = .returned (.tuple #[.int .i64 x, .int .i64 y]) ∧ I64 x ∧ I64 y ∧ Below w.heap.size w w' := by
  go_enter Try.func18, Try.ntmps18
  go_wp2_with fail
  refine (new_c _ a len cap hc).mono ?_
  rintro e w1 ⟨h, rfl, rfl⟩
  go_wp2_with fail
  refine (below_r _ _ a len cap 65536 (by omega) (by omega) (ready_new w a len cap h hc)).mono ?_
  rintro e w2 ⟨x, rfl, x0, x1, hr2, hg⟩
  go_wp2_with fail
  refine (below_r _ _ a len cap 65536 (by omega) (by omega) hr2).mono ?_
  rintro e w3 ⟨y, rfl, y0, y1, hr3, hg3⟩
  replace hg := grown_trans hg hg3
  clear hg3 hr2
  go_wp2_with fail
  refine (once_r _ _ a len cap 8 (by omega) (by omega) hr3).mono ?_
  rintro e w4 ⟨b, rfl, hr4, hg4⟩
  replace hg := grown_trans hg hg4
  clear hg4 hr3
  cases b
  · go_wp2_with fail
    go_ret2
    exact ⟨x, y, rfl, by unfold I64; omega, by unfold I64; omega, below_new hg⟩
  · go_wp2_with fail
    refine (pick_r _ _ a len cap _ 4 (by omega) (by omega) ?_ (ints_new w4 [-1, 65535, 65536, 0] 3 (by unfold I64; decide)) (hr4.alloc _)).mono ?_
    · have := hr4.lt; omega
    · rintro e w5 ⟨z, rfl, hz, hr5, hg5⟩
      replace hg := grown_trans (grown_trans hg (grown_alloc _ _ _)) hg5
      clear hg5 hr4
      go_wp2_with fail
      go_ret2
      exact ⟨x, z, rfl, by unfold I64; omega, hz, below_new hg⟩
set_option maxRecDepth 100000 in
set_option maxHeartbeats 1000000 in
theorem draw_part (w : World) (a : Option Addr) (len cap : Nat) (hc : CodeAt w a len w.heap.size) : Calls Try.prog 20 #[.slice a len cap] w fun e w' => ∃ z : Int, e = .returned (.int .i64 z) ∧ I64 z ∧ Below w.heap.size w w' := by
  go_enter Try.func20, Try.ntmps20
  go_wp2_with fail
  refine (new_c _ a len cap hc).mono ?_
  rintro e w1 ⟨h, rfl, rfl⟩
  go_wp2_with fail
  refine (word_r _ _ a len cap (ready_new w a len cap h hc)).mono ?_
  rintro e w2 ⟨x, rfl, ⟨x0, x1⟩, hr2, hg⟩
  go_wp2_with fail
  refine (num_r _ _ a len cap hr2).mono ?_
  rintro e w3 ⟨y, rfl, hy, hr3, hg3⟩
  replace hg := grown_trans hg hg3
  clear hg3 hr2
  go_wp2_with fail
  refine (word_r _ _ a len cap hr3).mono ?_
  rintro e w4 ⟨z, rfl, ⟨z0, z1⟩, hr4, hg4⟩
  replace hg := grown_trans hg hg4
  clear hg4 hr3
  have hall : ∀ u ∈ [x, y, z], I64 u := by
    intro u hu
    rcases List.mem_cons.1 hu with rfl | hu
    · unfold I64; omega
    rcases List.mem_cons.1 hu with rfl | hu
    · exact hy
    rcases List.mem_cons.1 hu with rfl | hu
    · unfold I64; omega
    · cases hu
  have Hall := hide hall
  clear hall
  go_wp2_with fail
  refine (pick_r _ _ a len cap _ 3 (by omega) (by omega) ?_ (ints_new w4 [x, y, z] 3 Hall.out) (hr4.alloc _)).mono ?_
  · have := hr4.lt; omega
  · rintro e w5 ⟨u, rfl, hu, hr5, hg5⟩
    replace hg := grown_trans (grown_trans hg (grown_alloc _ _ _)) hg5
    clear hg5 hr4
    go_wp2_with fail
    go_ret
    exact ⟨u, rfl, hu, below_new hg⟩
end Go.Proofs.Ytaiifgmlnjgkpaa
