/- Chapter 5's small functions: TileKey, TileOf of both sides; what the laws hold of tiles. -/
import Derived.Test.YtdhdfgobefapiaaDoorTile2
import Derived.Deep.QuietTactic
import Derived.BigQuiet
namespace Go.Proofs.YtdhdfgobefapiaaDoor
open Go.RowKit
set_option linter.unusedSimpArgs false
set_option linter.unusedVariables false
def tkey (l c r : Int) : Int := if tok l c r then 16 * ((Tm.S 16 c.toNat + 2 * Tm.S 16 r.toNat : Nat) : Int) + l else -1
theorem bdrewN {w a : World} (h : Below w.heap.size w a) {n : Nat} : Below w.heap.size w (a.drewN n) := ⟨h.1, h.2, h.3, h.4, h.5⟩
theorem spec_weave_m (x y m : Nat) (hx : x ≤ 65535) (hy : y ≤ 65535) (hm : Hid (m = Tm.S 16 x + 2 * Tm.S 16 y)) (w : World) : Calls Tryd.prog 36 #[.int .i64 x, .int .i64 y] w fun e w' => e = .returned (.int .i64 m) ∧ w' = w := by
  rw [hm.out]; exact spec_weave x y hx hy w
theorem spec_tilekey (l c r : Int) (w : World) : Calls Tryd.prog 21 #[.agg #[.int .i64 l, .int .i64 c, .int .i64 r]] w fun e w' => e = .returned (.int .i64 (tkey l c r)) ∧ Below w.heap.size w w' := by
  cases h : tok l c r
  · rw [show tkey l c r = -1 by simp [tkey, h]]
    go_enter Tryd.func21, Tryd.ntmps21
    go_wp2_with fail
    refine (spec_tileok l c r _).mono ?_
    rw [h]
    rintro e w' ⟨rfl, rfl⟩
    go_wp2_with fail
    go_ret
    exact ⟨rfl, by (repeat (first | with_reducible exact Below.refl _ _ | with_reducible assumption | (with_reducible refine btrans ?_ (by with_reducible assumption)) | with_reducible refine bdrew ?_ | with_reducible refine balloc ?_ _ | with_reducible refine bset ?_ (by simp; omega) _))⟩
  · have hok := h
    obtain ⟨k, rfl, hk, c0, c1, r0, r1⟩ := tok_parts h
    obtain ⟨_, _, _, q1, q2, _, _⟩ := sid_bounds k hk
    obtain ⟨x, rfl⟩ := Int.eq_ofNat_of_zero_le c0
    obtain ⟨y, rfl⟩ := Int.eq_ofNat_of_zero_le r0
    have hx : x ≤ 65535 := by omega
    have hy : y ≤ 65535 := by omega
    have hv : tkey k x y = 16 * ((Tm.S 16 x + 2 * Tm.S 16 y : Nat) : Int) + k := by simp [tkey, hok]
    have hS1 := Tm.S_lt 16 x
    have hS2 := Tm.S_lt 16 y
    obtain ⟨m, Hm⟩ : ∃ m, Hid (m = Tm.S 16 x + 2 * Tm.S 16 y) := ⟨_, hid rfl⟩
    have hm : (m : Int) ≤ 4294967296 := by rw [Hm.out]; omega
    rw [hv, ← Hm.out]
    clear hS1 hS2 hv c0 c1 r0 r1
    go_enter Tryd.func21, Tryd.ntmps21
    go_wp2_with fail
    refine (spec_tileok k x y _).mono ?_
    rw [hok]
    rintro e w' ⟨rfl, rfl⟩
    go_wp2_with fail
    go_quiet ((go_at_call 36; exact Calls.quiet_of_same (spec_weave_m x y m hx hy Hm _)))
    go_wp2_with fail
    go_ret
    exact ⟨rfl, by (repeat (first | with_reducible exact Below.refl _ _ | with_reducible assumption | (with_reducible refine btrans ?_ (by with_reducible assumption)) | with_reducible refine bdrew ?_ | with_reducible refine bdrewN ?_ | with_reducible refine balloc ?_ _ | with_reducible refine bset ?_ (by simp; omega) _))⟩
end Go.Proofs.YtdhdfgobefapiaaDoor
