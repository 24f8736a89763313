/- Chapter 5's small functions: TileBox, TileUp, TileKey, TileOf of both sides. -/
import Derived.Test.YtmnnbifekbacnaaDoorTile
import Derived.Test.YtmnnbifekbacnaaDoorGeo4
import Derived.BigQuiet
namespace Go.Proofs.YtmnnbifekbacnaaDoor
open Go.RowKit
set_option linter.unusedSimpArgs false
set_option linter.unusedVariables false
theorem tok_parts {l c r : Int} (h : tok l c r = true) : ∃ k : Nat, l = k ∧ k ≤ 8 ∧ 0 ≤ c ∧ c < cols k ∧ 0 ≤ r ∧ r < cols k := by
  simp only [tok, plok, Bool.and_eq_true, decide_eq_true_eq] at h
  obtain ⟨⟨h1, h2⟩, h3⟩ := h
  obtain ⟨k, rfl, hk⟩ := lok_nat h1
  exact ⟨k, rfl, hk, h2.1, h2.2, h3.1, h3.2⟩
theorem mul_in {k : Nat} (hk : k ≤ 8) {c : Int} (h0 : 0 ≤ c) (h1 : c < cols k) : 0 ≤ c * sid k ∧ c * sid k ≤ 65280 := by
  obtain ⟨s1, s2, s3, c1, c2, _, _⟩ := sid_bounds k hk
  refine ⟨Int.mul_nonneg h0 (by omega), ?_⟩
  have h2 : c * sid k ≤ (cols k - 1) * sid k := Int.mul_le_mul_of_nonneg_right (by omega) (by omega)
  rw [Int.sub_mul, Int.mul_comm (cols k) _, s3] at h2
  omega
/-- The four bounds of a tile; noughts of none. -/
def tbx (l c r : Int) : Int := if tok l c r then -32768 + c * sid l else 0
def tby (l c r : Int) : Int := if tok l c r then -32768 + r * sid l else 0
def tbu (l c r : Int) : Int := if tok l c r then -32768 + c * sid l + sid l - 1 else 0
def tbv (l c r : Int) : Int := if tok l c r then -32768 + r * sid l + sid l - 1 else 0
def upok (l c r : Int) : Bool := tok l c r && !decide (l = 0)
def upl (l c r : Int) : Int := if upok l c r then l - 1 else 0
def upc (l c r : Int) : Int := if upok l c r then c / 2 else 0
def upr (l c r : Int) : Int := if upok l c r then r / 2 else 0
theorem cellT {w : World} {p : Nat} {a b c : Value} {t : TypeId} (h : w.heap[p]? = some (.cells #[a, b, c] t (0, 0))) : w.cell? ⟨p, 0, none⟩ = some a ∧ w.cell? ⟨p, 1, none⟩ = some b ∧ w.cell? ⟨p, 2, none⟩ = some c ∧ w.frozen? ⟨p, 0, none⟩ = false ∧ w.frozen? ⟨p, 1, none⟩ = false ∧ w.frozen? ⟨p, 2, none⟩ = false := by
  refine ⟨?_, ?_, ?_, ?_, ?_, ?_⟩ <;> simp [World.cell?, World.frozen?, h]
theorem set3 {w1 : World} {B : Nat} {o0 o1 o2 : Value} {t : TypeId} (gz : w1.heap[B]? = some (.cells #[o0, o1, o2] t (0, 0))) (a b c : Value) :
    (((w1.setCell ⟨B, 0, none⟩ a).setCell ⟨B, 1, none⟩ b).setCell ⟨B, 2, none⟩ c).heap[B]? = some (.cells #[a, b, c] t (0, 0)) :=
  set_at (set_at (set_at gz))
theorem impl_tilebox (l c r : Int) (w : World) (ht : Tab w) : Calls Tryd.prog 49 #[.agg #[.int .i64 l, .int .i64 c, .int .i64 r]] w fun e w' => e = .returned (.tuple #[.int .i64 (tbx l c r), .int .i64 (tby l c r), .int .i64 (tbu l c r), .int .i64 (tbv l c r)]) ∧ Below w.heap.size w w' := by
  have Ht := hid ht
  cases h : tok l c r
  · rw [show tbx l c r = 0 by simp [tbx, h], show tby l c r = 0 by simp [tby, h], show tbu l c r = 0 by simp [tbu, h], show tbv l c r = 0 by simp [tbv, h]]
    go_enter Tryd.func49, Tryd.ntmps49
    go_wp2_with fail
    refine (impl_tileok l c r _ (Ht.out.alloc _)).mono ?_
    rw [h]
    rintro e w' ⟨rfl, rfl⟩
    go_wp2_with fail
    exact bodyPost_ret (v := .tuple #[.int .i64 0, .int .i64 0, .int .i64 0, .int .i64 0]) (by simp [results, Tryd.results49, go_sem]) rfl ⟨rfl, by (repeat (first | with_reducible exact Below.refl _ _ | with_reducible assumption | (with_reducible refine btrans ?_ (by with_reducible assumption)) | with_reducible refine bdrew ?_ | with_reducible refine balloc ?_ _ | with_reducible refine bset ?_ (by simp; omega) _))⟩
  · rw [show tbx l c r = -32768 + c * sid l by simp [tbx, h], show tby l c r = -32768 + r * sid l by simp [tby, h], show tbu l c r = -32768 + c * sid l + sid l - 1 by simp [tbu, h], show tbv l c r = -32768 + r * sid l + sid l - 1 by simp [tbv, h]]
    have hok := h
    obtain ⟨k, rfl, hk, c0, c1, r0, r1⟩ := tok_parts h
    obtain ⟨m1, m2⟩ := mul_in hk c0 c1
    obtain ⟨n1, n2⟩ := mul_in hk r0 r1
    obtain ⟨s1, s2, _, q1, q2, _, s3⟩ := sid_bounds k hk
    have hc := fun w' (hb : Below w.heap.size w w') => (Ht.out.below hb) k hk
    have Hc := hid hc
    clear hc
    generalize hs : sid (k : Int) = s at *
    generalize hmc : c * s = mc at *
    generalize hmr : r * s = mr at *
    have hc' : (65536 : Int) / cols k = s := s3
    go_enter Tryd.func49, Tryd.ntmps49
    go_wp2_with fail
    refine (impl_tileok k c r _ (Ht.out.alloc _)).mono ?_
    rw [hok]
    rintro e w' ⟨rfl, rfl⟩
    have hcell := Hc.out ((w.alloc (.cells #[.int .i64 k, .int .i64 c, .int .i64 r] 29)).alloc (.cells #[.int .i64 k, .int .i64 c, .int .i64 r] 29)) (by (repeat (first | with_reducible exact Below.refl _ _ | with_reducible assumption | (with_reducible refine btrans ?_ (by with_reducible assumption)) | with_reducible refine bdrew ?_ | with_reducible refine balloc ?_ _ | with_reducible refine bset ?_ (by simp; omega) _)))
    go_wp2_with fail
    go_region
    go_wp2_with fail
    exact bodyPost_ret (v := .tuple #[.int .i64 (-32768 + mc), .int .i64 (-32768 + mr), .int .i64 (-32768 + mc + s - 1), .int .i64 (-32768 + mr + s - 1)]) (by simp [results, Tryd.results49, go_sem]) rfl ⟨rfl, by (repeat (first | with_reducible exact Below.refl _ _ | with_reducible assumption | (with_reducible refine btrans ?_ (by with_reducible assumption)) | with_reducible refine bdrew ?_ | with_reducible refine balloc ?_ _ | with_reducible refine bset ?_ (by simp; omega) _))⟩
theorem spec_tilebox (l c r : Int) (w : World) : Calls Tryd.prog 27 #[.agg #[.int .i64 l, .int .i64 c, .int .i64 r]] w fun e w' => e = .returned (.tuple #[.int .i64 (tbx l c r), .int .i64 (tby l c r), .int .i64 (tbu l c r), .int .i64 (tbv l c r)]) ∧ Below w.heap.size w w' := by
  cases h : tok l c r
  · rw [show tbx l c r = 0 by simp [tbx, h], show tby l c r = 0 by simp [tby, h], show tbu l c r = 0 by simp [tbu, h], show tbv l c r = 0 by simp [tbv, h]]
    go_enter Tryd.func27, Tryd.ntmps27
    go_wp2_with fail
    refine (spec_tileok l c r _).mono ?_
    rw [h]
    rintro e w' ⟨rfl, rfl⟩
    go_wp2_with fail
    exact bodyPost_ret (v := .tuple #[.int .i64 0, .int .i64 0, .int .i64 0, .int .i64 0]) (by simp [results, Tryd.results27, go_sem]) rfl ⟨rfl, by (repeat (first | with_reducible exact Below.refl _ _ | with_reducible assumption | (with_reducible refine btrans ?_ (by with_reducible assumption)) | with_reducible refine bdrew ?_ | with_reducible refine balloc ?_ _ | with_reducible refine bset ?_ (by simp; omega) _))⟩
  · rw [show tbx l c r = -32768 + c * sid l by simp [tbx, h], show tby l c r = -32768 + r * sid l by simp [tby, h], show tbu l c r = -32768 + c * sid l + sid l - 1 by simp [tbu, h], show tbv l c r = -32768 + r * sid l + sid l - 1 by simp [tbv, h]]
    have hok := h
    obtain ⟨k, rfl, hk, c0, c1, r0, r1⟩ := tok_parts h
    obtain ⟨m1, m2⟩ := mul_in hk c0 c1
    obtain ⟨n1, n2⟩ := mul_in hk r0 r1
    obtain ⟨s1, s2, _, q1, q2, _, s3⟩ := sid_bounds k hk
    generalize hs : sid (k : Int) = s at *
    generalize hmc : c * s = mc at *
    generalize hmr : r * s = mr at *
    have hc' : (65536 : Int) / cols k = s := s3
    go_enter Tryd.func27, Tryd.ntmps27
    go_wp2_with fail
    refine (spec_tileok k c r _).mono ?_
    rw [hok]
    rintro e w' ⟨rfl, rfl⟩
    have q3 : ¬ cols (k : Int) = 0 := by omega
    go_wp2_with fail
    refine (count_calls k hk _).mono ?_
    rintro e w' ⟨rfl, hw⟩
    replace hw := hw.symm
    subst hw
    go_wp2_with fail
    go_region
    go_wp2_with fail
    exact bodyPost_ret (v := .tuple #[.int .i64 (mc - 32768), .int .i64 (mr - 32768), .int .i64 (mc - 32768 + s - 1), .int .i64 (mr - 32768 + s - 1)]) (by simp [results, Tryd.results27, go_sem]) rfl ⟨by rw [show mc - 32768 = -32768 + mc by omega, show mr - 32768 = -32768 + mr by omega], by (repeat (first | with_reducible exact Below.refl _ _ | with_reducible assumption | (with_reducible refine btrans ?_ (by with_reducible assumption)) | with_reducible refine bdrew ?_ | with_reducible refine balloc ?_ _ | with_reducible refine bset ?_ (by simp; omega) _))⟩
end Go.Proofs.YtmnnbifekbacnaaDoor
