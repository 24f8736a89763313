/- Chapter 5's small functions: TileKey, TileOf of both sides; what the laws hold of tiles. -/
import Derived.Test.YtncnppkpkemajaaDoorTile2
import Derived.Deep.QuietTactic
import Derived.BigQuiet
namespace Go.Proofs.YtncnppkpkemajaaDoor
open Go.RowKit
set_option linter.unusedSimpArgs false
set_option linter.unusedVariables false
def tkey (l c r : Int) : Int := if tok l c r then 16 * ((Tm.S 16 c.toNat + 2 * Tm.S 16 r.toNat : Nat) : Int) + l else -1
def ofok (x y l : Int) : Bool := pok x y && lok l
def ofl (x y l : Int) : Int := if ofok x y l then l else 0
def ofc (x y l : Int) : Int := if ofok x y l then (x + 32768) / sid l else 0
def ofr (x y l : Int) : Int := if ofok x y l then (y + 32768) / sid l else 0
theorem bdrewN {w a : World} (h : Below w.heap.size w a) {n : Nat} : Below w.heap.size w (a.drewN n) := ⟨h.1, h.2, h.3, h.4, h.5⟩
theorem spec_weave_m (x y m : Nat) (hx : x ≤ 65535) (hy : y ≤ 65535) (hm : Hid (m = Tm.S 16 x + 2 * Tm.S 16 y)) (w : World) : Calls Tryd.prog 40 #[.int .i64 x, .int .i64 y] w fun e w' => e = .returned (.int .i64 m) ∧ w' = w := by
  rw [hm.out]; exact spec_weave x y hx hy w
theorem impl_tilekey (l c r : Int) (w : World) (ht : Tab w) : Calls Tryd.prog 17 #[.agg #[.int .i64 l, .int .i64 c, .int .i64 r]] w fun e w' => e = .returned (.int .i64 (tkey l c r)) ∧ Below w.heap.size w w' := by
  have Ht := hid ht
  clear ht
  cases h : tok l c r
  · rw [show tkey l c r = -1 by simp [tkey, h]]
    go_enter Tryd.func17, Tryd.ntmps17
    go_wp2_with fail
    refine (impl_tileok l c r _ (Ht.out.alloc _)).mono ?_
    rw [h]
    rintro e w' ⟨rfl, rfl⟩
    go_wp2_with fail
    go_ret
    exact ⟨rfl, by (repeat (first | with_reducible exact Below.refl _ _ | with_reducible assumption | (with_reducible refine btrans ?_ (by with_reducible assumption)) | with_reducible refine bdrew ?_ | with_reducible refine balloc ?_ _ | with_reducible refine bset ?_ (by simp; omega) _))⟩
  · have hok := h
    obtain ⟨k, rfl, hk, c0, c1, r0, r1⟩ := tok_parts h
    obtain ⟨_, _, _, q1, q2, _, _⟩ := sid_bounds k hk
    obtain ⟨x, rfl⟩ := Int.eq_ofNat_of_zero_le c0
    obtain ⟨y, rfl⟩ := Int.eq_ofNat_of_zero_le r0
    have hx : x ≤ 65535 := by omega
    have hy : y ≤ 65535 := by omega
    have hv : tkey k x y = 16 * ((Tm.S 16 x + 2 * Tm.S 16 y : Nat) : Int) + k := by simp [tkey, hok]
    have hS1 := Tm.S_lt 16 x
    have hS2 := Tm.S_lt 16 y
    obtain ⟨m, Hm⟩ : ∃ m, Hid (m = Tm.S 16 x + 2 * Tm.S 16 y) := ⟨_, hid rfl⟩
    have hm : (m : Int) ≤ 4294967296 := by rw [Hm.out]; omega
    rw [hv, ← Hm.out]
    clear hS1 hS2 hv c0 c1 r0 r1
    go_enter Tryd.func17, Tryd.ntmps17
    go_wp2_with fail
    refine (impl_tileok k x y _ (Ht.out.alloc _)).mono ?_
    rw [hok]
    rintro e w' ⟨rfl, rfl⟩
    go_wp2_with fail
    go_quiet ((go_at_call 39; exact Calls.quiet_of_same (impl_weave x y m hx hy Hm _)))
    go_wp2_with fail
    go_ret
    exact ⟨rfl, by (repeat (first | with_reducible exact Below.refl _ _ | with_reducible assumption | (with_reducible refine btrans ?_ (by with_reducible assumption)) | with_reducible refine bdrew ?_ | with_reducible refine bdrewN ?_ | with_reducible refine balloc ?_ _ | with_reducible refine bset ?_ (by simp; omega) _))⟩
theorem spec_tilekey (l c r : Int) (w : World) : Calls Tryd.prog 18 #[.agg #[.int .i64 l, .int .i64 c, .int .i64 r]] w fun e w' => e = .returned (.int .i64 (tkey l c r)) ∧ Below w.heap.size w w' := by
  cases h : tok l c r
  · rw [show tkey l c r = -1 by simp [tkey, h]]
    go_enter Tryd.func18, Tryd.ntmps18
    go_wp2_with fail
    refine (spec_tileok l c r _).mono ?_
    rw [h]
    rintro e w' ⟨rfl, rfl⟩
    go_wp2_with fail
    go_ret
    exact ⟨rfl, by (repeat (first | with_reducible exact Below.refl _ _ | with_reducible assumption | (with_reducible refine btrans ?_ (by with_reducible assumption)) | with_reducible refine bdrew ?_ | with_reducible refine balloc ?_ _ | with_reducible refine bset ?_ (by simp; omega) _))⟩
  · have hok := h
    obtain ⟨k, rfl, hk, c0, c1, r0, r1⟩ := tok_parts h
    obtain ⟨_, _, _, q1, q2, _, _⟩ := sid_bounds k hk
    obtain ⟨x, rfl⟩ := Int.eq_ofNat_of_zero_le c0
    obtain ⟨y, rfl⟩ := Int.eq_ofNat_of_zero_le r0
    have hx : x ≤ 65535 := by omega
    have hy : y ≤ 65535 := by omega
    have hv : tkey k x y = 16 * ((Tm.S 16 x + 2 * Tm.S 16 y : Nat) : Int) + k := by simp [tkey, hok]
    have hS1 := Tm.S_lt 16 x
    have hS2 := Tm.S_lt 16 y
    obtain ⟨m, Hm⟩ : ∃ m, Hid (m = Tm.S 16 x + 2 * Tm.S 16 y) := ⟨_, hid rfl⟩
    have hm : (m : Int) ≤ 4294967296 := by rw [Hm.out]; omega
    rw [hv, ← Hm.out]
    clear hS1 hS2 hv c0 c1 r0 r1
    go_enter Tryd.func18, Tryd.ntmps18
    go_wp2_with fail
    refine (spec_tileok k x y _).mono ?_
    rw [hok]
    rintro e w' ⟨rfl, rfl⟩
    go_wp2_with fail
    go_quiet ((go_at_call 40; exact Calls.quiet_of_same (spec_weave_m x y m hx hy Hm _)))
    go_wp2_with fail
    go_ret
    exact ⟨rfl, by (repeat (first | with_reducible exact Below.refl _ _ | with_reducible assumption | (with_reducible refine btrans ?_ (by with_reducible assumption)) | with_reducible refine bdrew ?_ | with_reducible refine bdrewN ?_ | with_reducible refine balloc ?_ _ | with_reducible refine bset ?_ (by simp; omega) _))⟩
theorem keepset' {w : World} {p q : Addr} {v u : Value} (h : w.cell? p = some v) (hne : q.block ≠ p.block) : (w.setCell q u).cell? p = some v := by
  rw [World.cell?, Below.heap_setCell w q u p.block (fun e => hne e.symm)]; exact h
set_option maxHeartbeats 1000000 in
theorem impl_tileof (x y l : Int) (w : World) (ht : Tab w) : Calls Tryd.prog 15 #[.agg #[.int .i64 x, .int .i64 y], .int .i64 l] w fun e w' => e = .returned (.tuple #[.agg #[.int .i64 (ofl x y l), .int .i64 (ofc x y l), .int .i64 (ofr x y l)], .bool (ofok x y l)]) ∧ Below w.heap.size w w' := by
  have Ht := hid ht
  clear ht
  cases h : pok x y
  · have hu : ofok x y l = false := by simp [ofok, h]
    rw [show ofl x y l = 0 by simp [ofl, hu], show ofc x y l = 0 by simp [ofc, hu], show ofr x y l = 0 by simp [ofr, hu], hu]
    go_enter Tryd.func15, Tryd.ntmps15
    go_wp2_with fail
    refine (impl_ok x y _).mono ?_
    rw [h]
    rintro e w' ⟨rfl, rfl⟩
    generalize hw1 : (((w.alloc (.cells #[.int .i64 x, .int .i64 y] 30)).alloc (.cells #[.int .i64 0, .int .i64 0, .int .i64 0] 25)).alloc (.cells #[.int .i64 x, .int .i64 y] 30)) = w1
    have gp : w1.heap[w.heap.size]? = some (.cells #[.int .i64 x, .int .i64 y] 30 (0, 0)) := by rw [← hw1]; exact old_alloc (old_alloc (new_alloc _ _ _ rfl))
    have gz : w1.heap[w.heap.size + 1]? = some (.cells #[.int .i64 0, .int .i64 0, .int .i64 0] 25 (0, 0)) := by rw [← hw1]; exact old_alloc (new_alloc _ _ _ (by simp))
    have hb1 : Below w.heap.size w w1 := by rw [← hw1]; (repeat (first | with_reducible exact Below.refl _ _ | with_reducible assumption | (with_reducible refine btrans ?_ (by with_reducible assumption)) | with_reducible refine bdrew ?_ | with_reducible refine balloc ?_ _ | with_reducible refine bset ?_ (by simp; omega) _))
    clear hw1
    obtain ⟨p0, p1⟩ := cell2 gp
    obtain ⟨i0, i1, i2, j0, j1, j2⟩ := cellT gz
    have Gz := hid gz
    clear gz gp
    go_wp2_with fail
    have gF := set3 Gz.out (.int .i64 (0)) (.int .i64 (0)) (.int .i64 (0))
    have hF := bset (k := 2) (bset (k := 1) (bset (k := 0) hb1 (show w.heap.size ≤ w.heap.size + 1 by omega) (.int .i64 (0))) (show w.heap.size ≤ w.heap.size + 1 by omega) (.int .i64 (0))) (show w.heap.size ≤ w.heap.size + 1 by omega) (.int .i64 (0))
    generalize (((w1.setCell ⟨w.heap.size + 1, 0, none⟩ (.int .i64 (0))).setCell ⟨w.heap.size + 1, 1, none⟩ (.int .i64 (0))).setCell ⟨w.heap.size + 1, 2, none⟩ (.int .i64 (0))) = wf at gF hF ⊢
    obtain ⟨z0, z1, z2, _, _, _⟩ := cellT gF
    exact bodyPost_ret (v := .tuple #[.agg #[.int .i64 (0), .int .i64 (0), .int .i64 (0)], .bool false]) (by simp [results, Tryd.results15, go_sem, z0, z1, z2]) rfl ⟨rfl, hF⟩
  cases h2 : lok l
  · have hu : ofok x y l = false := by simp [ofok, h2]
    rw [show ofl x y l = 0 by simp [ofl, hu], show ofc x y l = 0 by simp [ofc, hu], show ofr x y l = 0 by simp [ofr, hu], hu]
    go_enter Tryd.func15, Tryd.ntmps15
    go_wp2_with fail
    refine (impl_ok x y _).mono ?_
    rw [h]
    rintro e w' ⟨rfl, rfl⟩
    generalize hw1 : (((w.alloc (.cells #[.int .i64 x, .int .i64 y] 30)).alloc (.cells #[.int .i64 0, .int .i64 0, .int .i64 0] 25)).alloc (.cells #[.int .i64 x, .int .i64 y] 30)) = w1
    have gp : w1.heap[w.heap.size]? = some (.cells #[.int .i64 x, .int .i64 y] 30 (0, 0)) := by rw [← hw1]; exact old_alloc (old_alloc (new_alloc _ _ _ rfl))
    have gz : w1.heap[w.heap.size + 1]? = some (.cells #[.int .i64 0, .int .i64 0, .int .i64 0] 25 (0, 0)) := by rw [← hw1]; exact old_alloc (new_alloc _ _ _ (by simp))
    have hb1 : Below w.heap.size w w1 := by rw [← hw1]; (repeat (first | with_reducible exact Below.refl _ _ | with_reducible assumption | (with_reducible refine btrans ?_ (by with_reducible assumption)) | with_reducible refine bdrew ?_ | with_reducible refine balloc ?_ _ | with_reducible refine bset ?_ (by simp; omega) _))
    clear hw1
    obtain ⟨p0, p1⟩ := cell2 gp
    obtain ⟨i0, i1, i2, j0, j1, j2⟩ := cellT gz
    have Gz := hid gz
    clear gz gp
    go_wp2_with fail
    refine (level_ok l _).mono ?_
    rw [h2]
    rintro e w' ⟨rfl, hw⟩
    replace hw := hw.symm
    subst hw
    go_wp2_with fail
    have gF := set3 Gz.out (.int .i64 (0)) (.int .i64 (0)) (.int .i64 (0))
    have hF := bset (k := 2) (bset (k := 1) (bset (k := 0) hb1 (show w.heap.size ≤ w.heap.size + 1 by omega) (.int .i64 (0))) (show w.heap.size ≤ w.heap.size + 1 by omega) (.int .i64 (0))) (show w.heap.size ≤ w.heap.size + 1 by omega) (.int .i64 (0))
    generalize (((w1.setCell ⟨w.heap.size + 1, 0, none⟩ (.int .i64 (0))).setCell ⟨w.heap.size + 1, 1, none⟩ (.int .i64 (0))).setCell ⟨w.heap.size + 1, 2, none⟩ (.int .i64 (0))) = wf at gF hF ⊢
    obtain ⟨z0, z1, z2, _, _, _⟩ := cellT gF
    exact bodyPost_ret (v := .tuple #[.agg #[.int .i64 (0), .int .i64 (0), .int .i64 (0)], .bool false]) (by simp [results, Tryd.results15, go_sem, z0, z1, z2]) rfl ⟨rfl, hF⟩
  · have hu : ofok x y l = true := by simp [ofok, h, h2]
    rw [show ofl x y l = l by simp [ofl, hu], show ofc x y l = (x + 32768) / sid l by simp [ofc, hu], show ofr x y l = (y + 32768) / sid l by simp [ofr, hu], hu]
    have hl := h2
    obtain ⟨k, rfl, hk⟩ := lok_nat h2
    have hp : -30000 ≤ x ∧ x ≤ 30000 ∧ -30000 ≤ y ∧ y ≤ 30000 := by simp [pok, cok] at h; omega
    obtain ⟨x0, x1, y0, y1⟩ := hp
    obtain ⟨s1, s2, _, q1, q2, _, s3⟩ := sid_bounds k hk
    have hc := fun w' (hb : Below w.heap.size w w') => (Ht.out.below hb) k hk
    have Hc := hid hc
    clear hc
    generalize hs : sid (k : Int) = s at *
    have q3 : ¬ cols (k : Int) = 0 := by omega
    have hs0 : ¬ s = 0 := by omega
    have d1 : Int.tdiv (x + 32768) s = (x + 32768) / s := Int.tdiv_eq_ediv_of_nonneg (by omega)
    have d2 : Int.tdiv (y + 32768) s = (y + 32768) / s := Int.tdiv_eq_ediv_of_nonneg (by omega)
    have b1 : 0 ≤ (x + 32768) / s := Int.ediv_nonneg (by omega) (by omega)
    have b2 : (x + 32768) / s ≤ 65536 := Int.le_trans (Int.ediv_le_self _ (by omega)) (by omega)
    have b3 : 0 ≤ (y + 32768) / s := Int.ediv_nonneg (by omega) (by omega)
    have b4 : (y + 32768) / s ≤ 65536 := Int.le_trans (Int.ediv_le_self _ (by omega)) (by omega)
    have e1 : x - -32768 = x + 32768 := by omega
    have e2 : y - -32768 = y + 32768 := by omega
    go_enter Tryd.func15, Tryd.ntmps15
    go_wp2_with fail
    refine (impl_ok x y _).mono ?_
    rw [h]
    rintro e w' ⟨rfl, rfl⟩
    generalize hw1 : (((w.alloc (.cells #[.int .i64 x, .int .i64 y] 30)).alloc (.cells #[.int .i64 0, .int .i64 0, .int .i64 0] 25)).alloc (.cells #[.int .i64 x, .int .i64 y] 30)) = w1
    have gp : w1.heap[w.heap.size]? = some (.cells #[.int .i64 x, .int .i64 y] 30 (0, 0)) := by rw [← hw1]; exact old_alloc (old_alloc (new_alloc _ _ _ rfl))
    have gz : w1.heap[w.heap.size + 1]? = some (.cells #[.int .i64 0, .int .i64 0, .int .i64 0] 25 (0, 0)) := by rw [← hw1]; exact old_alloc (new_alloc _ _ _ (by simp))
    have hb1 : Below w.heap.size w w1 := by rw [← hw1]; (repeat (first | with_reducible exact Below.refl _ _ | with_reducible assumption | (with_reducible refine btrans ?_ (by with_reducible assumption)) | with_reducible refine bdrew ?_ | with_reducible refine balloc ?_ _ | with_reducible refine bset ?_ (by simp; omega) _))
    clear hw1
    obtain ⟨p0, p1⟩ := cell2 gp
    obtain ⟨i0, i1, i2, j0, j1, j2⟩ := cellT gz
    have Gz := hid gz
    clear gz gp
    go_wp2_with fail
    refine (level_ok k _).mono ?_
    rw [hl]
    rintro e w' ⟨rfl, hw⟩
    replace hw := hw.symm
    subst hw
    have hcell := Hc.out w1 hb1
    go_wp2_with fail
    go_region_held3 (fun w' => w'.cell? ⟨w.heap.size, 0, none⟩ = some (.int .i64 x) ∧ w'.cell? ⟨w.heap.size, 1, none⟩ = some (.int .i64 y)) (first | (repeat' apply And.intro) <;> (repeat (first | with_reducible assumption | with_reducible refine keepset' ?_ (by dsimp only; omega) | with_reducible refine keepdrew ?_))) (fail)
    have wx : IntKind.i64.wrap (x + 32768) = x + 32768 := by rw [IntKind.wrap_i64]; omega
    have wy : IntKind.i64.wrap (y + 32768) = y + 32768 := by rw [IntKind.wrap_i64]; omega
    have wu : IntKind.i64.wrap ((x + 32768) / s) = (x + 32768) / s := by rw [IntKind.wrap_i64]; omega
    have wv : IntKind.i64.wrap ((y + 32768) / s) = (y + 32768) / s := by rw [IntKind.wrap_i64]; omega
    rw [wx, wy, d1, d2, wu, wv]
    go_wp2_with fail
    have gF := set3 Gz.out (.int .i64 (k)) (.int .i64 ((x + 32768) / s)) (.int .i64 ((y + 32768) / s))
    have hF := bset (k := 2) (bset (k := 1) (bset (k := 0) hb1 (show w.heap.size ≤ w.heap.size + 1 by omega) (.int .i64 (k))) (show w.heap.size ≤ w.heap.size + 1 by omega) (.int .i64 ((x + 32768) / s))) (show w.heap.size ≤ w.heap.size + 1 by omega) (.int .i64 ((y + 32768) / s))
    replace hF := hF.drew
    replace gF : ((((w1.setCell ⟨w.heap.size + 1, 0, none⟩ (.int .i64 (k))).setCell ⟨w.heap.size + 1, 1, none⟩ (.int .i64 ((x + 32768) / s))).setCell ⟨w.heap.size + 1, 2, none⟩ (.int .i64 ((y + 32768) / s))).drew).heap[w.heap.size + 1]? = _ := gF
    generalize (((w1.setCell ⟨w.heap.size + 1, 0, none⟩ (.int .i64 (k))).setCell ⟨w.heap.size + 1, 1, none⟩ (.int .i64 ((x + 32768) / s))).setCell ⟨w.heap.size + 1, 2, none⟩ (.int .i64 ((y + 32768) / s))).drew = wf at gF hF ⊢
    obtain ⟨z0, z1, z2, _, _, _⟩ := cellT gF
    exact bodyPost_ret (v := .tuple #[.agg #[.int .i64 (k), .int .i64 ((x + 32768) / s), .int .i64 ((y + 32768) / s)], .bool true]) (by simp [results, Tryd.results15, go_sem, z0, z1, z2]) rfl ⟨rfl, hF⟩
set_option maxHeartbeats 1000000 in
theorem spec_tileof (x y l : Int) (w : World) : Calls Tryd.prog 16 #[.agg #[.int .i64 x, .int .i64 y], .int .i64 l] w fun e w' => e = .returned (.tuple #[.agg #[.int .i64 (ofl x y l), .int .i64 (ofc x y l), .int .i64 (ofr x y l)], .bool (ofok x y l)]) ∧ Below w.heap.size w w' := by
  cases h : pok x y
  · have hu : ofok x y l = false := by simp [ofok, h]
    rw [show ofl x y l = 0 by simp [ofl, hu], show ofc x y l = 0 by simp [ofc, hu], show ofr x y l = 0 by simp [ofr, hu], hu]
    go_enter Tryd.func16, Tryd.ntmps16
    go_wp2_with fail
    refine (spec_pointok x y _).mono ?_
    rw [h]
    rintro e w' ⟨rfl, rfl⟩
    generalize hw1 : (((w.alloc (.cells #[.int .i64 x, .int .i64 y] 30)).alloc (.cells #[.int .i64 0, .int .i64 0, .int .i64 0] 25)).alloc (.cells #[.int .i64 x, .int .i64 y] 30)) = w1
    have gp : w1.heap[w.heap.size]? = some (.cells #[.int .i64 x, .int .i64 y] 30 (0, 0)) := by rw [← hw1]; exact old_alloc (old_alloc (new_alloc _ _ _ rfl))
    have gz : w1.heap[w.heap.size + 1]? = some (.cells #[.int .i64 0, .int .i64 0, .int .i64 0] 25 (0, 0)) := by rw [← hw1]; exact old_alloc (new_alloc _ _ _ (by simp))
    have hb1 : Below w.heap.size w w1 := by rw [← hw1]; (repeat (first | with_reducible exact Below.refl _ _ | with_reducible assumption | (with_reducible refine btrans ?_ (by with_reducible assumption)) | with_reducible refine bdrew ?_ | with_reducible refine balloc ?_ _ | with_reducible refine bset ?_ (by simp; omega) _))
    clear hw1
    obtain ⟨p0, p1⟩ := cell2 gp
    obtain ⟨i0, i1, i2, j0, j1, j2⟩ := cellT gz
    have Gz := hid gz
    clear gz gp
    go_wp2_with fail
    have gF := set3 Gz.out (.int .i64 (0)) (.int .i64 (0)) (.int .i64 (0))
    have hF := bset (k := 2) (bset (k := 1) (bset (k := 0) hb1 (show w.heap.size ≤ w.heap.size + 1 by omega) (.int .i64 (0))) (show w.heap.size ≤ w.heap.size + 1 by omega) (.int .i64 (0))) (show w.heap.size ≤ w.heap.size + 1 by omega) (.int .i64 (0))
    generalize (((w1.setCell ⟨w.heap.size + 1, 0, none⟩ (.int .i64 (0))).setCell ⟨w.heap.size + 1, 1, none⟩ (.int .i64 (0))).setCell ⟨w.heap.size + 1, 2, none⟩ (.int .i64 (0))) = wf at gF hF ⊢
    obtain ⟨z0, z1, z2, _, _, _⟩ := cellT gF
    exact bodyPost_ret (v := .tuple #[.agg #[.int .i64 (0), .int .i64 (0), .int .i64 (0)], .bool false]) (by simp [results, Tryd.results16, go_sem, z0, z1, z2]) rfl ⟨rfl, hF⟩
  cases h2 : lok l
  · have hu : ofok x y l = false := by simp [ofok, h2]
    rw [show ofl x y l = 0 by simp [ofl, hu], show ofc x y l = 0 by simp [ofc, hu], show ofr x y l = 0 by simp [ofr, hu], hu]
    go_enter Tryd.func16, Tryd.ntmps16
    go_wp2_with fail
    refine (spec_pointok x y _).mono ?_
    rw [h]
    rintro e w' ⟨rfl, rfl⟩
    generalize hw1 : (((w.alloc (.cells #[.int .i64 x, .int .i64 y] 30)).alloc (.cells #[.int .i64 0, .int .i64 0, .int .i64 0] 25)).alloc (.cells #[.int .i64 x, .int .i64 y] 30)) = w1
    have gp : w1.heap[w.heap.size]? = some (.cells #[.int .i64 x, .int .i64 y] 30 (0, 0)) := by rw [← hw1]; exact old_alloc (old_alloc (new_alloc _ _ _ rfl))
    have gz : w1.heap[w.heap.size + 1]? = some (.cells #[.int .i64 0, .int .i64 0, .int .i64 0] 25 (0, 0)) := by rw [← hw1]; exact old_alloc (new_alloc _ _ _ (by simp))
    have hb1 : Below w.heap.size w w1 := by rw [← hw1]; (repeat (first | with_reducible exact Below.refl _ _ | with_reducible assumption | (with_reducible refine btrans ?_ (by with_reducible assumption)) | with_reducible refine bdrew ?_ | with_reducible refine balloc ?_ _ | with_reducible refine bset ?_ (by simp; omega) _))
    clear hw1
    obtain ⟨p0, p1⟩ := cell2 gp
    obtain ⟨i0, i1, i2, j0, j1, j2⟩ := cellT gz
    have Gz := hid gz
    clear gz gp
    go_wp2_with fail
    refine (inn_calls _ _ _ _).mono ?_
    rw [show (decide (0 ≤ l) && decide (l ≤ 8)) = lok l from rfl]
    rw [h2]
    rintro e w' ⟨rfl, hw⟩
    replace hw := hw.symm
    subst hw
    go_wp2_with fail
    have gF := set3 Gz.out (.int .i64 (0)) (.int .i64 (0)) (.int .i64 (0))
    have hF := bset (k := 2) (bset (k := 1) (bset (k := 0) hb1 (show w.heap.size ≤ w.heap.size + 1 by omega) (.int .i64 (0))) (show w.heap.size ≤ w.heap.size + 1 by omega) (.int .i64 (0))) (show w.heap.size ≤ w.heap.size + 1 by omega) (.int .i64 (0))
    generalize (((w1.setCell ⟨w.heap.size + 1, 0, none⟩ (.int .i64 (0))).setCell ⟨w.heap.size + 1, 1, none⟩ (.int .i64 (0))).setCell ⟨w.heap.size + 1, 2, none⟩ (.int .i64 (0))) = wf at gF hF ⊢
    obtain ⟨z0, z1, z2, _, _, _⟩ := cellT gF
    exact bodyPost_ret (v := .tuple #[.agg #[.int .i64 (0), .int .i64 (0), .int .i64 (0)], .bool false]) (by simp [results, Tryd.results16, go_sem, z0, z1, z2]) rfl ⟨rfl, hF⟩
  · have hu : ofok x y l = true := by simp [ofok, h, h2]
    rw [show ofl x y l = l by simp [ofl, hu], show ofc x y l = (x + 32768) / sid l by simp [ofc, hu], show ofr x y l = (y + 32768) / sid l by simp [ofr, hu], hu]
    have hl := h2
    obtain ⟨k, rfl, hk⟩ := lok_nat h2
    have hp : -30000 ≤ x ∧ x ≤ 30000 ∧ -30000 ≤ y ∧ y ≤ 30000 := by simp [pok, cok] at h; omega
    obtain ⟨x0, x1, y0, y1⟩ := hp
    obtain ⟨s1, s2, _, q1, q2, _, s3⟩ := sid_bounds k hk
    generalize hs : sid (k : Int) = s at *
    have q3 : ¬ cols (k : Int) = 0 := by omega
    have hs0 : ¬ s = 0 := by omega
    have d1 : Int.tdiv (x + 32768) s = (x + 32768) / s := Int.tdiv_eq_ediv_of_nonneg (by omega)
    have d2 : Int.tdiv (y + 32768) s = (y + 32768) / s := Int.tdiv_eq_ediv_of_nonneg (by omega)
    have b1 : 0 ≤ (x + 32768) / s := Int.ediv_nonneg (by omega) (by omega)
    have b2 : (x + 32768) / s ≤ 65536 := Int.le_trans (Int.ediv_le_self _ (by omega)) (by omega)
    have b3 : 0 ≤ (y + 32768) / s := Int.ediv_nonneg (by omega) (by omega)
    have b4 : (y + 32768) / s ≤ 65536 := Int.le_trans (Int.ediv_le_self _ (by omega)) (by omega)
    have e1 : x - -32768 = x + 32768 := by omega
    have e2 : y - -32768 = y + 32768 := by omega
    go_enter Tryd.func16, Tryd.ntmps16
    go_wp2_with fail
    refine (spec_pointok x y _).mono ?_
    rw [h]
    rintro e w' ⟨rfl, rfl⟩
    generalize hw1 : (((w.alloc (.cells #[.int .i64 x, .int .i64 y] 30)).alloc (.cells #[.int .i64 0, .int .i64 0, .int .i64 0] 25)).alloc (.cells #[.int .i64 x, .int .i64 y] 30)) = w1
    have gp : w1.heap[w.heap.size]? = some (.cells #[.int .i64 x, .int .i64 y] 30 (0, 0)) := by rw [← hw1]; exact old_alloc (old_alloc (new_alloc _ _ _ rfl))
    have gz : w1.heap[w.heap.size + 1]? = some (.cells #[.int .i64 0, .int .i64 0, .int .i64 0] 25 (0, 0)) := by rw [← hw1]; exact old_alloc (new_alloc _ _ _ (by simp))
    have hb1 : Below w.heap.size w w1 := by rw [← hw1]; (repeat (first | with_reducible exact Below.refl _ _ | with_reducible assumption | (with_reducible refine btrans ?_ (by with_reducible assumption)) | with_reducible refine bdrew ?_ | with_reducible refine balloc ?_ _ | with_reducible refine bset ?_ (by simp; omega) _))
    clear hw1
    obtain ⟨p0, p1⟩ := cell2 gp
    obtain ⟨i0, i1, i2, j0, j1, j2⟩ := cellT gz
    have Gz := hid gz
    clear gz gp
    go_wp2_with fail
    refine (inn_calls _ _ _ _).mono ?_
    rw [show (decide (0 ≤ (k : Int)) && decide ((k : Int) ≤ 8)) = lok (k : Int) from rfl]
    rw [hl]
    rintro e w' ⟨rfl, hw⟩
    replace hw := hw.symm
    subst hw
    go_wp2_with fail
    refine (count_calls k hk _).mono ?_
    rintro e w' ⟨rfl, hw⟩
    replace hw := hw.symm
    subst hw
    go_wp2_with fail
    go_region_held3 (fun w' => w'.cell? ⟨w.heap.size, 0, none⟩ = some (.int .i64 x) ∧ w'.cell? ⟨w.heap.size, 1, none⟩ = some (.int .i64 y)) (first | (repeat' apply And.intro) <;> (repeat (first | with_reducible assumption | with_reducible refine keepset' ?_ (by dsimp only; omega) | with_reducible refine keepdrew ?_))) (fail)
    have wx : IntKind.i64.wrap (x + 32768) = x + 32768 := by rw [IntKind.wrap_i64]; omega
    have wy : IntKind.i64.wrap (y + 32768) = y + 32768 := by rw [IntKind.wrap_i64]; omega
    have wu : IntKind.i64.wrap ((x + 32768) / s) = (x + 32768) / s := by rw [IntKind.wrap_i64]; omega
    have wv : IntKind.i64.wrap ((y + 32768) / s) = (y + 32768) / s := by rw [IntKind.wrap_i64]; omega
    rw [wx, wy, d1, d2, wu, wv]
    go_wp2_with fail
    have gF := set3 Gz.out (.int .i64 (k)) (.int .i64 ((x + 32768) / s)) (.int .i64 ((y + 32768) / s))
    have hF := bset (k := 2) (bset (k := 1) (bset (k := 0) hb1 (show w.heap.size ≤ w.heap.size + 1 by omega) (.int .i64 (k))) (show w.heap.size ≤ w.heap.size + 1 by omega) (.int .i64 ((x + 32768) / s))) (show w.heap.size ≤ w.heap.size + 1 by omega) (.int .i64 ((y + 32768) / s))
    replace hF := hF.drew
    replace gF : ((((w1.setCell ⟨w.heap.size + 1, 0, none⟩ (.int .i64 (k))).setCell ⟨w.heap.size + 1, 1, none⟩ (.int .i64 ((x + 32768) / s))).setCell ⟨w.heap.size + 1, 2, none⟩ (.int .i64 ((y + 32768) / s))).drew).heap[w.heap.size + 1]? = _ := gF
    generalize (((w1.setCell ⟨w.heap.size + 1, 0, none⟩ (.int .i64 (k))).setCell ⟨w.heap.size + 1, 1, none⟩ (.int .i64 ((x + 32768) / s))).setCell ⟨w.heap.size + 1, 2, none⟩ (.int .i64 ((y + 32768) / s))).drew = wf at gF hF ⊢
    obtain ⟨z0, z1, z2, _, _, _⟩ := cellT gF
    exact bodyPost_ret (v := .tuple #[.agg #[.int .i64 (k), .int .i64 ((x + 32768) / s), .int .i64 ((y + 32768) / s)], .bool true]) (by simp [results, Tryd.results16, go_sem, z0, z1, z2]) rfl ⟨rfl, hF⟩
end Go.Proofs.YtncnppkpkemajaaDoor
