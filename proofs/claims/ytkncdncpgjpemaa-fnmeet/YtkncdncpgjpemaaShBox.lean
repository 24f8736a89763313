/- The box of a shape, and whether a shape is in a box. -/
import Derived.Test.YtkncdncpgjpemaaShLaw
import Derived.Test.YtkncdncpgjpemaaGeo9
namespace Go.Proofs.Ytkncdncpgjpemaa
open Go.RowKit
set_option linter.unusedSimpArgs false
set_option linter.unusedVariables false
def sv (f : List (Int × Int) → Int) (k : Int) (ps : List (Int × Int)) : Int := if shok k ps = true then f ps else 0
def hasv (a b c d e f g h : Int) : Bool := bok a b c d && bok e f g h && hasbx a b c d e f g h
set_option maxHeartbeats 1000000 in
theorem impl_ShapeBox (k : Int) (a : Option Addr) (cap : Nat) (ps : List (Int × Int)) (w : World) (hm : ps.length ≤ 1099511627776) (hc : ps.length ≤ cap) (h : Pts w a ps) : Calls Try.prog 47 #[shv k a ps.length cap] w fun e w' => e = .returned (.tuple #[.agg #[.int .i64 (sv aX k ps), .int .i64 (sv aY k ps), .int .i64 (sv bX k ps), .int .i64 (sv bY' k ps)], .bool (shok k ps && aok ps)]) ∧ Below w.heap.size w w' := by
  have hok := fun w' (hw : Pts w' a ps) => impl_ShapeOk k a cap ps w' hm hc hw
  have hba := fun w' (hw : Pts w' a ps) => impl_BoxAround a cap ps w' hm hc hw
  have Hh := hid h
  clear h
  cases hs : shok k ps
  · have v : ∀ f : List (Int × Int) → Int, sv f k ps = 0 := by intro f; unfold sv; rw [hs]; rfl
    rw [v aX, v aY, v bX, v bY']
    rw [hs] at hok
    have Hok := hid hok
    clear hok hba v hs
    go_enter Try.func47, Try.ntmps47
    go_wp2_with fail
    refine (Hok.out _ (Hh.out.below ?_)).mono ?_
    · (repeat (first | with_reducible exact Below.refl _ _ | with_reducible assumption | (with_reducible refine btrans ?_ (by with_reducible assumption)) | with_reducible refine bdrew ?_ | with_reducible refine balloc ?_ _))
    rintro e w1 ⟨rfl, hb1⟩
    have gz : w1.heap[w.heap.size + 1]? = some (.cells #[.int .i64 0, .int .i64 0, .int .i64 0, .int .i64 0] 32 (0, 0)) := by (repeat (first | with_reducible assumption | (refine new_alloc _ _ _ ?_; simp; done) | refine keepheap2 (by with_reducible assumption) ?_ | refine keephdrew2 ?_ | refine old_alloc ?_))
    obtain ⟨i0, i1, i2, i3, j0, j1, j2, j3⟩ := cell4 gz
    have Gz := hid gz
    clear gz
    go_wp2_with fail
    obtain ⟨gF, hbF⟩ := set4 (w := w) Gz.out (by (repeat (first | with_reducible exact Below.refl _ _ | with_reducible assumption | (with_reducible refine btrans ?_ (by with_reducible assumption)) | with_reducible refine bdrew ?_ | with_reducible refine balloc ?_ _))) (show w.heap.size ≤ w.heap.size + 1 by omega) (.int .i64 0) (.int .i64 0) (.int .i64 0) (.int .i64 0)
    generalize ((((w1.setCell ⟨w.heap.size + 1, 0, none⟩ (.int .i64 0)).setCell ⟨w.heap.size + 1, 1, none⟩ (.int .i64 0)).setCell ⟨w.heap.size + 1, 2, none⟩ (.int .i64 0)).setCell ⟨w.heap.size + 1, 3, none⟩ (.int .i64 0)) = wf at gF hbF ⊢
    obtain ⟨z0, z1, z2, z3, _, _, _, _⟩ := cell4 gF
    exact bodyPost_ret (v := .tuple #[.agg #[.int .i64 0, .int .i64 0, .int .i64 0, .int .i64 0], .bool false]) (by simp [results, Try.results47, go_sem, z0, z1, z2, z3]) rfl ⟨rfl, hbF⟩
  have v : ∀ f : List (Int × Int) → Int, sv f k ps = f ps := by intro f; unfold sv; rw [hs]; rfl
  rw [v aX, v aY, v bX, v bY', Bool.true_and]
  rw [hs] at hok
  generalize aX ps = m1 at *
  generalize aY ps = m2 at *
  generalize bX ps = m3 at *
  generalize bY' ps = m4 at *
  generalize aok ps = ok at *
  have Hok := hid hok
  have Hba := hid hba
  clear hok hba v hs
  go_enter Try.func47, Try.ntmps47
  go_wp2_with fail
  refine (Hok.out _ (Hh.out.below ?_)).mono ?_
  · (repeat (first | with_reducible exact Below.refl _ _ | with_reducible assumption | (with_reducible refine btrans ?_ (by with_reducible assumption)) | with_reducible refine bdrew ?_ | with_reducible refine balloc ?_ _))
  rintro e w1 ⟨rfl, hb1⟩
  have q0 : w1.cell? ⟨w.heap.size, 0, none⟩ = some (.int .i64 k) := by (repeat (first | with_reducible assumption | (refine newcell _ _ _ _ _ _ ?_ rfl; simp; done) | refine keepcell (by with_reducible assumption) ?_ | refine keepdrew ?_ | refine keepalloc ?_ _))
  have q1 : w1.cell? ⟨w.heap.size, 1, none⟩ = some (.slice a ps.length cap) := by (repeat (first | with_reducible assumption | (refine newcell _ _ _ _ _ _ ?_ rfl; simp; done) | refine keepcell (by with_reducible assumption) ?_ | refine keepdrew ?_ | refine keepalloc ?_ _))
  have gz : w1.heap[w.heap.size + 1]? = some (.cells #[.int .i64 0, .int .i64 0, .int .i64 0, .int .i64 0] 32 (0, 0)) := by (repeat (first | with_reducible assumption | (refine new_alloc _ _ _ ?_; simp; done) | refine keepheap2 (by with_reducible assumption) ?_ | refine keephdrew2 ?_ | refine old_alloc ?_))
  have Gz1 := hid gz
  clear gz
  go_wp2_with fail
  refine (Hba.out _ (Hh.out.below ?_)).mono ?_
  · (repeat (first | with_reducible exact Below.refl _ _ | with_reducible assumption | (with_reducible refine btrans ?_ (by with_reducible assumption)) | with_reducible refine bdrew ?_ | with_reducible refine balloc ?_ _))
  rintro e w2 ⟨rfl, hb2⟩
  have gz := keepheap2 hb2 Gz1.out
  obtain ⟨i0, i1, i2, i3, j0, j1, j2, j3⟩ := cell4 gz
  have Gz := hid gz
  clear gz
  go_wp2_with fail
  obtain ⟨gF, hbF⟩ := set4 (w := w) Gz.out (by (repeat (first | with_reducible exact Below.refl _ _ | with_reducible assumption | (with_reducible refine btrans ?_ (by with_reducible assumption)) | with_reducible refine bdrew ?_ | with_reducible refine balloc ?_ _))) (show w.heap.size ≤ w.heap.size + 1 by omega) (.int .i64 m1) (.int .i64 m2) (.int .i64 m3) (.int .i64 m4)
  generalize ((((w2.setCell ⟨w.heap.size + 1, 0, none⟩ (.int .i64 m1)).setCell ⟨w.heap.size + 1, 1, none⟩ (.int .i64 m2)).setCell ⟨w.heap.size + 1, 2, none⟩ (.int .i64 m3)).setCell ⟨w.heap.size + 1, 3, none⟩ (.int .i64 m4)) = wf at gF hbF ⊢
  obtain ⟨z0, z1, z2, z3, _, _, _, _⟩ := cell4 gF
  exact bodyPost_ret (v := .tuple #[.agg #[.int .i64 m1, .int .i64 m2, .int .i64 m3, .int .i64 m4], .bool ok]) (by simp [results, Try.results47, go_sem, z0, z1, z2, z3]) rfl ⟨rfl, hbF⟩
set_option maxHeartbeats 1000000 in
theorem spec_ShapeBox (k : Int) (a : Option Addr) (cap : Nat) (ps : List (Int × Int)) (w : World) (hm : ps.length ≤ 1099511627776) (hc : ps.length ≤ cap) (h : Pts w a ps) : Calls Try.prog 102 #[shv k a ps.length cap] w fun e w' => e = .returned (.tuple #[.agg #[.int .i64 (sv aX k ps), .int .i64 (sv aY k ps), .int .i64 (sv bX k ps), .int .i64 (sv bY' k ps)], .bool (shok k ps && aok ps)]) ∧ Below w.heap.size w w' := by
  have hok := fun w' (hw : Pts w' a ps) => spec_ShapeOk k a cap ps w' hm hc hw
  have hba := fun w' (hw : Pts w' a ps) => spec_BoxAround a cap ps w' hm hc hw
  have Hh := hid h
  clear h
  cases hs : shok k ps
  · have v : ∀ f : List (Int × Int) → Int, sv f k ps = 0 := by intro f; unfold sv; rw [hs]; rfl
    rw [v aX, v aY, v bX, v bY']
    rw [hs] at hok
    have Hok := hid hok
    clear hok hba v hs
    go_enter Try.func102, Try.ntmps102
    go_wp2_with fail
    refine (Hok.out _ (Hh.out.below ?_)).mono ?_
    · (repeat (first | with_reducible exact Below.refl _ _ | with_reducible assumption | (with_reducible refine btrans ?_ (by with_reducible assumption)) | with_reducible refine bdrew ?_ | with_reducible refine balloc ?_ _))
    rintro e w1 ⟨rfl, hb1⟩
    have gz : w1.heap[w.heap.size + 1]? = some (.cells #[.int .i64 0, .int .i64 0, .int .i64 0, .int .i64 0] 32 (0, 0)) := by (repeat (first | with_reducible assumption | (refine new_alloc _ _ _ ?_; simp; done) | refine keepheap2 (by with_reducible assumption) ?_ | refine keephdrew2 ?_ | refine old_alloc ?_))
    obtain ⟨i0, i1, i2, i3, j0, j1, j2, j3⟩ := cell4 gz
    have Gz := hid gz
    clear gz
    go_wp2_with fail
    obtain ⟨gF, hbF⟩ := set4 (w := w) Gz.out (by (repeat (first | with_reducible exact Below.refl _ _ | with_reducible assumption | (with_reducible refine btrans ?_ (by with_reducible assumption)) | with_reducible refine bdrew ?_ | with_reducible refine balloc ?_ _))) (show w.heap.size ≤ w.heap.size + 1 by omega) (.int .i64 0) (.int .i64 0) (.int .i64 0) (.int .i64 0)
    generalize ((((w1.setCell ⟨w.heap.size + 1, 0, none⟩ (.int .i64 0)).setCell ⟨w.heap.size + 1, 1, none⟩ (.int .i64 0)).setCell ⟨w.heap.size + 1, 2, none⟩ (.int .i64 0)).setCell ⟨w.heap.size + 1, 3, none⟩ (.int .i64 0)) = wf at gF hbF ⊢
    obtain ⟨z0, z1, z2, z3, _, _, _, _⟩ := cell4 gF
    exact bodyPost_ret (v := .tuple #[.agg #[.int .i64 0, .int .i64 0, .int .i64 0, .int .i64 0], .bool false]) (by simp [results, Try.results102, go_sem, z0, z1, z2, z3]) rfl ⟨rfl, hbF⟩
  have v : ∀ f : List (Int × Int) → Int, sv f k ps = f ps := by intro f; unfold sv; rw [hs]; rfl
  rw [v aX, v aY, v bX, v bY', Bool.true_and]
  rw [hs] at hok
  generalize aX ps = m1 at *
  generalize aY ps = m2 at *
  generalize bX ps = m3 at *
  generalize bY' ps = m4 at *
  generalize aok ps = ok at *
  have Hok := hid hok
  have Hba := hid hba
  clear hok hba v hs
  go_enter Try.func102, Try.ntmps102
  go_wp2_with fail
  refine (Hok.out _ (Hh.out.below ?_)).mono ?_
  · (repeat (first | with_reducible exact Below.refl _ _ | with_reducible assumption | (with_reducible refine btrans ?_ (by with_reducible assumption)) | with_reducible refine bdrew ?_ | with_reducible refine balloc ?_ _))
  rintro e w1 ⟨rfl, hb1⟩
  have q0 : w1.cell? ⟨w.heap.size, 0, none⟩ = some (.int .i64 k) := by (repeat (first | with_reducible assumption | (refine newcell _ _ _ _ _ _ ?_ rfl; simp; done) | refine keepcell (by with_reducible assumption) ?_ | refine keepdrew ?_ | refine keepalloc ?_ _))
  have q1 : w1.cell? ⟨w.heap.size, 1, none⟩ = some (.slice a ps.length cap) := by (repeat (first | with_reducible assumption | (refine newcell _ _ _ _ _ _ ?_ rfl; simp; done) | refine keepcell (by with_reducible assumption) ?_ | refine keepdrew ?_ | refine keepalloc ?_ _))
  have gz : w1.heap[w.heap.size + 1]? = some (.cells #[.int .i64 0, .int .i64 0, .int .i64 0, .int .i64 0] 32 (0, 0)) := by (repeat (first | with_reducible assumption | (refine new_alloc _ _ _ ?_; simp; done) | refine keepheap2 (by with_reducible assumption) ?_ | refine keephdrew2 ?_ | refine old_alloc ?_))
  have Gz1 := hid gz
  clear gz
  go_wp2_with fail
  refine (Hba.out _ (Hh.out.below ?_)).mono ?_
  · (repeat (first | with_reducible exact Below.refl _ _ | with_reducible assumption | (with_reducible refine btrans ?_ (by with_reducible assumption)) | with_reducible refine bdrew ?_ | with_reducible refine balloc ?_ _))
  rintro e w2 ⟨rfl, hb2⟩
  have gz := keepheap2 hb2 Gz1.out
  obtain ⟨i0, i1, i2, i3, j0, j1, j2, j3⟩ := cell4 gz
  have Gz := hid gz
  clear gz
  go_wp2_with fail
  obtain ⟨gF, hbF⟩ := set4 (w := w) Gz.out (by (repeat (first | with_reducible exact Below.refl _ _ | with_reducible assumption | (with_reducible refine btrans ?_ (by with_reducible assumption)) | with_reducible refine bdrew ?_ | with_reducible refine balloc ?_ _))) (show w.heap.size ≤ w.heap.size + 1 by omega) (.int .i64 m1) (.int .i64 m2) (.int .i64 m3) (.int .i64 m4)
  generalize ((((w2.setCell ⟨w.heap.size + 1, 0, none⟩ (.int .i64 m1)).setCell ⟨w.heap.size + 1, 1, none⟩ (.int .i64 m2)).setCell ⟨w.heap.size + 1, 2, none⟩ (.int .i64 m3)).setCell ⟨w.heap.size + 1, 3, none⟩ (.int .i64 m4)) = wf at gF hbF ⊢
  obtain ⟨z0, z1, z2, z3, _, _, _, _⟩ := cell4 gF
  exact bodyPost_ret (v := .tuple #[.agg #[.int .i64 m1, .int .i64 m2, .int .i64 m3, .int .i64 m4], .bool ok]) (by simp [results, Try.results102, go_sem, z0, z1, z2, z3]) rfl ⟨rfl, hbF⟩
theorem impl_BoxHas2 (a b c d e f g h : Int) (w : World) : Calls Try.prog 29 #[.agg #[.int .i64 a, .int .i64 b, .int .i64 c, .int .i64 d], .agg #[.int .i64 e, .int .i64 f, .int .i64 g, .int .i64 h]] w fun e' w' => e' = .returned (.bool (bok a b c d && bok e f g h && hasbx a b c d e f g h)) ∧ Below w.heap.size w w' := by
  have hsame : (bok a b c d && bok e f g h && (hasb a b c d e f && hasb a b c d g h)) = (bok a b c d && bok e f g h && hasbx a b c d e f g h) := by
    cases hB : bok e f g h
    · simp
    · obtain ⟨_, _, _, _, h5, h6⟩ := bok_le hB
      rw [has_same h5 h6]
  rw [← hsame]
  exact impl_BoxHas a b c d e f g h w
set_option maxHeartbeats 1000000 in
theorem impl_ShapeIn (k : Int) (bx0 by0 bx1 by1 : Int) (a : Option Addr) (cap : Nat) (ps : List (Int × Int)) (w : World) (hm : ps.length ≤ 1099511627776) (hc : ps.length ≤ cap) (h : Pts w a ps) : Calls Try.prog 53 #[shv k a ps.length cap, .agg #[.int .i64 bx0, .int .i64 by0, .int .i64 bx1, .int .i64 by1]] w fun e w' => e = .returned (.bool ((shok k ps && aok ps) && hasv bx0 by0 bx1 by1 (sv aX k ps) (sv aY k ps) (sv bX k ps) (sv bY' k ps))) ∧ Below w.heap.size w w' := by
  have hsb := fun w' (hw : Pts w' a ps) => impl_ShapeBox k a cap ps w' hm hc hw
  have hbh := fun w' => impl_BoxHas2 bx0 by0 bx1 by1 (sv aX k ps) (sv aY k ps) (sv bX k ps) (sv bY' k ps) w'
  have hvv : (bok bx0 by0 bx1 by1 && bok (sv aX k ps) (sv aY k ps) (sv bX k ps) (sv bY' k ps) && hasbx bx0 by0 bx1 by1 (sv aX k ps) (sv aY k ps) (sv bX k ps) (sv bY' k ps)) = hasv bx0 by0 bx1 by1 (sv aX k ps) (sv aY k ps) (sv bX k ps) (sv bY' k ps) := rfl
  rw [hvv] at hbh
  clear hvv
  generalize hasv bx0 by0 bx1 by1 (sv aX k ps) (sv aY k ps) (sv bX k ps) (sv bY' k ps) = hv at *
  generalize sv aX k ps = m1 at *
  generalize sv aY k ps = m2 at *
  generalize sv bX k ps = m3 at *
  generalize sv bY' k ps = m4 at *
  generalize (shok k ps && aok ps) = ok at *
  have Hh := hid h
  have Hsb := hid hsb
  have Hbh := hid hbh
  clear h hsb hbh
  cases ok
  · go_enter Try.func53, Try.ntmps53
    go_wp2_with fail
    refine (Hsb.out _ (Hh.out.below ?_)).mono ?_
    · (repeat (first | with_reducible exact Below.refl _ _ | with_reducible assumption | (with_reducible refine btrans ?_ (by with_reducible assumption)) | with_reducible refine bdrew ?_ | with_reducible refine balloc ?_ _))
    rintro e w1 ⟨rfl, hb1⟩
    go_wp2_with fail
    go_ret
    exact ⟨rfl, by (repeat (first | with_reducible exact Below.refl _ _ | with_reducible assumption | (with_reducible refine btrans ?_ (by with_reducible assumption)) | with_reducible refine bdrew ?_ | with_reducible refine balloc ?_ _))⟩
  · go_enter Try.func53, Try.ntmps53
    go_wp2_with fail
    refine (Hsb.out _ (Hh.out.below ?_)).mono ?_
    · (repeat (first | with_reducible exact Below.refl _ _ | with_reducible assumption | (with_reducible refine btrans ?_ (by with_reducible assumption)) | with_reducible refine bdrew ?_ | with_reducible refine balloc ?_ _))
    rintro e w1 ⟨rfl, hb1⟩
    have q0 : w1.cell? ⟨w.heap.size + 1, 0, none⟩ = some (.int .i64 bx0) := by (repeat (first | with_reducible assumption | (refine newcell _ _ _ _ _ _ ?_ rfl; simp; done) | refine keepcell (by with_reducible assumption) ?_ | refine keepdrew ?_ | refine keepalloc ?_ _))
    have q1 : w1.cell? ⟨w.heap.size + 1, 1, none⟩ = some (.int .i64 by0) := by (repeat (first | with_reducible assumption | (refine newcell _ _ _ _ _ _ ?_ rfl; simp; done) | refine keepcell (by with_reducible assumption) ?_ | refine keepdrew ?_ | refine keepalloc ?_ _))
    have q2 : w1.cell? ⟨w.heap.size + 1, 2, none⟩ = some (.int .i64 bx1) := by (repeat (first | with_reducible assumption | (refine newcell _ _ _ _ _ _ ?_ rfl; simp; done) | refine keepcell (by with_reducible assumption) ?_ | refine keepdrew ?_ | refine keepalloc ?_ _))
    have q3 : w1.cell? ⟨w.heap.size + 1, 3, none⟩ = some (.int .i64 by1) := by (repeat (first | with_reducible assumption | (refine newcell _ _ _ _ _ _ ?_ rfl; simp; done) | refine keepcell (by with_reducible assumption) ?_ | refine keepdrew ?_ | refine keepalloc ?_ _))
    have hl1 : w.heap.size + 1 < w1.heap.size := World.block_lt_of_cell? w1 _ q0
    go_wp2_with fail
    refine (Hbh.out _).mono ?_
    rintro e w2 ⟨rfl, hb2⟩
    go_wp2_with fail
    go_ret
    exact ⟨rfl, by (repeat (first | with_reducible exact Below.refl _ _ | with_reducible assumption | (with_reducible refine btrans ?_ (by with_reducible assumption)) | with_reducible refine bdrew ?_ | with_reducible refine balloc ?_ _))⟩
set_option maxHeartbeats 1000000 in
theorem spec_ShapeIn (k : Int) (bx0 by0 bx1 by1 : Int) (a : Option Addr) (cap : Nat) (ps : List (Int × Int)) (w : World) (hm : ps.length ≤ 1099511627776) (hc : ps.length ≤ cap) (h : Pts w a ps) : Calls Try.prog 59 #[shv k a ps.length cap, .agg #[.int .i64 bx0, .int .i64 by0, .int .i64 bx1, .int .i64 by1]] w fun e w' => e = .returned (.bool ((shok k ps && aok ps) && hasv bx0 by0 bx1 by1 (sv aX k ps) (sv aY k ps) (sv bX k ps) (sv bY' k ps))) ∧ Below w.heap.size w w' := by
  have hsb := fun w' (hw : Pts w' a ps) => spec_ShapeBox k a cap ps w' hm hc hw
  have hbh := fun w' => spec_BoxHas bx0 by0 bx1 by1 (sv aX k ps) (sv aY k ps) (sv bX k ps) (sv bY' k ps) w'
  have hvv : (bok bx0 by0 bx1 by1 && bok (sv aX k ps) (sv aY k ps) (sv bX k ps) (sv bY' k ps) && hasbx bx0 by0 bx1 by1 (sv aX k ps) (sv aY k ps) (sv bX k ps) (sv bY' k ps)) = hasv bx0 by0 bx1 by1 (sv aX k ps) (sv aY k ps) (sv bX k ps) (sv bY' k ps) := rfl
  rw [hvv] at hbh
  clear hvv
  generalize hasv bx0 by0 bx1 by1 (sv aX k ps) (sv aY k ps) (sv bX k ps) (sv bY' k ps) = hv at *
  generalize sv aX k ps = m1 at *
  generalize sv aY k ps = m2 at *
  generalize sv bX k ps = m3 at *
  generalize sv bY' k ps = m4 at *
  generalize (shok k ps && aok ps) = ok at *
  have Hh := hid h
  have Hsb := hid hsb
  have Hbh := hid hbh
  clear h hsb hbh
  cases ok
  · go_enter Try.func59, Try.ntmps59
    go_wp2_with fail
    refine (Hsb.out _ (Hh.out.below ?_)).mono ?_
    · (repeat (first | with_reducible exact Below.refl _ _ | with_reducible assumption | (with_reducible refine btrans ?_ (by with_reducible assumption)) | with_reducible refine bdrew ?_ | with_reducible refine balloc ?_ _))
    rintro e w1 ⟨rfl, hb1⟩
    go_wp2_with fail
    go_ret
    exact ⟨rfl, by (repeat (first | with_reducible exact Below.refl _ _ | with_reducible assumption | (with_reducible refine btrans ?_ (by with_reducible assumption)) | with_reducible refine bdrew ?_ | with_reducible refine balloc ?_ _))⟩
  · go_enter Try.func59, Try.ntmps59
    go_wp2_with fail
    refine (Hsb.out _ (Hh.out.below ?_)).mono ?_
    · (repeat (first | with_reducible exact Below.refl _ _ | with_reducible assumption | (with_reducible refine btrans ?_ (by with_reducible assumption)) | with_reducible refine bdrew ?_ | with_reducible refine balloc ?_ _))
    rintro e w1 ⟨rfl, hb1⟩
    have q0 : w1.cell? ⟨w.heap.size + 1, 0, none⟩ = some (.int .i64 bx0) := by (repeat (first | with_reducible assumption | (refine newcell _ _ _ _ _ _ ?_ rfl; simp; done) | refine keepcell (by with_reducible assumption) ?_ | refine keepdrew ?_ | refine keepalloc ?_ _))
    have q1 : w1.cell? ⟨w.heap.size + 1, 1, none⟩ = some (.int .i64 by0) := by (repeat (first | with_reducible assumption | (refine newcell _ _ _ _ _ _ ?_ rfl; simp; done) | refine keepcell (by with_reducible assumption) ?_ | refine keepdrew ?_ | refine keepalloc ?_ _))
    have q2 : w1.cell? ⟨w.heap.size + 1, 2, none⟩ = some (.int .i64 bx1) := by (repeat (first | with_reducible assumption | (refine newcell _ _ _ _ _ _ ?_ rfl; simp; done) | refine keepcell (by with_reducible assumption) ?_ | refine keepdrew ?_ | refine keepalloc ?_ _))
    have q3 : w1.cell? ⟨w.heap.size + 1, 3, none⟩ = some (.int .i64 by1) := by (repeat (first | with_reducible assumption | (refine newcell _ _ _ _ _ _ ?_ rfl; simp; done) | refine keepcell (by with_reducible assumption) ?_ | refine keepdrew ?_ | refine keepalloc ?_ _))
    have hl1 : w.heap.size + 1 < w1.heap.size := World.block_lt_of_cell? w1 _ q0
    go_wp2_with fail
    refine (Hbh.out _).mono ?_
    rintro e w2 ⟨rfl, hb2⟩
    go_wp2_with fail
    go_ret
    exact ⟨rfl, by (repeat (first | with_reducible exact Below.refl _ _ | with_reducible assumption | (with_reducible refine btrans ?_ (by with_reducible assumption)) | with_reducible refine bdrew ?_ | with_reducible refine balloc ?_ _))⟩
end Go.Proofs.Ytkncdncpgjpemaa
