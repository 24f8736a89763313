/- The box of a shape, and whether a shape is in a box. -/
import Derived.Test.YtpgcnadmhbjlgaaGreatShLaw
import Derived.Test.YtpgcnadmhbjlgaaGreatGeo9
namespace Go.Proofs.YtpgcnadmhbjlgaaGreat
open Go.RowKit
set_option linter.unusedSimpArgs false
set_option linter.unusedVariables false
def sv (f : List (Int × Int) → Int) (k : Int) (ps : List (Int × Int)) : Int := if shok k ps = true then f ps else 0
def hasv (a b c d e f g h : Int) : Bool := bok a b c d && bok e f g h && hasbx a b c d e f g h
set_option maxHeartbeats 1000000 in
theorem spec_ShapeBox (k : Int) (a : Option Addr) (cap : Nat) (ps : List (Int × Int)) (w : World) (hm : ps.length ≤ 1099511627776) (hc : ps.length ≤ cap) (h : Pts w a ps) : Calls Tryz.prog 27 #[shv k a ps.length cap] w fun e w' => e = .returned (.tuple #[.agg #[.int .i64 (sv aX k ps), .int .i64 (sv aY k ps), .int .i64 (sv bX k ps), .int .i64 (sv bY' k ps)], .bool (shok k ps && aok ps)]) ∧ Below w.heap.size w w' := by
  have hok := fun w' (hw : Pts w' a ps) => spec_ShapeOk k a cap ps w' hm hc hw
  have hba := fun w' (hw : Pts w' a ps) => spec_BoxAround a cap ps w' hm hc hw
  have Hh := hid h
  clear h
  cases hs : shok k ps
  · have v : ∀ f : List (Int × Int) → Int, sv f k ps = 0 := by intro f; unfold sv; rw [hs]; rfl
    rw [v aX, v aY, v bX, v bY']
    rw [hs] at hok
    have Hok := hid hok
    clear hok hba v hs
    go_enter Tryz.func27, Tryz.ntmps27
    go_wp2_with fail
    refine (Hok.out _ (Hh.out.below ?_)).mono ?_
    · (repeat (first | with_reducible exact Below.refl _ _ | with_reducible assumption | (with_reducible refine btrans ?_ (by with_reducible assumption)) | with_reducible refine bdrew ?_ | with_reducible refine balloc ?_ _))
    rintro e w1 ⟨rfl, hb1⟩
    have gz : w1.heap[w.heap.size + 1]? = some (.cells #[.int .i64 0, .int .i64 0, .int .i64 0, .int .i64 0] 38 (0, 0)) := by (repeat (first | with_reducible assumption | (refine new_alloc _ _ _ ?_; simp; done) | refine keepheap2 (by with_reducible assumption) ?_ | refine keephdrew2 ?_ | refine old_alloc ?_))
    obtain ⟨i0, i1, i2, i3, j0, j1, j2, j3⟩ := cell4 gz
    have Gz := hid gz
    clear gz
    go_wp2_with fail
    obtain ⟨gF, hbF⟩ := set4 (w := w) Gz.out (by (repeat (first | with_reducible exact Below.refl _ _ | with_reducible assumption | (with_reducible refine btrans ?_ (by with_reducible assumption)) | with_reducible refine bdrew ?_ | with_reducible refine balloc ?_ _))) (show w.heap.size ≤ w.heap.size + 1 by omega) (.int .i64 0) (.int .i64 0) (.int .i64 0) (.int .i64 0)
    generalize ((((w1.setCell ⟨w.heap.size + 1, 0, none⟩ (.int .i64 0)).setCell ⟨w.heap.size + 1, 1, none⟩ (.int .i64 0)).setCell ⟨w.heap.size + 1, 2, none⟩ (.int .i64 0)).setCell ⟨w.heap.size + 1, 3, none⟩ (.int .i64 0)) = wf at gF hbF ⊢
    obtain ⟨z0, z1, z2, z3, _, _, _, _⟩ := cell4 gF
    exact bodyPost_ret (v := .tuple #[.agg #[.int .i64 0, .int .i64 0, .int .i64 0, .int .i64 0], .bool false]) (by simp [results, Tryz.results27, go_sem, z0, z1, z2, z3]) rfl ⟨rfl, hbF⟩
  have v : ∀ f : List (Int × Int) → Int, sv f k ps = f ps := by intro f; unfold sv; rw [hs]; rfl
  rw [v aX, v aY, v bX, v bY', Bool.true_and]
  rw [hs] at hok
  generalize aX ps = m1 at *
  generalize aY ps = m2 at *
  generalize bX ps = m3 at *
  generalize bY' ps = m4 at *
  generalize aok ps = ok at *
  have Hok := hid hok
  have Hba := hid hba
  clear hok hba v hs
  go_enter Tryz.func27, Tryz.ntmps27
  go_wp2_with fail
  refine (Hok.out _ (Hh.out.below ?_)).mono ?_
  · (repeat (first | with_reducible exact Below.refl _ _ | with_reducible assumption | (with_reducible refine btrans ?_ (by with_reducible assumption)) | with_reducible refine bdrew ?_ | with_reducible refine balloc ?_ _))
  rintro e w1 ⟨rfl, hb1⟩
  have q0 : w1.cell? ⟨w.heap.size, 0, none⟩ = some (.int .i64 k) := by (repeat (first | with_reducible assumption | (refine newcell _ _ _ _ _ _ ?_ rfl; simp; done) | refine keepcell (by with_reducible assumption) ?_ | refine keepdrew ?_ | refine keepalloc ?_ _))
  have q1 : w1.cell? ⟨w.heap.size, 1, none⟩ = some (.slice a ps.length cap) := by (repeat (first | with_reducible assumption | (refine newcell _ _ _ _ _ _ ?_ rfl; simp; done) | refine keepcell (by with_reducible assumption) ?_ | refine keepdrew ?_ | refine keepalloc ?_ _))
  have gz : w1.heap[w.heap.size + 1]? = some (.cells #[.int .i64 0, .int .i64 0, .int .i64 0, .int .i64 0] 38 (0, 0)) := by (repeat (first | with_reducible assumption | (refine new_alloc _ _ _ ?_; simp; done) | refine keepheap2 (by with_reducible assumption) ?_ | refine keephdrew2 ?_ | refine old_alloc ?_))
  have Gz1 := hid gz
  clear gz
  go_wp2_with fail
  refine (Hba.out _ (Hh.out.below ?_)).mono ?_
  · (repeat (first | with_reducible exact Below.refl _ _ | with_reducible assumption | (with_reducible refine btrans ?_ (by with_reducible assumption)) | with_reducible refine bdrew ?_ | with_reducible refine balloc ?_ _))
  rintro e w2 ⟨rfl, hb2⟩
  have gz := keepheap2 hb2 Gz1.out
  obtain ⟨i0, i1, i2, i3, j0, j1, j2, j3⟩ := cell4 gz
  have Gz := hid gz
  clear gz
  go_wp2_with fail
  obtain ⟨gF, hbF⟩ := set4 (w := w) Gz.out (by (repeat (first | with_reducible exact Below.refl _ _ | with_reducible assumption | (with_reducible refine btrans ?_ (by with_reducible assumption)) | with_reducible refine bdrew ?_ | with_reducible refine balloc ?_ _))) (show w.heap.size ≤ w.heap.size + 1 by omega) (.int .i64 m1) (.int .i64 m2) (.int .i64 m3) (.int .i64 m4)
  generalize ((((w2.setCell ⟨w.heap.size + 1, 0, none⟩ (.int .i64 m1)).setCell ⟨w.heap.size + 1, 1, none⟩ (.int .i64 m2)).setCell ⟨w.heap.size + 1, 2, none⟩ (.int .i64 m3)).setCell ⟨w.heap.size + 1, 3, none⟩ (.int .i64 m4)) = wf at gF hbF ⊢
  obtain ⟨z0, z1, z2, z3, _, _, _, _⟩ := cell4 gF
  exact bodyPost_ret (v := .tuple #[.agg #[.int .i64 m1, .int .i64 m2, .int .i64 m3, .int .i64 m4], .bool ok]) (by simp [results, Tryz.results27, go_sem, z0, z1, z2, z3]) rfl ⟨rfl, hbF⟩
end Go.Proofs.YtpgcnadmhbjlgaaGreat
