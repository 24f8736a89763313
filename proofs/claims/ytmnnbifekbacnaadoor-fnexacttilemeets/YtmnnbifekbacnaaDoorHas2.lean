/- Whether a figure has a point: the landed ones, and ShapeHas. -/
import Derived.Test.YtmnnbifekbacnaaDoorHas
namespace Go.Proofs.YtmnnbifekbacnaaDoor
open Go.RowKit
set_option linter.unusedSimpArgs false
set_option linter.unusedVariables false
theorem ok_b (x y : Int) (w : World) : Calls Tryd.prog 59 #[.agg #[.int .i64 x, .int .i64 y]] w fun e w' => e = .returned (.bool (pok x y)) ∧ Below w.heap.size w w' :=
  (impl_ok x y w).mono fun e w' ⟨h1, h2⟩ => ⟨h1, by subst h2; exact balloc (Below.refl _ _) _⟩
set_option maxHeartbeats 1000000 in
theorem dot_has (x y : Int) (px py : Int) (a : Option Addr) (cap : Nat) (w : World) (h : Pts w a [(x, y)]) : Calls Tryd.prog 80 #[.slice a 1 cap, .agg #[.int .i64 px, .int .i64 py]] w fun e w' => e = .returned (.bool (x == px && y == py)) ∧ Below w.heap.size w w' := by
  obtain ⟨b, off, rfl, hbs, hp⟩ : ∃ b off, a = some ⟨b, off, none⟩ ∧ b < w.heap.size ∧ PtsAt w b off [(x, y)] := by
    rcases h with h | h
    · cases h
    · exact h
  obtain ⟨c0, c1⟩ := hp 0 (by simp)
  simp only [Nat.zero_mul, Nat.add_zero, List.getD_cons_zero] at c0 c1
  have Hp := hid hp
  clear hp h
  generalize hu : px = u
  generalize hv : py = v
  clear hu hv
  by_cases hx : x = u
  · subst hx
    by_cases hy : y = v
    · subst hy
      go_enter Tryd.func80, Tryd.ntmps80
      go_wp2_with fail
      go_region_held3 (fun w' => w'.cell? ⟨b, off, none⟩ = some (.int .i64 x) ∧ w'.cell? ⟨b, off + 1, none⟩ = some (.int .i64 y) ∧ w'.cell? ⟨w.heap.size, 0, none⟩ = some (.int .i64 x) ∧ w'.cell? ⟨w.heap.size, 1, none⟩ = some (.int .i64 y)) ((go_split_ands; (repeat' apply And.intro) <;> (repeat (first | with_reducible assumption | (refine newcell _ _ _ _ _ _ ?_ rfl; simp; done) | refine keepcell (by with_reducible assumption) ?_ | refine keepdrew ?_ | refine keepalloc ?_ _))))
        (first
          | (fail))
      go_wp2_with fail
      go_ret
      exact ⟨by first | rfl | simp, by (repeat (first | with_reducible exact Below.refl _ _ | with_reducible assumption | (with_reducible refine btrans ?_ (by with_reducible assumption)) | with_reducible refine bdrew ?_ | with_reducible refine balloc ?_ _))⟩
    · have hy' : (y == v) = false := by rw [beq_eq_false_iff_ne]; exact hy
      go_enter Tryd.func80, Tryd.ntmps80
      go_wp2_with fail
      go_region_held3 (fun w' => w'.cell? ⟨b, off, none⟩ = some (.int .i64 x) ∧ w'.cell? ⟨b, off + 1, none⟩ = some (.int .i64 y) ∧ w'.cell? ⟨w.heap.size, 0, none⟩ = some (.int .i64 x) ∧ w'.cell? ⟨w.heap.size, 1, none⟩ = some (.int .i64 v)) ((go_split_ands; (repeat' apply And.intro) <;> (repeat (first | with_reducible assumption | (refine newcell _ _ _ _ _ _ ?_ rfl; simp; done) | refine keepcell (by with_reducible assumption) ?_ | refine keepdrew ?_ | refine keepalloc ?_ _))))
        (first
          | (fail))
      go_wp2_with fail
      go_ret
      exact ⟨by first | rfl | simp [*], by (repeat (first | with_reducible exact Below.refl _ _ | with_reducible assumption | (with_reducible refine btrans ?_ (by with_reducible assumption)) | with_reducible refine bdrew ?_ | with_reducible refine balloc ?_ _))⟩
  · have hx' : (x == u) = false := by rw [beq_eq_false_iff_ne]; exact hx
    go_enter Tryd.func80, Tryd.ntmps80
    go_wp2_with fail
    go_region_held3 (fun w' => w'.cell? ⟨b, off, none⟩ = some (.int .i64 x) ∧ w'.cell? ⟨b, off + 1, none⟩ = some (.int .i64 y) ∧ w'.cell? ⟨w.heap.size, 0, none⟩ = some (.int .i64 u) ∧ w'.cell? ⟨w.heap.size, 1, none⟩ = some (.int .i64 v)) ((go_split_ands; (repeat' apply And.intro) <;> (repeat (first | with_reducible assumption | (refine newcell _ _ _ _ _ _ ?_ rfl; simp; done) | refine keepcell (by with_reducible assumption) ?_ | refine keepdrew ?_ | refine keepalloc ?_ _))))
      (first
        | (fail))
    go_wp2_with fail
    go_ret
    exact ⟨by first | rfl | simp [*], by (repeat (first | with_reducible exact Below.refl _ _ | with_reducible assumption | (with_reducible refine btrans ?_ (by with_reducible assumption)) | with_reducible refine bdrew ?_ | with_reducible refine balloc ?_ _))⟩
set_option maxHeartbeats 1000000 in
theorem path_has (px py : Int) (a : Option Addr) (cap : Nat) (ps : List (Int × Int)) (w : World) (hm : ps.length ≤ 1099511627776) (hc : ps.length ≤ cap) (h : Pts w a ps) (h1 : 1 ≤ ps.length) (hi1 : In px) (hi2 : In py) (ha : allok ps = true) : Calls Tryd.prog 82 #[.slice a ps.length cap, .agg #[.int .i64 px, .int .i64 py]] w fun e w' => e = .returned (.bool (anyOn px py (alongSides ps) (alongSides ps).length)) ∧ Below w.heap.size w w' := by
  have hsa := fun w' (hw : Pts w' a ps) => sides_along a cap ps w' hm hc hw h1
  have hin := along_in ha
  have hlen : (alongSides ps).length ≤ 1099511627776 := by rw [along_len]; omega
  generalize alongSides ps = qs at *
  have Hsa := hid hsa
  have Hh := hid h
  clear hsa h
  go_enter Tryd.func82, Tryd.ntmps82
  go_wp2_with fail
  refine (Hsa.out _ (Hh.out.below ?_)).mono ?_
  · (repeat (first | with_reducible exact Below.refl _ _ | with_reducible assumption | (with_reducible refine btrans ?_ (by with_reducible assumption)) | with_reducible refine bdrew ?_ | with_reducible refine balloc ?_ _))
  rintro e w1 ⟨b, rfl, hg, hl, hq, hb1⟩
  have q0 : w1.cell? ⟨w.heap.size, 0, none⟩ = some (.int .i64 px) := by (repeat (first | with_reducible assumption | (refine newcell _ _ _ _ _ _ ?_ rfl; simp; done) | refine keepcell (by with_reducible assumption) ?_ | refine keepdrew ?_ | refine keepalloc ?_ _))
  have q1 : w1.cell? ⟨w.heap.size, 1, none⟩ = some (.int .i64 py) := by (repeat (first | with_reducible assumption | (refine newcell _ _ _ _ _ _ ?_ rfl; simp; done) | refine keepcell (by with_reducible assumption) ?_ | refine keepdrew ?_ | refine keepalloc ?_ _))
  have hB1 : Below w.heap.size w w1 := by (repeat (first | with_reducible exact Below.refl _ _ | with_reducible assumption | (with_reducible refine btrans ?_ (by with_reducible assumption)) | with_reducible refine bdrew ?_ | with_reducible refine balloc ?_ _))
  have Hq := hid hq
  simp at hg
  clear hq hb1
  go_wp2_with fail
  go_loopw [10] (fun ti wr => ∃ k : Nat, ti = .int .i64 k ∧ k ≤ qs.length ∧ Below w1.heap.size w1 wr ∧ Hid (anyOn px py qs k = false)) (fun ti _ => qs.length - (intOf ti).toNat)
  case atStart => exact ⟨0, rfl, Nat.zero_le _, Below.refl _ _, hid rfl⟩
  case round =>
    obtain ⟨k, rfl, hk, hb, H⟩ := hrel
    by_cases hlt : k < qs.length
    · obtain ⟨c0, c1, c2, c3⟩ := Hq.out.below hl hb k hlt
      simp only [Nat.zero_add] at c0 c1 c2 c3
      obtain ⟨i3, i4, i5, i6⟩ := hin k hlt
      have hsh := fun w' => side_has (qs.getD k (0, 0, 0, 0)).1 (qs.getD k (0, 0, 0, 0)).2.1 (qs.getD k (0, 0, 0, 0)).2.2.1 (qs.getD k (0, 0, 0, 0)).2.2.2 px py i3 i4 i5 i6 hi1 hi2 w'
      have hst : anyOn px py qs (k + 1) = (anyOn px py qs k || onb px py (qs.getD k (0, 0, 0, 0)).1 (qs.getD k (0, 0, 0, 0)).2.1 (qs.getD k (0, 0, 0, 0)).2.2.1 (qs.getD k (0, 0, 0, 0)).2.2.2) := rfl
      rw [H.out, Bool.false_or] at hst
      generalize onb px py (qs.getD k (0, 0, 0, 0)).1 (qs.getD k (0, 0, 0, 0)).2.1 (qs.getD k (0, 0, 0, 0)).2.2.1 (qs.getD k (0, 0, 0, 0)).2.2.2 = on at *
      generalize (qs.getD k (0, 0, 0, 0)).1 = afx at *
      generalize (qs.getD k (0, 0, 0, 0)).2.1 = afy at *
      generalize (qs.getD k (0, 0, 0, 0)).2.2.1 = atx at *
      generalize (qs.getD k (0, 0, 0, 0)).2.2.2 = aty at *
      have Hsh := hid hsh
      have Hst := hid hst
      have p0 := keepcell hb q0
      have p1 := keepcell hb q1
      have hz0 : w.heap.size < wr.heap.size := World.block_lt_of_cell? wr _ p0
      clear hsh hst i3 i4 i5 i6
      go_wp2_with fail
      refine (Hsh.out _).mono ?_
      rintro e w2 ⟨rfl, hb2⟩
      cases on
      · go_wp2_with fail
        go_roundw
        case rel => exact ⟨k + 1, by go_num, by omega, by (repeat (first | with_reducible exact Below.refl _ _ | with_reducible assumption | (with_reducible refine btrans ?_ (by with_reducible assumption)) | with_reducible refine bdrew ?_ | with_reducible refine balloc ?_ _)), hid Hst.out⟩
        case measure => simp [intOf]; omega
      · go_wp2_with fail
        go_ret
        exact ⟨by rw [any_mono Hst.out _ (by omega)]; rfl, by (repeat (first | with_reducible exact Below.refl _ _ | with_reducible assumption | (with_reducible refine btrans ?_ (by with_reducible assumption)) | with_reducible refine bdrew ?_ | with_reducible refine balloc ?_ _))⟩
    · obtain rfl : k = qs.length := by omega
      go_wp2_with fail
      go_ret
      exact ⟨by rw [H.out]; rfl, by (repeat (first | with_reducible exact Below.refl _ _ | with_reducible assumption | (with_reducible refine btrans ?_ (by with_reducible assumption)) | with_reducible refine bdrew ?_ | with_reducible refine balloc ?_ _))⟩
set_option maxHeartbeats 1000000 in
theorem block_has (x y u v : Int) (px py : Int) (a : Option Addr) (cap : Nat) (w : World) (hc : 2 ≤ cap) (h : Pts w a [(x, y), (u, v)]) : Calls Tryd.prog 87 #[.slice a 2 cap, .agg #[.int .i64 px, .int .i64 py]] w fun e w' => e = .returned (.bool (hasb x y u v px py)) ∧ Below w.heap.size w w' := by
  have hbb := fun w' (hw : Pts w' a [(x, y), (u, v)]) => block_box a cap x y u v w' hc hw
  have Hbb := hid hbb
  have Hh := hid h
  clear hbb h
  go_enter Tryd.func87, Tryd.ntmps87
  go_wp2_with fail
  go_region_held3 (fun w' => w'.cell? ⟨w.heap.size, 0, none⟩ = some (.int .i64 px) ∧ w'.cell? ⟨w.heap.size, 1, none⟩ = some (.int .i64 py)) ((go_split_ands; (repeat' apply And.intro) <;> (repeat (first | with_reducible assumption | (refine newcell _ _ _ _ _ _ ?_ rfl; simp; done) | refine keepcell (by with_reducible assumption) ?_ | refine keepdrew ?_ | refine keepalloc ?_ _))))
    (first
      | (go_at_call 89; refine (Hbb.out _ (Hh.out.below ?_)).mono ?_; (show Below _ _ _; (repeat (first | with_reducible exact Below.refl _ _ | with_reducible assumption | (with_reducible refine btrans ?_ (by with_reducible assumption)) | with_reducible refine bdrew ?_ | with_reducible refine balloc ?_ _))); rintro e v1 ⟨rfl, hbv1⟩)
      | (go_at_call 86; refine (impl_has _ _ _ _ _ _ _).mono ?_; rintro e v2 ⟨rfl, hbv2⟩))
  go_wp2_with fail
  go_ret
  exact ⟨rfl, by (repeat (first | with_reducible exact Below.refl _ _ | with_reducible assumption | (with_reducible refine btrans ?_ (by with_reducible assumption)) | with_reducible refine bdrew ?_ | with_reducible refine balloc ?_ _))⟩
theorem ring_has (px py : Int) (a : Option Addr) (cap : Nat) (ps : List (Int × Int)) (w : World) (hm : ps.length ≤ 1099511627776) (hc : ps.length ≤ cap) (h : Pts w a ps) (hi1 : In px) (hi2 : In py) (ha : allok ps = true) : Calls Tryd.prog 90 #[.slice a ps.length cap, .agg #[.int .i64 px, .int .i64 py]] w fun e w' => e = .returned (.bool (ringv px py ps != 0)) ∧ Below w.heap.size w w' := by
  have hir := fun w' (hw : Pts w' a ps) => impl_inring px py a cap ps w' hi1 hi2 ha hm hc hw
  generalize ringv px py ps = rv at *
  have Hir := hid hir
  have Hh := hid h
  clear hir h
  go_enter Tryd.func90, Tryd.ntmps90
  go_wp2_with fail
  refine (Hir.out _ (Hh.out.below ?_)).mono ?_
  · (repeat (first | with_reducible exact Below.refl _ _ | with_reducible assumption | (with_reducible refine btrans ?_ (by with_reducible assumption)) | with_reducible refine bdrew ?_ | with_reducible refine balloc ?_ _))
  rintro e w1 ⟨rfl, hb1⟩
  go_wp2_with fail
  go_ret
  exact ⟨rfl, by (repeat (first | with_reducible exact Below.refl _ _ | with_reducible assumption | (with_reducible refine btrans ?_ (by with_reducible assumption)) | with_reducible refine bdrew ?_ | with_reducible refine balloc ?_ _))⟩
end Go.Proofs.YtmnnbifekbacnaaDoor
