/- The least box around points: the landed function and the specification's. -/
import Derived.Test.YtnaobljoopjhgaaGreatRing2
import Derived.Test.YtnaobljoopjhgaaGreatGeo10
namespace Go.Proofs.YtnaobljoopjhgaaGreat
open Go.RowKit
set_option linter.unusedSimpArgs false
set_option linter.unusedVariables false
def aok (ps : List (Int × Int)) : Bool := !ps.isEmpty && allok ps
def aX (ps : List (Int × Int)) : Int := if aok ps = true then ps.tail.foldl (fun m p => min m p.1) (ps.getD 0 (0, 0)).1 else 0
def aY (ps : List (Int × Int)) : Int := if aok ps = true then ps.tail.foldl (fun m p => min m p.2) (ps.getD 0 (0, 0)).2 else 0
def bX (ps : List (Int × Int)) : Int := if aok ps = true then ps.tail.foldl (fun m p => max m p.1) (ps.getD 0 (0, 0)).1 else 0
def bY' (ps : List (Int × Int)) : Int := if aok ps = true then ps.tail.foldl (fun m p => max m p.2) (ps.getD 0 (0, 0)).2 else 0
theorem keephdrew2 {w : World} {b : Nat} {o : Obj} (h : w.heap[b]? = some o) : w.drew.heap[b]? = some o := h
theorem set4 {w w1 : World} {B : Nat} {o0 o1 o2 o3 : Value} {t : TypeId} (gz : w1.heap[B]? = some (.cells #[o0, o1, o2, o3] t (0, 0))) (hb : Below w.heap.size w w1) (hB : w.heap.size ≤ B) (a b c d : Value) :
    ((((w1.setCell ⟨B, 0, none⟩ a).setCell ⟨B, 1, none⟩ b).setCell ⟨B, 2, none⟩ c).setCell ⟨B, 3, none⟩ d).heap[B]? = some (.cells #[a, b, c, d] t (0, 0)) ∧ Below w.heap.size w ((((w1.setCell ⟨B, 0, none⟩ a).setCell ⟨B, 1, none⟩ b).setCell ⟨B, 2, none⟩ c).setCell ⟨B, 3, none⟩ d) :=
  ⟨set_at (set_at (set_at (set_at gz))), bset (bset (bset (bset hb hB _) hB _) hB _) hB _⟩
theorem a_no {ps : List (Int × Int)} (h : aok ps = false) : aX ps = 0 ∧ aY ps = 0 ∧ bX ps = 0 ∧ bY' ps = 0 := by
  unfold aX aY bX bY'; rw [h]; exact ⟨rfl, rfl, rfl, rfl⟩
theorem PtsAt.tail {w : World} {b off : Nat} {p : Int × Int} {ps : List (Int × Int)} (h : PtsAt w b off (p :: ps)) : PtsAt w b (off + 2) ps := by
  intro k hk
  obtain ⟨h1, h2⟩ := h (k + 1) (by simp; omega)
  simp only [List.getD_cons_succ] at h1 h2
  rw [show off + (k + 1) * 2 = off + 2 + k * 2 by omega] at h1 h2
  exact ⟨h1, h2⟩
set_option maxHeartbeats 1000000 in
theorem impl_BoxAround (a : Option Addr) (cap : Nat) (ps : List (Int × Int)) (w : World) (hm : ps.length ≤ 1099511627776) (hc : ps.length ≤ cap) (h : Pts w a ps) : Calls Tryz.prog 49 #[.slice a ps.length cap] w fun e w' => e = .returned (.tuple #[.agg #[.int .i64 (aX ps), .int .i64 (aY ps), .int .i64 (bX ps), .int .i64 (bY' ps)], .bool (aok ps)]) ∧ Below w.heap.size w w' := by
  rcases ps with _ | ⟨⟨px, py⟩, rest⟩
  · obtain ⟨v1, v2, v3, v4⟩ := a_no (ps := []) rfl
    rw [v1, v2, v3, v4]
    clear v1 v2 v3 v4 h
    go_enter Tryz.func49, Tryz.ntmps49
    go_wp2_with fail
    exact bodyPost_ret (v := .tuple #[.agg #[.int .i64 0, .int .i64 0, .int .i64 0, .int .i64 0], .bool false]) (by simp [results, Tryz.results49, go_sem]) rfl ⟨rfl, by (repeat (first | with_reducible exact Below.refl _ _ | with_reducible assumption | (with_reducible refine btrans ?_ (by with_reducible assumption)) | with_reducible refine bdrew ?_ | with_reducible refine balloc ?_ _))⟩
  have hall := fun w' (hw : Pts w' a ((px, py) :: rest)) => impl_all a cap ((px, py) :: rest) w' hm hc hw
  have hne : (((((px, py) :: rest).length : Nat) : Int) == 0) = false := by rw [beq_eq_false_iff_ne]; simp; omega
  have Hh := hid h
  cases ha : allok ((px, py) :: rest)
  · have hk : aok ((px, py) :: rest) = false := by unfold aok; rw [ha]; rfl
    obtain ⟨v1, v2, v3, v4⟩ := a_no hk
    rw [v1, v2, v3, v4, hk]
    rw [ha] at hall
    have Hall := hid hall
    clear v1 v2 v3 v4 h hk ha hall
    generalize hps : (px, py) :: rest = ps at *
    clear hps
    go_enter Tryz.func49, Tryz.ntmps49
    go_wp2_with fail
    refine (Hall.out _ (Hh.out.below ?_)).mono ?_
    · (repeat (first | with_reducible exact Below.refl _ _ | with_reducible assumption | (with_reducible refine btrans ?_ (by with_reducible assumption)) | with_reducible refine bdrew ?_ | with_reducible refine balloc ?_ _))
    rintro e w1 ⟨rfl, hb1⟩
    have gz : w1.heap[w.heap.size]? = some (.cells #[.int .i64 0, .int .i64 0, .int .i64 0, .int .i64 0] 51 (0, 0)) := by (repeat (first | with_reducible assumption | (refine new_alloc _ _ _ ?_; simp; done) | refine keepheap2 (by with_reducible assumption) ?_ | refine keephdrew2 ?_ | refine old_alloc ?_))
    obtain ⟨i0, i1, i2, i3, j0, j1, j2, j3⟩ := cell4 gz
    have Gz := hid gz
    clear gz
    go_wp2_with fail
    obtain ⟨gF, hbF⟩ := set4 (w := w) Gz.out (by (repeat (first | with_reducible exact Below.refl _ _ | with_reducible assumption | (with_reducible refine btrans ?_ (by with_reducible assumption)) | with_reducible refine bdrew ?_ | with_reducible refine balloc ?_ _))) (show w.heap.size ≤ w.heap.size by omega) (.int .i64 0) (.int .i64 0) (.int .i64 0) (.int .i64 0)
    generalize ((((w1.setCell ⟨w.heap.size, 0, none⟩ (.int .i64 0)).setCell ⟨w.heap.size, 1, none⟩ (.int .i64 0)).setCell ⟨w.heap.size, 2, none⟩ (.int .i64 0)).setCell ⟨w.heap.size, 3, none⟩ (.int .i64 0)) = wf at gF hbF ⊢
    obtain ⟨z0, z1, z2, z3, _, _, _, _⟩ := cell4 gF
    exact bodyPost_ret (v := .tuple #[.agg #[.int .i64 0, .int .i64 0, .int .i64 0, .int .i64 0], .bool false]) (by simp [results, Tryz.results49, go_sem, z0, z1, z2, z3]) rfl ⟨rfl, hbF⟩
  have hk : aok ((px, py) :: rest) = true := by unfold aok; rw [ha]; rfl
  have v1 : rest.foldl (fun m p => min m p.1) px = aX ((px, py) :: rest) := by unfold aX; rw [if_pos hk]; rfl
  have v2 : rest.foldl (fun m p => min m p.2) py = aY ((px, py) :: rest) := by unfold aY; rw [if_pos hk]; rfl
  have v3 : rest.foldl (fun m p => max m p.1) px = bX ((px, py) :: rest) := by unfold bX; rw [if_pos hk]; rfl
  have v4 : rest.foldl (fun m p => max m p.2) py = bY' ((px, py) :: rest) := by unfold bY'; rw [if_pos hk]; rfl
  have hbox := fun (a' : Option Addr) (cap' : Nat) w' (hc' : rest.length ≤ cap') (hw : Pts w' a' rest) => impl_boxof px py a' cap' rest w' (by simp at hm; omega) hc' hw
  rw [v1, v2, v3, v4] at hbox
  rw [ha] at hall
  rw [hk]
  obtain ⟨b, off, rfl, hbs, hp⟩ : ∃ b off, a = some ⟨b, off, none⟩ ∧ b < w.heap.size ∧ PtsAt w b off ((px, py) :: rest) := by
    rcases h with h | h
    · cases h
    · exact h
  obtain ⟨c0, c1⟩ := hp 0 (by simp)
  simp only [Nat.zero_mul, Nat.add_zero, List.getD_cons_zero] at c0 c1
  have hl : (((px, py) :: rest).length) = rest.length + 1 := by simp
  rw [hl] at hm hc hne hall ⊢
  have hptl := hp.tail
  generalize aX ((px, py) :: rest) = m1 at *
  generalize aY ((px, py) :: rest) = m2 at *
  generalize bX ((px, py) :: rest) = m3 at *
  generalize bY' ((px, py) :: rest) = m4 at *
  have Hall := hid hall
  have Hbox := hid hbox
  have Hp := hid hp
  have Htl := hid hptl
  have hb1' : (1 : Int) ≤ (rest.length : Int) + 1 := by omega
  have hb2' : (rest.length : Int) + 1 ≤ (cap : Int) := by omega
  clear v1 v2 v3 v4 hall hbox hp hptl h hk ha hl
  go_enter Tryz.func49, Tryz.ntmps49
  go_wp2_with fail
  refine (Hall.out _ (Hh.out.below ?_)).mono ?_
  · (repeat (first | with_reducible exact Below.refl _ _ | with_reducible assumption | (with_reducible refine btrans ?_ (by with_reducible assumption)) | with_reducible refine bdrew ?_ | with_reducible refine balloc ?_ _))
  rintro e w1 ⟨rfl, hb1⟩
  have gz : w1.heap[w.heap.size]? = some (.cells #[.int .i64 0, .int .i64 0, .int .i64 0, .int .i64 0] 51 (0, 0)) := by (repeat (first | with_reducible assumption | (refine new_alloc _ _ _ ?_; simp; done) | refine keepheap2 (by with_reducible assumption) ?_ | refine keephdrew2 ?_ | refine old_alloc ?_))
  have k0 : w1.cell? ⟨b, off, none⟩ = some (.int .i64 px) := by (repeat (first | with_reducible assumption | (refine newcell _ _ _ _ _ _ ?_ rfl; simp; done) | refine keepcell (by with_reducible assumption) ?_ | refine keepdrew ?_ | refine keepalloc ?_ _))
  have k1 : w1.cell? ⟨b, off + 1, none⟩ = some (.int .i64 py) := by (repeat (first | with_reducible assumption | (refine newcell _ _ _ _ _ _ ?_ rfl; simp; done) | refine keepcell (by with_reducible assumption) ?_ | refine keepdrew ?_ | refine keepalloc ?_ _))
  have Gz := hid gz
  clear gz
  go_wp2_with fail
  have HPT : ∀ w', Below w.heap.size w w' → Pts w' (if cap = 1 then some ⟨b, off, none⟩ else some ⟨b, off + 2, none⟩) rest := by
    intro w' hw'
    by_cases e : cap = 1
    · left
      cases rest with
      | nil => rfl
      | cons x y => simp at hc; omega
    · rw [if_neg e]
      right
      exact ⟨b, off + 2, rfl, Nat.lt_of_lt_of_le hbs hw'.size, Htl.out.below hbs hw'⟩
  have HPT := hid HPT
  refine wp_region_held_drew (S := (fun w' => w'.cell? ⟨b, off, none⟩ = some (.int .i64 px) ∧ w'.cell? ⟨b, off + 1, none⟩ = some (.int .i64 py))) (by kernel_rfl) ?_ (fun hHeld => ?_)
  · (repeat' apply And.intro) <;> (repeat (first | with_reducible assumption | with_reducible refine keepset ?_ (by dsimp only; omega) | with_reducible refine keepdrew ?_ | (refine newcell _ _ _ _ _ _ ?_ rfl; simp; done) | refine keepcell (by with_reducible assumption) ?_ | refine keepdrew ?_ | refine keepalloc ?_ _))
  refine wpAnyH_take (i := 0) (v := ?_) rfl (by kernel_rfl) (by kernel_rfl) (by kernel_rfl) (fun _ _ _ h => h) (Or.inl ⟨by rfl, ?_⟩) hHeld ?_
  rotate_left
  · intro w hSw; (try dsimp only at hSw); go_simp; try (with_reducible rfl)
  try simp only [sq]
  refine wpAnyH_take (i := 1) (v := ?_) rfl (by kernel_rfl) (by kernel_rfl) (by kernel_rfl) (fun _ _ _ h => h) (Or.inl ⟨by rfl, ?_⟩) hHeld ?_
  rotate_left
  · intro w hSw; (try dsimp only at hSw); go_simp; try (with_reducible rfl)
  try simp only [sq]
  refine wpAnyH_take (i := 2) (v := ?_) rfl (by kernel_rfl) (by kernel_rfl) (by kernel_rfl) (fun _ _ _ h => h) (Or.inl ⟨by rfl, ?_⟩) hHeld ?_
  rotate_left
  · intro w hSw; (try dsimp only at hSw); go_simp; try (with_reducible rfl)
  try simp only [sq]
  refine wpAnyH_take (i := 3) (v := ?_) rfl (by kernel_rfl) (by kernel_rfl) (by kernel_rfl) (fun _ _ _ h => h) (Or.inl ⟨by rfl, ?_⟩) hHeld ?_
  rotate_left
  · intro w hSw; (try dsimp only at hSw); go_simp; try (with_reducible rfl)
  try simp only [sq]
  refine wpAnyH_take (i := 4) (v := ?_) rfl (by kernel_rfl) (by kernel_rfl) (by kernel_rfl) (fun _ _ _ h => h) (Or.inl ⟨by rfl, ?_⟩) hHeld ?_
  rotate_left
  · intro w hSw; (try dsimp only at hSw); go_simp; try (with_reducible rfl)
  try simp only [sq]
  generalize (if cap = 1 then some (⟨b, off, none⟩ : Addr) else some ⟨b, off + 2, none⟩) = A at *
  refine wpAnyH_ready (rs := [5]) (by kernel_rfl) (by simp) ?_
  refine AllReadyH.cons rfl (fun K hK => ?_) AllReadyH.nil
  try simp only [sq]
  go_simp
  (first
      | (go_at_call 70; refine (Hbox.out _ _ _ (by omega) (HPT.out _ ?_)).mono ?_; exact (by (repeat (first | with_reducible exact Below.refl _ _ | with_reducible assumption | (with_reducible refine btrans ?_ (by with_reducible assumption)) | with_reducible refine bdrew ?_ | with_reducible refine balloc ?_ _))); rintro e w2 ⟨rfl, hb2⟩))
  go_wp2_with fail
  refine hK.out _ _ ?_ (fun hHeld => ?_)
  · (repeat' apply And.intro) <;> (repeat (first | with_reducible assumption | with_reducible refine keepset ?_ (by dsimp only; omega) | with_reducible refine keepdrew ?_ | (refine newcell _ _ _ _ _ _ ?_ rfl; simp; done) | refine keepcell (by with_reducible assumption) ?_ | refine keepdrew ?_ | refine keepalloc ?_ _))
  clear hK K
  try simp only [sq]
  have gz2 : w2.heap[w.heap.size]? = some (.cells #[.int .i64 0, .int .i64 0, .int .i64 0, .int .i64 0] 51 (0, 0)) := by have gz := Gz.out; (repeat (first | with_reducible assumption | (refine new_alloc _ _ _ ?_; simp; done) | refine keepheap2 (by with_reducible assumption) ?_ | refine keephdrew2 ?_ | refine old_alloc ?_))
  obtain ⟨i0, i1, i2, i3, j0, j1, j2, j3⟩ := cell4 gz2
  have Gz2 := hid gz2
  clear gz2
  refine wpAnyH_ready (rs := [6]) (by kernel_rfl) (by simp) ?_
  refine AllReadyH.cons rfl (fun K hK => ?_) AllReadyH.nil
  try simp only [sq]
  go_simp
  refine hK.out _ _ ?_ (fun hHeld => ?_)
  · (repeat' apply And.intro) <;> (repeat (first | with_reducible assumption | with_reducible refine keepset ?_ (by dsimp only; omega) | with_reducible refine keepdrew ?_ | (refine newcell _ _ _ _ _ _ ?_ rfl; simp; done) | refine keepcell (by with_reducible assumption) ?_ | refine keepdrew ?_ | refine keepalloc ?_ _))
  clear hK K
  try simp only [sq]
  refine wpAnyH_take (i := 7) (v := ?_) rfl (by kernel_rfl) (by kernel_rfl) (by kernel_rfl) (fun _ _ _ h => h) (Or.inl ⟨by rfl, ?_⟩) hHeld ?_
  rotate_left
  · intro w hSw; (try dsimp only at hSw); go_simp; try (with_reducible rfl)
  try simp only [sq]
  refine wpAnyH_done (by kernel_rfl) ?_ _
  go_wp2_with fail
  obtain ⟨gF, hbF⟩ := set4 (w := w) Gz2.out (by (repeat (first | with_reducible exact Below.refl _ _ | with_reducible assumption | (with_reducible refine btrans ?_ (by with_reducible assumption)) | with_reducible refine bdrew ?_ | with_reducible refine balloc ?_ _))) (show w.heap.size ≤ w.heap.size by omega) (.int .i64 m1) (.int .i64 m2) (.int .i64 m3) (.int .i64 m4)
  generalize ((((w2.setCell ⟨w.heap.size, 0, none⟩ (.int .i64 m1)).setCell ⟨w.heap.size, 1, none⟩ (.int .i64 m2)).setCell ⟨w.heap.size, 2, none⟩ (.int .i64 m3)).setCell ⟨w.heap.size, 3, none⟩ (.int .i64 m4)) = wf at gF hbF ⊢
  obtain ⟨z0, z1, z2, z3, _, _, _, _⟩ := cell4 gF
  exact bodyPost_ret (v := .tuple #[.agg #[.int .i64 m1, .int .i64 m2, .int .i64 m3, .int .i64 m4], .bool true]) (by simp [results, Tryz.results49, go_sem, z0, z1, z2, z3]) rfl ⟨rfl, hbF⟩
set_option maxHeartbeats 1000000 in
theorem spec_BoxAround (a : Option Addr) (cap : Nat) (ps : List (Int × Int)) (w : World) (hm : ps.length ≤ 1099511627776) (hc : ps.length ≤ cap) (h : Pts w a ps) : Calls Tryz.prog 38 #[.slice a ps.length cap] w fun e w' => e = .returned (.tuple #[.agg #[.int .i64 (aX ps), .int .i64 (aY ps), .int .i64 (bX ps), .int .i64 (bY' ps)], .bool (aok ps)]) ∧ Below w.heap.size w w' := by
  have hall := fun w' (hw : Pts w' a ps) => spec_all a cap ps w' hm hc hw
  have Hh := hid h
  cases ha : allok ps
  · have hk : aok ps = false := by unfold aok; rw [ha]; simp
    obtain ⟨v1, v2, v3, v4⟩ := a_no hk
    rw [v1, v2, v3, v4, hk]
    rw [ha] at hall
    have Hall := hid hall
    clear v1 v2 v3 v4 h hk ha hall
    go_enter Tryz.func38, Tryz.ntmps38
    go_wp2_with fail
    refine (Hall.out _ (Hh.out.below ?_)).mono ?_
    · (repeat (first | with_reducible exact Below.refl _ _ | with_reducible assumption | (with_reducible refine btrans ?_ (by with_reducible assumption)) | with_reducible refine bdrew ?_ | with_reducible refine balloc ?_ _))
    rintro e w1 ⟨rfl, hb1⟩
    have gz : w1.heap[w.heap.size]? = some (.cells #[.int .i64 0, .int .i64 0, .int .i64 0, .int .i64 0] 51 (0, 0)) := by (repeat (first | with_reducible assumption | (refine new_alloc _ _ _ ?_; simp; done) | refine keepheap2 (by with_reducible assumption) ?_ | refine keephdrew2 ?_ | refine old_alloc ?_))
    obtain ⟨i0, i1, i2, i3, j0, j1, j2, j3⟩ := cell4 gz
    have Gz := hid gz
    clear gz
    go_wp2_with fail
    obtain ⟨gF, hbF⟩ := set4 (w := w) Gz.out (by (repeat (first | with_reducible exact Below.refl _ _ | with_reducible assumption | (with_reducible refine btrans ?_ (by with_reducible assumption)) | with_reducible refine bdrew ?_ | with_reducible refine balloc ?_ _))) (show w.heap.size ≤ w.heap.size by omega) (.int .i64 0) (.int .i64 0) (.int .i64 0) (.int .i64 0)
    generalize ((((w1.setCell ⟨w.heap.size, 0, none⟩ (.int .i64 0)).setCell ⟨w.heap.size, 1, none⟩ (.int .i64 0)).setCell ⟨w.heap.size, 2, none⟩ (.int .i64 0)).setCell ⟨w.heap.size, 3, none⟩ (.int .i64 0)) = wf at gF hbF ⊢
    obtain ⟨z0, z1, z2, z3, _, _, _, _⟩ := cell4 gF
    exact bodyPost_ret (v := .tuple #[.agg #[.int .i64 0, .int .i64 0, .int .i64 0, .int .i64 0], .bool false]) (by simp [results, Tryz.results38, go_sem, z0, z1, z2, z3]) rfl ⟨rfl, hbF⟩
  rw [ha] at hall
  have Hall := hid hall
  clear hall
  rcases ps with _ | ⟨⟨px, py⟩, rest⟩
  · obtain ⟨v1, v2, v3, v4⟩ := a_no (ps := []) rfl
    rw [v1, v2, v3, v4]
    clear v1 v2 v3 v4 h
    go_enter Tryz.func38, Tryz.ntmps38
    go_wp2_with fail
    refine (Hall.out _ (Hh.out.below ?_)).mono ?_
    · (repeat (first | with_reducible exact Below.refl _ _ | with_reducible assumption | (with_reducible refine btrans ?_ (by with_reducible assumption)) | with_reducible refine bdrew ?_ | with_reducible refine balloc ?_ _))
    rintro e w1 ⟨rfl, hb1⟩
    have gz : w1.heap[w.heap.size]? = some (.cells #[.int .i64 0, .int .i64 0, .int .i64 0, .int .i64 0] 51 (0, 0)) := by (repeat (first | with_reducible assumption | (refine new_alloc _ _ _ ?_; simp; done) | refine keepheap2 (by with_reducible assumption) ?_ | refine keephdrew2 ?_ | refine old_alloc ?_))
    obtain ⟨i0, i1, i2, i3, j0, j1, j2, j3⟩ := cell4 gz
    have Gz := hid gz
    clear gz
    go_wp2_with fail
    obtain ⟨gF, hbF⟩ := set4 (w := w) Gz.out (by (repeat (first | with_reducible exact Below.refl _ _ | with_reducible assumption | (with_reducible refine btrans ?_ (by with_reducible assumption)) | with_reducible refine bdrew ?_ | with_reducible refine balloc ?_ _))) (show w.heap.size ≤ w.heap.size by omega) (.int .i64 0) (.int .i64 0) (.int .i64 0) (.int .i64 0)
    generalize ((((w1.setCell ⟨w.heap.size, 0, none⟩ (.int .i64 0)).setCell ⟨w.heap.size, 1, none⟩ (.int .i64 0)).setCell ⟨w.heap.size, 2, none⟩ (.int .i64 0)).setCell ⟨w.heap.size, 3, none⟩ (.int .i64 0)) = wf at gF hbF ⊢
    obtain ⟨z0, z1, z2, z3, _, _, _, _⟩ := cell4 gF
    exact bodyPost_ret (v := .tuple #[.agg #[.int .i64 0, .int .i64 0, .int .i64 0, .int .i64 0], .bool false]) (by simp [results, Tryz.results38, go_sem, z0, z1, z2, z3]) rfl ⟨rfl, hbF⟩
  have hne : (((((px, py) :: rest).length : Nat) : Int) == 0) = false := by rw [beq_eq_false_iff_ne]; simp; omega
  have hk : aok ((px, py) :: rest) = true := by unfold aok; rw [ha]; rfl
  have v1 : aX ((px, py) :: rest) = upto (fun m p => min m p.1) px rest rest.length := by unfold aX; rw [if_pos hk, upto_all _ _ _ _ (Nat.le_refl _)]; rfl
  have v2 : aY ((px, py) :: rest) = upto (fun m p => min m p.2) py rest rest.length := by unfold aY; rw [if_pos hk, upto_all _ _ _ _ (Nat.le_refl _)]; rfl
  have v3 : bX ((px, py) :: rest) = upto (fun m p => max m p.1) px rest rest.length := by unfold bX; rw [if_pos hk, upto_all _ _ _ _ (Nat.le_refl _)]; rfl
  have v4 : bY' ((px, py) :: rest) = upto (fun m p => max m p.2) py rest rest.length := by unfold bY'; rw [if_pos hk, upto_all _ _ _ _ (Nat.le_refl _)]; rfl
  rw [hk, v1, v2, v3, v4]
  obtain ⟨b, off, rfl, hbs, hp⟩ : ∃ b off, a = some ⟨b, off, none⟩ ∧ b < w.heap.size ∧ PtsAt w b off ((px, py) :: rest) := by
    rcases h with h | h
    · cases h
    · exact h
  obtain ⟨c0, c1⟩ := hp 0 (by simp)
  simp only [Nat.zero_mul, Nat.add_zero, List.getD_cons_zero] at c0 c1
  have hl : (((px, py) :: rest).length) = rest.length + 1 := by simp
  rw [hl] at hm hc hne Hall ⊢
  have Hp := hid hp
  clear v1 v2 v3 v4 hp h hk ha hl
  have hb1' : (0 : Int) < (rest.length : Int) + 1 := by omega
  go_enter Tryz.func38, Tryz.ntmps38
  go_wp2_with fail
  refine (Hall.out _ (Hh.out.below ?_)).mono ?_
  · (repeat (first | with_reducible exact Below.refl _ _ | with_reducible assumption | (with_reducible refine btrans ?_ (by with_reducible assumption)) | with_reducible refine bdrew ?_ | with_reducible refine balloc ?_ _))
  rintro e w1 ⟨rfl, hb1⟩
  have gz : w1.heap[w.heap.size]? = some (.cells #[.int .i64 0, .int .i64 0, .int .i64 0, .int .i64 0] 51 (0, 0)) := by (repeat (first | with_reducible assumption | (refine new_alloc _ _ _ ?_; simp; done) | refine keepheap2 (by with_reducible assumption) ?_ | refine keephdrew2 ?_ | refine old_alloc ?_))
  have k0 : w1.cell? ⟨b, off, none⟩ = some (.int .i64 px) := by (repeat (first | with_reducible assumption | (refine newcell _ _ _ _ _ _ ?_ rfl; simp; done) | refine keepcell (by with_reducible assumption) ?_ | refine keepdrew ?_ | refine keepalloc ?_ _))
  have k1 : w1.cell? ⟨b, off + 1, none⟩ = some (.int .i64 py) := by (repeat (first | with_reducible assumption | (refine newcell _ _ _ _ _ _ ?_ rfl; simp; done) | refine keepcell (by with_reducible assumption) ?_ | refine keepdrew ?_ | refine keepalloc ?_ _))
  have hB1 : Below w.heap.size w w1 := by (repeat (first | with_reducible exact Below.refl _ _ | with_reducible assumption | (with_reducible refine btrans ?_ (by with_reducible assumption)) | with_reducible refine bdrew ?_ | with_reducible refine balloc ?_ _))
  have Gz := hid gz
  clear gz c0 c1
  go_wp2_with fail
  go_region_held3 (fun w' => w'.cell? ⟨b, off, none⟩ = some (.int .i64 px) ∧ w'.cell? ⟨b, off + 1, none⟩ = some (.int .i64 py)) ((go_split_ands; (repeat' apply And.intro) <;> (repeat (first | with_reducible assumption | (refine newcell _ _ _ _ _ _ ?_ rfl; simp; done) | refine keepcell (by with_reducible assumption) ?_ | refine keepdrew ?_ | refine keepalloc ?_ _))))
    (first
      | (fail))
  go_wp2_with fail
  go_loopw [5] (fun ti wr => ∃ k : Nat, ∃ m1 m2 m3 m4 : Int, ti = .int .i64 ((k : Int) + 1) ∧ k ≤ rest.length ∧ Below w.heap.size w wr ∧ wr.heap[w.heap.size]? = some (.cells #[.int .i64 0, .int .i64 0, .int .i64 0, .int .i64 0] 51 (0, 0)) ∧ wr.heap[w1.heap.size]? = some (.cells #[.int .i64 m1, .int .i64 m2, .int .i64 m3, .int .i64 m4] 51 (0, 0)) ∧ Hid (m1 = upto (fun m p => min m p.1) px rest k ∧ m2 = upto (fun m p => min m p.2) py rest k ∧ m3 = upto (fun m p => max m p.1) px rest k ∧ m4 = upto (fun m p => max m p.2) py rest k)) (fun ti _ => rest.length + 1 - (intOf ti).toNat)
  case atStart =>
    have gz := Gz.out
    exact ⟨0, px, py, px, py, rfl, Nat.zero_le _, by (repeat (first | with_reducible exact Below.refl _ _ | with_reducible assumption | (with_reducible refine btrans ?_ (by with_reducible assumption)) | with_reducible refine bdrew ?_ | with_reducible refine balloc ?_ _)), by (repeat (first | with_reducible assumption | (refine new_alloc _ _ _ ?_; simp; done) | refine keepheap2 (by with_reducible assumption) ?_ | refine keephdrew2 ?_ | refine old_alloc ?_)), by (repeat (first | with_reducible assumption | (refine new_alloc _ _ _ ?_; simp; done) | refine keepheap2 (by with_reducible assumption) ?_ | refine keephdrew2 ?_ | refine old_alloc ?_)), hid ⟨rfl, rfl, rfl, rfl⟩⟩
  case round =>
    clear k0 k1
    obtain ⟨k, m1, m2, m3, m4, rfl, hk, hb, gz, gb, H⟩ := hrel
    have hBB : w.heap.size < w1.heap.size := (Array.getElem?_eq_some_iff.1 Gz.out).1
    by_cases hlt : k < rest.length
    · obtain ⟨c0, c1⟩ := Hp.out.below hbs hb (k + 1) (by simp; omega)
      simp only [List.getD_cons_succ] at c0 c1
      have u1 : upto (fun m p => min m p.1) px rest (k + 1) = min (upto (fun m p => min m p.1) px rest k) (rest.getD k (0, 0)).1 := upto_next _ _ _ _ hlt
      have u2 : upto (fun m p => min m p.2) py rest (k + 1) = min (upto (fun m p => min m p.2) py rest k) (rest.getD k (0, 0)).2 := upto_next _ _ _ _ hlt
      have u3 : upto (fun m p => max m p.1) px rest (k + 1) = max (upto (fun m p => max m p.1) px rest k) (rest.getD k (0, 0)).1 := upto_next _ _ _ _ hlt
      have u4 : upto (fun m p => max m p.2) py rest (k + 1) = max (upto (fun m p => max m p.2) py rest k) (rest.getD k (0, 0)).2 := upto_next _ _ _ _ hlt
      obtain ⟨e1, e2, e3, e4⟩ := H.out
      rw [← e1] at u1
      rw [← e2] at u2
      rw [← e3] at u3
      rw [← e4] at u4
      clear e1 e2 e3 e4 H
      generalize (rest.getD k (0, 0)).1 = x at *
      generalize (rest.getD k (0, 0)).2 = y at *
      have U := hid (And.intro u1 (And.intro u2 (And.intro u3 u4)))
      clear u1 u2 u3 u4
      obtain ⟨i0, i1, i2, i3, j0, j1, j2, j3⟩ := cell4 gb
      have hbl : w1.heap.size < wr.heap.size := (Array.getElem?_eq_some_iff.1 gb).1
      have Gb := hid gb
      have Gz' := hid gz
      clear gb gz
      have hkk : ((k : Int) + 1) < (rest.length : Int) + 1 := by omega
      have hkk0 : (0 : Int) ≤ (k : Int) + 1 := by omega
      go_wp2_with fail
      refine (spec_join _ _ _ _ _ _ _ _ _).mono ?_
      rintro e w2 ⟨rfl, hb2⟩
      have gb2 := keepheap2 hb2 (old_alloc Gb.out)
      have gz2 := keepheap2 hb2 (old_alloc Gz'.out)
      clear i0 i1 i2 i3 j0 j1 j2 j3
      obtain ⟨i0, i1, i2, i3, j0, j1, j2, j3⟩ := cell4 gb2
      have Gb2 := hid gb2
      have Gz2 := hid gz2
      clear gb2 gz2
      have hB2 : Below w.heap.size w w2 := by (repeat (first | with_reducible exact Below.refl _ _ | with_reducible assumption | (with_reducible refine btrans ?_ (by with_reducible assumption)) | with_reducible refine bdrew ?_ | with_reducible refine balloc ?_ _))
      go_wp2_with fail
      obtain ⟨gF, hbF⟩ := set4 (w := w) Gb2.out hB2 (show w.heap.size ≤ w1.heap.size by omega) (.int .i64 (min m1 x)) (.int .i64 (min m2 y)) (.int .i64 (max m3 x)) (.int .i64 (max m4 y))
      have gzF : ((((w2.setCell ⟨w1.heap.size, 0, none⟩ (.int .i64 (min m1 x))).setCell ⟨w1.heap.size, 1, none⟩ (.int .i64 (min m2 y))).setCell ⟨w1.heap.size, 2, none⟩ (.int .i64 (max m3 x))).setCell ⟨w1.heap.size, 3, none⟩ (.int .i64 (max m4 y))).heap[w.heap.size]? = some (.cells #[.int .i64 0, .int .i64 0, .int .i64 0, .int .i64 0] 51 (0, 0)) := set_far (set_far (set_far (set_far Gz2.out (by omega)) (by omega)) (by omega)) (by omega)
      go_roundw
      case rel => exact ⟨k + 1, _, _, _, _, by go_num, by omega, hbF, gzF, gF, hid ⟨U.out.1.symm, U.out.2.1.symm, U.out.2.2.1.symm, U.out.2.2.2.symm⟩⟩
      case measure => simp [intOf]; omega
    · obtain rfl : k = rest.length := by omega
      obtain ⟨e1, e2, e3, e4⟩ := H.out
      clear e1 e2 e3 e4
      obtain ⟨i0, i1, i2, i3, _, _, _, _⟩ := cell4 gb
      obtain ⟨y0, y1, y2, y3, f0, f1, f2, f3⟩ := cell4 gz
      have Gb := hid gb
      have Gz' := hid gz
      clear gb gz
      go_wp2_with fail
      obtain ⟨gF, hbF⟩ := set4 (w := w) Gz'.out (by (repeat (first | with_reducible exact Below.refl _ _ | with_reducible assumption | (with_reducible refine btrans ?_ (by with_reducible assumption)) | with_reducible refine bdrew ?_ | with_reducible refine balloc ?_ _))) (show w.heap.size ≤ w.heap.size by omega) (.int .i64 m1) (.int .i64 m2) (.int .i64 m3) (.int .i64 m4)
      generalize ((((wr.setCell ⟨w.heap.size, 0, none⟩ (.int .i64 m1)).setCell ⟨w.heap.size, 1, none⟩ (.int .i64 m2)).setCell ⟨w.heap.size, 2, none⟩ (.int .i64 m3)).setCell ⟨w.heap.size, 3, none⟩ (.int .i64 m4)) = wf at gF hbF ⊢
      obtain ⟨z0, z1, z2, z3, _, _, _, _⟩ := cell4 gF
      exact bodyPost_ret (v := .tuple #[.agg #[.int .i64 m1, .int .i64 m2, .int .i64 m3, .int .i64 m4], .bool true]) (by simp [results, Tryz.results38, go_sem, z0, z1, z2, z3]) rfl ⟨by rw [H.out.1, H.out.2.1, H.out.2.2.1, H.out.2.2.2], hbF⟩
end Go.Proofs.YtnaobljoopjhgaaGreat
