/- The least box around points: the landed function and the specification's. -/
import Derived.Test.YtmdnelgnpponpaaRing2
import Derived.Test.YtmdnelgnpponpaaGeo10
namespace Go.Proofs.Ytmdnelgnpponpaa
open Go.RowKit
set_option linter.unusedSimpArgs false
set_option linter.unusedVariables false
def aok (ps : List (Int × Int)) : Bool := !ps.isEmpty && allok ps
def aX (ps : List (Int × Int)) : Int := if aok ps = true then ps.tail.foldl (fun m p => min m p.1) (ps.getD 0 (0, 0)).1 else 0
def aY (ps : List (Int × Int)) : Int := if aok ps = true then ps.tail.foldl (fun m p => min m p.2) (ps.getD 0 (0, 0)).2 else 0
def bX (ps : List (Int × Int)) : Int := if aok ps = true then ps.tail.foldl (fun m p => max m p.1) (ps.getD 0 (0, 0)).1 else 0
def bY' (ps : List (Int × Int)) : Int := if aok ps = true then ps.tail.foldl (fun m p => max m p.2) (ps.getD 0 (0, 0)).2 else 0
theorem keephdrew2 {w : World} {b : Nat} {o : Obj} (h : w.heap[b]? = some o) : w.drew.heap[b]? = some o := h
theorem set4 {w w1 : World} {B : Nat} {o0 o1 o2 o3 : Value} {t : TypeId} (gz : w1.heap[B]? = some (.cells #[o0, o1, o2, o3] t (0, 0))) (hb : Below w.heap.size w w1) (hB : w.heap.size ≤ B) (a b c d : Value) :
    ((((w1.setCell ⟨B, 0, none⟩ a).setCell ⟨B, 1, none⟩ b).setCell ⟨B, 2, none⟩ c).setCell ⟨B, 3, none⟩ d).heap[B]? = some (.cells #[a, b, c, d] t (0, 0)) ∧ Below w.heap.size w ((((w1.setCell ⟨B, 0, none⟩ a).setCell ⟨B, 1, none⟩ b).setCell ⟨B, 2, none⟩ c).setCell ⟨B, 3, none⟩ d) :=
  ⟨set_at (set_at (set_at (set_at gz))), bset (bset (bset (bset hb hB _) hB _) hB _) hB _⟩
theorem a_no {ps : List (Int × Int)} (h : aok ps = false) : aX ps = 0 ∧ aY ps = 0 ∧ bX ps = 0 ∧ bY' ps = 0 := by
  unfold aX aY bX bY'; rw [h]; exact ⟨rfl, rfl, rfl, rfl⟩
theorem PtsAt.tail {w : World} {b off : Nat} {p : Int × Int} {ps : List (Int × Int)} (h : PtsAt w b off (p :: ps)) : PtsAt w b (off + 2) ps := by
  intro k hk
  obtain ⟨h1, h2⟩ := h (k + 1) (by simp; omega)
  simp only [List.getD_cons_succ] at h1 h2
  rw [show off + (k + 1) * 2 = off + 2 + k * 2 by omega] at h1 h2
  exact ⟨h1, h2⟩
set_option maxHeartbeats 1000000 in
theorem impl_BoxAround (a : Option Addr) (cap : Nat) (ps : List (Int × Int)) (w : World) (hm : ps.length ≤ 1099511627776) (hc : ps.length ≤ cap) (h : Pts w a ps) : Calls Try.prog 70 #[.slice a ps.length cap] w fun e w' => e = .returned (.tuple #[.agg #[.int .i64 (aX ps), .int .i64 (aY ps), .int .i64 (bX ps), .int .i64 (bY' ps)], .bool (aok ps)]) ∧ Below w.heap.size w w' := by
  rcases ps with _ | ⟨⟨px, py⟩, rest⟩
  · obtain ⟨v1, v2, v3, v4⟩ := a_no (ps := []) rfl
    rw [v1, v2, v3, v4]
    clear v1 v2 v3 v4 h
    go_enter Try.func70, Try.ntmps70
    go_wp2_with fail
    exact bodyPost_ret (v := .tuple #[.agg #[.int .i64 0, .int .i64 0, .int .i64 0, .int .i64 0], .bool false]) (by simp [results, Try.results70, go_sem]) rfl ⟨rfl, by (repeat (first | with_reducible exact Below.refl _ _ | with_reducible assumption | (with_reducible refine btrans ?_ (by with_reducible assumption)) | with_reducible refine bdrew ?_ | with_reducible refine balloc ?_ _))⟩
  have hall := fun w' (hw : Pts w' a ((px, py) :: rest)) => impl_all a cap ((px, py) :: rest) w' hm hc hw
  have hne : (((((px, py) :: rest).length : Nat) : Int) == 0) = false := by rw [beq_eq_false_iff_ne]; simp; omega
  have Hh := hid h
  cases ha : allok ((px, py) :: rest)
  · have hk : aok ((px, py) :: rest) = false := by unfold aok; rw [ha]; rfl
    obtain ⟨v1, v2, v3, v4⟩ := a_no hk
    rw [v1, v2, v3, v4, hk]
    rw [ha] at hall
    have Hall := hid hall
    clear v1 v2 v3 v4 h hk ha hall
    generalize hps : (px, py) :: rest = ps at *
    clear hps
    go_enter Try.func70, Try.ntmps70
    go_wp2_with fail
    refine (Hall.out _ (Hh.out.below ?_)).mono ?_
    · (repeat (first | with_reducible exact Below.refl _ _ | with_reducible assumption | (with_reducible refine btrans ?_ (by with_reducible assumption)) | with_reducible refine bdrew ?_ | with_reducible refine balloc ?_ _))
    rintro e w1 ⟨rfl, hb1⟩
    have gz : w1.heap[w.heap.size]? = some (.cells #[.int .i64 0, .int .i64 0, .int .i64 0, .int .i64 0] 30 (0, 0)) := by (repeat (first | with_reducible assumption | (refine new_alloc _ _ _ ?_; simp; done) | refine keepheap2 (by with_reducible assumption) ?_ | refine keephdrew2 ?_ | refine old_alloc ?_))
    obtain ⟨i0, i1, i2, i3, j0, j1, j2, j3⟩ := cell4 gz
    have Gz := hid gz
    clear gz
    go_wp2_with fail
    obtain ⟨gF, hbF⟩ := set4 (w := w) Gz.out (by (repeat (first | with_reducible exact Below.refl _ _ | with_reducible assumption | (with_reducible refine btrans ?_ (by with_reducible assumption)) | with_reducible refine bdrew ?_ | with_reducible refine balloc ?_ _))) (show w.heap.size ≤ w.heap.size by omega) (.int .i64 0) (.int .i64 0) (.int .i64 0) (.int .i64 0)
    generalize ((((w1.setCell ⟨w.heap.size, 0, none⟩ (.int .i64 0)).setCell ⟨w.heap.size, 1, none⟩ (.int .i64 0)).setCell ⟨w.heap.size, 2, none⟩ (.int .i64 0)).setCell ⟨w.heap.size, 3, none⟩ (.int .i64 0)) = wf at gF hbF ⊢
    obtain ⟨z0, z1, z2, z3, _, _, _, _⟩ := cell4 gF
    exact bodyPost_ret (v := .tuple #[.agg #[.int .i64 0, .int .i64 0, .int .i64 0, .int .i64 0], .bool false]) (by simp [results, Try.results70, go_sem, z0, z1, z2, z3]) rfl ⟨rfl, hbF⟩
  have hk : aok ((px, py) :: rest) = true := by unfold aok; rw [ha]; rfl
  have v1 : rest.foldl (fun m p => min m p.1) px = aX ((px, py) :: rest) := by unfold aX; rw [if_pos hk]; rfl
  have v2 : rest.foldl (fun m p => min m p.2) py = aY ((px, py) :: rest) := by unfold aY; rw [if_pos hk]; rfl
  have v3 : rest.foldl (fun m p => max m p.1) px = bX ((px, py) :: rest) := by unfold bX; rw [if_pos hk]; rfl
  have v4 : rest.foldl (fun m p => max m p.2) py = bY' ((px, py) :: rest) := by unfold bY'; rw [if_pos hk]; rfl
  have hbox := fun (a' : Option Addr) (cap' : Nat) w' (hc' : rest.length ≤ cap') (hw : Pts w' a' rest) => impl_boxof px py a' cap' rest w' (by simp at hm; omega) hc' hw
  rw [v1, v2, v3, v4] at hbox
  rw [ha] at hall
  rw [hk]
  obtain ⟨b, off, rfl, hbs, hp⟩ : ∃ b off, a = some ⟨b, off, none⟩ ∧ b < w.heap.size ∧ PtsAt w b off ((px, py) :: rest) := by
    rcases h with h | h
    · cases h
    · exact h
  obtain ⟨c0, c1⟩ := hp 0 (by simp)
  simp only [Nat.zero_mul, Nat.add_zero, List.getD_cons_zero] at c0 c1
  have hl : (((px, py) :: rest).length) = rest.length + 1 := by simp
  rw [hl] at hm hc hne hall ⊢
  have hptl := hp.tail
  generalize aX ((px, py) :: rest) = m1 at *
  generalize aY ((px, py) :: rest) = m2 at *
  generalize bX ((px, py) :: rest) = m3 at *
  generalize bY' ((px, py) :: rest) = m4 at *
  have Hall := hid hall
  have Hbox := hid hbox
  have Hp := hid hp
  have Htl := hid hptl
  have hb1' : (1 : Int) ≤ (rest.length : Int) + 1 := by omega
  have hb2' : (rest.length : Int) + 1 ≤ (cap : Int) := by omega
  clear v1 v2 v3 v4 hall hbox hp hptl h hk ha hl
  go_enter Try.func70, Try.ntmps70
  go_wp2_with fail
  refine (Hall.out _ (Hh.out.below ?_)).mono ?_
  · (repeat (first | with_reducible exact Below.refl _ _ | with_reducible assumption | (with_reducible refine btrans ?_ (by with_reducible assumption)) | with_reducible refine bdrew ?_ | with_reducible refine balloc ?_ _))
  rintro e w1 ⟨rfl, hb1⟩
  have gz : w1.heap[w.heap.size]? = some (.cells #[.int .i64 0, .int .i64 0, .int .i64 0, .int .i64 0] 30 (0, 0)) := by (repeat (first | with_reducible assumption | (refine new_alloc _ _ _ ?_; simp; done) | refine keepheap2 (by with_reducible assumption) ?_ | refine keephdrew2 ?_ | refine old_alloc ?_))
  have k0 : w1.cell? ⟨b, off, none⟩ = some (.int .i64 px) := by (repeat (first | with_reducible assumption | (refine newcell _ _ _ _ _ _ ?_ rfl; simp; done) | refine keepcell (by with_reducible assumption) ?_ | refine keepdrew ?_ | refine keepalloc ?_ _))
  have k1 : w1.cell? ⟨b, off + 1, none⟩ = some (.int .i64 py) := by (repeat (first | with_reducible assumption | (refine newcell _ _ _ _ _ _ ?_ rfl; simp; done) | refine keepcell (by with_reducible assumption) ?_ | refine keepdrew ?_ | refine keepalloc ?_ _))
  have Gz := hid gz
  clear gz
  go_wp2_with fail
  have HPT : ∀ w', Below w.heap.size w w' → Pts w' (if cap = 1 then some ⟨b, off, none⟩ else some ⟨b, off + 2, none⟩) rest := by
    intro w' hw'
    by_cases e : cap = 1
    · left
      cases rest with
      | nil => rfl
      | cons x y => simp at hc; omega
    · rw [if_neg e]
      right
      exact ⟨b, off + 2, rfl, Nat.lt_of_lt_of_le hbs hw'.size, Htl.out.below hbs hw'⟩
  have HPT := hid HPT
  refine wp_region_held_drew (S := (fun w' => w'.cell? ⟨b, off, none⟩ = some (.int .i64 px) ∧ w'.cell? ⟨b, off + 1, none⟩ = some (.int .i64 py))) (by kernel_rfl) ?_ (fun hHeld => ?_)
  · (repeat' apply And.intro) <;> (repeat (first | with_reducible assumption | with_reducible refine keepset ?_ (by dsimp only; omega) | with_reducible refine keepdrew ?_ | (refine newcell _ _ _ _ _ _ ?_ rfl; simp; done) | refine keepcell (by with_reducible assumption) ?_ | refine keepdrew ?_ | refine keepalloc ?_ _))
  refine wpAnyH_take (i := 0) (v := ?_) rfl (by kernel_rfl) (by kernel_rfl) (by kernel_rfl) (fun _ _ _ h => h) (Or.inl ⟨by rfl, ?_⟩) hHeld ?_
  rotate_left
  · intro w hSw; (try dsimp only at hSw); go_simp; try (with_reducible rfl)
  try simp only [sq]
  refine wpAnyH_take (i := 1) (v := ?_) rfl (by kernel_rfl) (by kernel_rfl) (by kernel_rfl) (fun _ _ _ h => h) (Or.inl ⟨by rfl, ?_⟩) hHeld ?_
  rotate_left
  · intro w hSw; (try dsimp only at hSw); go_simp; try (with_reducible rfl)
  try simp only [sq]
  refine wpAnyH_take (i := 2) (v := ?_) rfl (by kernel_rfl) (by kernel_rfl) (by kernel_rfl) (fun _ _ _ h => h) (Or.inl ⟨by rfl, ?_⟩) hHeld ?_
  rotate_left
  · intro w hSw; (try dsimp only at hSw); go_simp; try (with_reducible rfl)
  try simp only [sq]
  refine wpAnyH_take (i := 3) (v := ?_) rfl (by kernel_rfl) (by kernel_rfl) (by kernel_rfl) (fun _ _ _ h => h) (Or.inl ⟨by rfl, ?_⟩) hHeld ?_
  rotate_left
  · intro w hSw; (try dsimp only at hSw); go_simp; try (with_reducible rfl)
  try simp only [sq]
  refine wpAnyH_take (i := 4) (v := ?_) rfl (by kernel_rfl) (by kernel_rfl) (by kernel_rfl) (fun _ _ _ h => h) (Or.inl ⟨by rfl, ?_⟩) hHeld ?_
  rotate_left
  · intro w hSw; (try dsimp only at hSw); go_simp; try (with_reducible rfl)
  try simp only [sq]
  generalize (if cap = 1 then some (⟨b, off, none⟩ : Addr) else some ⟨b, off + 2, none⟩) = A at *
  refine wpAnyH_ready (rs := [5]) (by kernel_rfl) (by simp) ?_
  refine AllReadyH.cons rfl (fun K hK => ?_) AllReadyH.nil
  try simp only [sq]
  go_simp
  (first
      | (go_at_call 77; refine (Hbox.out _ _ _ (by omega) (HPT.out _ ?_)).mono ?_; exact (by (repeat (first | with_reducible exact Below.refl _ _ | with_reducible assumption | (with_reducible refine btrans ?_ (by with_reducible assumption)) | with_reducible refine bdrew ?_ | with_reducible refine balloc ?_ _))); rintro e w2 ⟨rfl, hb2⟩))
  go_wp2_with fail
  refine hK.out _ _ ?_ (fun hHeld => ?_)
  · (repeat' apply And.intro) <;> (repeat (first | with_reducible assumption | with_reducible refine keepset ?_ (by dsimp only; omega) | with_reducible refine keepdrew ?_ | (refine newcell _ _ _ _ _ _ ?_ rfl; simp; done) | refine keepcell (by with_reducible assumption) ?_ | refine keepdrew ?_ | refine keepalloc ?_ _))
  clear hK K
  try simp only [sq]
  have gz2 : w2.heap[w.heap.size]? = some (.cells #[.int .i64 0, .int .i64 0, .int .i64 0, .int .i64 0] 30 (0, 0)) := by have gz := Gz.out; (repeat (first | with_reducible assumption | (refine new_alloc _ _ _ ?_; simp; done) | refine keepheap2 (by with_reducible assumption) ?_ | refine keephdrew2 ?_ | refine old_alloc ?_))
  obtain ⟨i0, i1, i2, i3, j0, j1, j2, j3⟩ := cell4 gz2
  have Gz2 := hid gz2
  clear gz2
  refine wpAnyH_ready (rs := [6]) (by kernel_rfl) (by simp) ?_
  refine AllReadyH.cons rfl (fun K hK => ?_) AllReadyH.nil
  try simp only [sq]
  go_simp
  refine hK.out _ _ ?_ (fun hHeld => ?_)
  · (repeat' apply And.intro) <;> (repeat (first | with_reducible assumption | with_reducible refine keepset ?_ (by dsimp only; omega) | with_reducible refine keepdrew ?_ | (refine newcell _ _ _ _ _ _ ?_ rfl; simp; done) | refine keepcell (by with_reducible assumption) ?_ | refine keepdrew ?_ | refine keepalloc ?_ _))
  clear hK K
  try simp only [sq]
  refine wpAnyH_take (i := 7) (v := ?_) rfl (by kernel_rfl) (by kernel_rfl) (by kernel_rfl) (fun _ _ _ h => h) (Or.inl ⟨by rfl, ?_⟩) hHeld ?_
  rotate_left
  · intro w hSw; (try dsimp only at hSw); go_simp; try (with_reducible rfl)
  try simp only [sq]
  refine wpAnyH_done (by kernel_rfl) ?_ _
  go_wp2_with fail
  obtain ⟨gF, hbF⟩ := set4 (w := w) Gz2.out (by (repeat (first | with_reducible exact Below.refl _ _ | with_reducible assumption | (with_reducible refine btrans ?_ (by with_reducible assumption)) | with_reducible refine bdrew ?_ | with_reducible refine balloc ?_ _))) (show w.heap.size ≤ w.heap.size by omega) (.int .i64 m1) (.int .i64 m2) (.int .i64 m3) (.int .i64 m4)
  generalize ((((w2.setCell ⟨w.heap.size, 0, none⟩ (.int .i64 m1)).setCell ⟨w.heap.size, 1, none⟩ (.int .i64 m2)).setCell ⟨w.heap.size, 2, none⟩ (.int .i64 m3)).setCell ⟨w.heap.size, 3, none⟩ (.int .i64 m4)) = wf at gF hbF ⊢
  obtain ⟨z0, z1, z2, z3, _, _, _, _⟩ := cell4 gF
  exact bodyPost_ret (v := .tuple #[.agg #[.int .i64 m1, .int .i64 m2, .int .i64 m3, .int .i64 m4], .bool true]) (by simp [results, Try.results70, go_sem, z0, z1, z2, z3]) rfl ⟨rfl, hbF⟩
end Go.Proofs.Ytmdnelgnpponpaa
