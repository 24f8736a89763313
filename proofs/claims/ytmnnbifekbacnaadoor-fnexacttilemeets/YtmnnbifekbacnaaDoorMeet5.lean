/- Whether two shapes meet: the specification's. -/
import Derived.Test.YtmnnbifekbacnaaDoorMeet4
namespace Go.Proofs.YtmnnbifekbacnaaDoor
open Go.RowKit
set_option linter.unusedSimpArgs false
set_option linter.unusedVariables false
theorem spec_sm_in (ax ay bx bY cx cy dx dy : Int) (h1 : In ax) (h2 : In ay) (h3 : In bx) (h4 : In bY) (h5 : In cx) (h6 : In cy) (h7 : In dx) (h8 : In dy) (w : World) : Calls Tryd.prog 32 #[.agg #[.int .i64 ax, .int .i64 ay], .agg #[.int .i64 bx, .int .i64 bY], .agg #[.int .i64 cx, .int .i64 cy], .agg #[.int .i64 dx, .int .i64 dy]] w fun e w' => e = .returned (.bool (smeet ax ay bx bY cx cy dx dy)) ∧ Below w.heap.size w w' := by
  have h : allok [(ax, ay), (bx, bY), (cx, cy), (dx, dy)] = true := by
    simp [allok, pok_of_in h1 h2, pok_of_in h3 h4, pok_of_in h5 h6, pok_of_in h7 h8]
  have := spec_SidesMeet ax ay bx bY cx cy dx dy w
  rw [h, Bool.true_and] at this
  exact this
set_option maxRecDepth 100000 in
set_option maxHeartbeats 4000000 in
theorem spec_ShapesMeet (k1 k2 : Int) (a1 a2 : Option Addr) (c1 c2 : Nat) (ps qs : List (Int × Int)) (w : World) (hm1 : ps.length ≤ 1099511627776) (hc1 : ps.length ≤ c1) (hp1 : Pts w a1 ps) (hm2 : qs.length ≤ 1099511627776) (hc2 : qs.length ≤ c2) (hp2 : Pts w a2 qs) : Calls Tryd.prog 14 #[shv k1 a1 ps.length c1, shv k2 a2 qs.length c2] w fun e w' => e = .returned (.bool (smP k1 ps k2 qs)) ∧ Below w.heap.size w w' := by
  have HP1 := hid hp1
  have HP2 := hid hp2
  have O1 := hid (fun w' (hw : Pts w' a1 ps) => spec_ShapeOk k1 a1 c1 ps w' hm1 hc1 hw)
  have O2 := hid (fun w' (hw : Pts w' a2 qs) => spec_ShapeOk k2 a2 c2 qs w' hm2 hc2 hw)
  clear hp1 hp2
  unfold smP
  cases hs1 : shok k1 ps
  · rw [hs1] at O1
    rw [Bool.false_and, Bool.false_and]
    clear hs1
    go_enter Tryd.func14, Tryd.ntmps14
    go_wp2_with fail
    have q0 : ((w.alloc (.cells #[.int .i64 k1, .slice a1 ps.length c1] 33)).alloc (.cells #[.int .i64 k2, .slice a2 qs.length c2] 33)).cell? ⟨w.heap.size, 0, none⟩ = some (.int .i64 k1) := by (repeat (first | with_reducible assumption | (refine newcell _ _ _ _ _ _ ?_ rfl; simp; done) | with_reducible refine keepdrew ?_ | with_reducible refine keepcell (by with_reducible assumption) ?_ | with_reducible refine keepalloc ?_ _))
    have q1 : ((w.alloc (.cells #[.int .i64 k1, .slice a1 ps.length c1] 33)).alloc (.cells #[.int .i64 k2, .slice a2 qs.length c2] 33)).cell? ⟨w.heap.size, 1, none⟩ = some (.slice a1 ps.length c1) := by (repeat (first | with_reducible assumption | (refine newcell _ _ _ _ _ _ ?_ rfl; simp; done) | with_reducible refine keepdrew ?_ | with_reducible refine keepcell (by with_reducible assumption) ?_ | with_reducible refine keepalloc ?_ _))
    have q2 : ((w.alloc (.cells #[.int .i64 k1, .slice a1 ps.length c1] 33)).alloc (.cells #[.int .i64 k2, .slice a2 qs.length c2] 33)).cell? ⟨w.heap.size + 1, 0, none⟩ = some (.int .i64 k2) := by (repeat (first | with_reducible assumption | (refine newcell _ _ _ _ _ _ ?_ rfl; simp; done) | with_reducible refine keepdrew ?_ | with_reducible refine keepcell (by with_reducible assumption) ?_ | with_reducible refine keepalloc ?_ _))
    have q3 : ((w.alloc (.cells #[.int .i64 k1, .slice a1 ps.length c1] 33)).alloc (.cells #[.int .i64 k2, .slice a2 qs.length c2] 33)).cell? ⟨w.heap.size + 1, 1, none⟩ = some (.slice a2 qs.length c2) := by (repeat (first | with_reducible assumption | (refine newcell _ _ _ _ _ _ ?_ rfl; simp; done) | with_reducible refine keepdrew ?_ | with_reducible refine keepcell (by with_reducible assumption) ?_ | with_reducible refine keepalloc ?_ _))
    have hBX : Below w.heap.size w ((w.alloc (.cells #[.int .i64 k1, .slice a1 ps.length c1] 33)).alloc (.cells #[.int .i64 k2, .slice a2 qs.length c2] 33)) := by (repeat (first | with_reducible exact Below.refl _ _ | with_reducible assumption | (with_reducible refine btrans ?_ (by with_reducible assumption)) | with_reducible refine bdrew ?_ | with_reducible refine balloc ?_ _))
    have P1 := hid (HP1.out.below hBX)
    have P2 := hid (HP2.out.below hBX)
    have HBX := hid hBX
    clear hBX
    generalize ((w.alloc (.cells #[.int .i64 k1, .slice a1 ps.length c1] 33)).alloc (.cells #[.int .i64 k2, .slice a2 qs.length c2] 33)) = W at *
    refine (O1.out _ P1.out).mono ?_
    rintro e u1 ⟨rfl, hu1⟩
    replace q0 := keepcell hu1 q0
    replace q1 := keepcell hu1 q1
    replace q2 := keepcell hu1 q2
    replace q3 := keepcell hu1 q3
    replace P1 := hid (P1.out.below hu1)
    replace P2 := hid (P2.out.below hu1)
    replace HBX := hid (btrans HBX.out hu1)
    clear hu1
    go_wp2_with fail
    go_ret
    exact ⟨rfl, HBX.out⟩
  cases hs2 : shok k2 qs
  · rw [hs1] at O1
    rw [hs2] at O2
    rw [Bool.and_false, Bool.false_and]
    clear hs1 hs2
    go_enter Tryd.func14, Tryd.ntmps14
    go_wp2_with fail
    have q0 : ((w.alloc (.cells #[.int .i64 k1, .slice a1 ps.length c1] 33)).alloc (.cells #[.int .i64 k2, .slice a2 qs.length c2] 33)).cell? ⟨w.heap.size, 0, none⟩ = some (.int .i64 k1) := by (repeat (first | with_reducible assumption | (refine newcell _ _ _ _ _ _ ?_ rfl; simp; done) | with_reducible refine keepdrew ?_ | with_reducible refine keepcell (by with_reducible assumption) ?_ | with_reducible refine keepalloc ?_ _))
    have q1 : ((w.alloc (.cells #[.int .i64 k1, .slice a1 ps.length c1] 33)).alloc (.cells #[.int .i64 k2, .slice a2 qs.length c2] 33)).cell? ⟨w.heap.size, 1, none⟩ = some (.slice a1 ps.length c1) := by (repeat (first | with_reducible assumption | (refine newcell _ _ _ _ _ _ ?_ rfl; simp; done) | with_reducible refine keepdrew ?_ | with_reducible refine keepcell (by with_reducible assumption) ?_ | with_reducible refine keepalloc ?_ _))
    have q2 : ((w.alloc (.cells #[.int .i64 k1, .slice a1 ps.length c1] 33)).alloc (.cells #[.int .i64 k2, .slice a2 qs.length c2] 33)).cell? ⟨w.heap.size + 1, 0, none⟩ = some (.int .i64 k2) := by (repeat (first | with_reducible assumption | (refine newcell _ _ _ _ _ _ ?_ rfl; simp; done) | with_reducible refine keepdrew ?_ | with_reducible refine keepcell (by with_reducible assumption) ?_ | with_reducible refine keepalloc ?_ _))
    have q3 : ((w.alloc (.cells #[.int .i64 k1, .slice a1 ps.length c1] 33)).alloc (.cells #[.int .i64 k2, .slice a2 qs.length c2] 33)).cell? ⟨w.heap.size + 1, 1, none⟩ = some (.slice a2 qs.length c2) := by (repeat (first | with_reducible assumption | (refine newcell _ _ _ _ _ _ ?_ rfl; simp; done) | with_reducible refine keepdrew ?_ | with_reducible refine keepcell (by with_reducible assumption) ?_ | with_reducible refine keepalloc ?_ _))
    have hBX : Below w.heap.size w ((w.alloc (.cells #[.int .i64 k1, .slice a1 ps.length c1] 33)).alloc (.cells #[.int .i64 k2, .slice a2 qs.length c2] 33)) := by (repeat (first | with_reducible exact Below.refl _ _ | with_reducible assumption | (with_reducible refine btrans ?_ (by with_reducible assumption)) | with_reducible refine bdrew ?_ | with_reducible refine balloc ?_ _))
    have P1 := hid (HP1.out.below hBX)
    have P2 := hid (HP2.out.below hBX)
    have HBX := hid hBX
    clear hBX
    generalize ((w.alloc (.cells #[.int .i64 k1, .slice a1 ps.length c1] 33)).alloc (.cells #[.int .i64 k2, .slice a2 qs.length c2] 33)) = W at *
    refine (O1.out _ P1.out).mono ?_
    rintro e u1 ⟨rfl, hu1⟩
    replace q0 := keepcell hu1 q0
    replace q1 := keepcell hu1 q1
    replace q2 := keepcell hu1 q2
    replace q3 := keepcell hu1 q3
    replace P1 := hid (P1.out.below hu1)
    replace P2 := hid (P2.out.below hu1)
    replace HBX := hid (btrans HBX.out hu1)
    clear hu1
    go_wp2_with fail
    refine (O2.out _ P2.out).mono ?_
    rintro e u2 ⟨rfl, hu2⟩
    go_wp2_with fail
    go_ret
    exact ⟨rfl, btrans HBX.out hu2⟩
  have hlp : 0 < ps.length := by rcases shok_kind hs1 with h | h | h | h <;> omega
  have hlq : 0 < qs.length := by rcases shok_kind hs2 with h | h | h | h <;> omega
  have hpp := pok_at2 (shok_allok hs1) 0 hlp
  have hpq := pok_at2 (shok_allok hs2) 0 hlq
  have C1 := hid (fun w' (hw : Pts w' a1 ps) => spec_ShapeHas k1 (qs.getD 0 (0, 0)).1 (qs.getD 0 (0, 0)).2 a1 c1 ps w' hm1 hc1 hw)
  have C2 := hid (fun w' (hw : Pts w' a2 qs) => spec_ShapeHas k2 (ps.getD 0 (0, 0)).1 (ps.getD 0 (0, 0)).2 a2 c2 qs w' hm2 hc2 hw)
  rw [hpq, hs1, Bool.true_and, Bool.true_and] at C1
  rw [hpp, hs2, Bool.true_and, Bool.true_and] at C2
  have S1 := hid (fun w' (hw : Pts w' a1 ps) => sides_spec k1 a1 c1 ps w' hm1 hc1 hs1 hw)
  have S2 := hid (fun w' (hw : Pts w' a2 qs) => sides_spec k2 a2 c2 qs w' hm2 hc2 hs2 hw)
  have HXI := hid (sdl_in hs1)
  have HYI := hid (sdl_in hs2)
  obtain ⟨hx0, hx6⟩ := sdl_len hs1
  obtain ⟨hy0, hy6⟩ := sdl_len hs2
  have HIT := hid (fun i j => @all_hit (sdl k1 ps) (sdl k2 qs) i j)
  rw [hs1] at O1
  rw [hs2] at O2
  rw [Bool.true_and, Bool.true_and]
  clear hs1 hs2 hpp hpq
  obtain ⟨ba, oa, rfl, hba, hca⟩ : ∃ b off, a1 = some ⟨b, off, none⟩ ∧ b < w.heap.size ∧ PtsAt w b off ps := by
    rcases HP1.out with h | h
    · rw [h] at hlp; simp at hlp
    · exact h
  obtain ⟨bb, ob, rfl, hbb, hcb⟩ : ∃ b off, a2 = some ⟨b, off, none⟩ ∧ b < w.heap.size ∧ PtsAt w b off qs := by
    rcases HP2.out with h | h
    · rw [h] at hlq; simp at hlq
    · exact h
  obtain ⟨e0, e1⟩ := hca 0 hlp
  obtain ⟨e2, e3⟩ := hcb 0 hlq
  simp only [Nat.zero_mul, Nat.add_zero] at e0 e1 e2 e3
  clear hca hcb
  generalize (ps.getD 0 (0, 0)).1 = px at *
  generalize (ps.getD 0 (0, 0)).2 = py at *
  generalize (qs.getD 0 (0, 0)).1 = qx at *
  generalize (qs.getD 0 (0, 0)).2 = qy at *
  generalize hasP k1 ps qx qy = h1 at *
  generalize hasP k2 qs px py = h2 at *
  generalize sdl k1 ps = X at *
  generalize sdl k2 qs = Y at *
  have hlp' : (0 : Int) < (ps.length : Int) := by omega
  have hlq' : (0 : Int) < (qs.length : Int) := by omega
  cases h1
  rotate_left
  · rw [Bool.true_or, Bool.or_true]
    go_enter Tryd.func14, Tryd.ntmps14
    go_wp2_with fail
    have q0 : ((w.alloc (.cells #[.int .i64 k1, .slice (some ⟨ba, oa, none⟩) ps.length c1] 33)).alloc (.cells #[.int .i64 k2, .slice (some ⟨bb, ob, none⟩) qs.length c2] 33)).cell? ⟨w.heap.size, 0, none⟩ = some (.int .i64 k1) := by (repeat (first | with_reducible assumption | (refine newcell _ _ _ _ _ _ ?_ rfl; simp; done) | with_reducible refine keepdrew ?_ | with_reducible refine keepcell (by with_reducible assumption) ?_ | with_reducible refine keepalloc ?_ _))
    have q1 : ((w.alloc (.cells #[.int .i64 k1, .slice (some ⟨ba, oa, none⟩) ps.length c1] 33)).alloc (.cells #[.int .i64 k2, .slice (some ⟨bb, ob, none⟩) qs.length c2] 33)).cell? ⟨w.heap.size, 1, none⟩ = some (.slice (some ⟨ba, oa, none⟩) ps.length c1) := by (repeat (first | with_reducible assumption | (refine newcell _ _ _ _ _ _ ?_ rfl; simp; done) | with_reducible refine keepdrew ?_ | with_reducible refine keepcell (by with_reducible assumption) ?_ | with_reducible refine keepalloc ?_ _))
    have q2 : ((w.alloc (.cells #[.int .i64 k1, .slice (some ⟨ba, oa, none⟩) ps.length c1] 33)).alloc (.cells #[.int .i64 k2, .slice (some ⟨bb, ob, none⟩) qs.length c2] 33)).cell? ⟨w.heap.size + 1, 0, none⟩ = some (.int .i64 k2) := by (repeat (first | with_reducible assumption | (refine newcell _ _ _ _ _ _ ?_ rfl; simp; done) | with_reducible refine keepdrew ?_ | with_reducible refine keepcell (by with_reducible assumption) ?_ | with_reducible refine keepalloc ?_ _))
    have q3 : ((w.alloc (.cells #[.int .i64 k1, .slice (some ⟨ba, oa, none⟩) ps.length c1] 33)).alloc (.cells #[.int .i64 k2, .slice (some ⟨bb, ob, none⟩) qs.length c2] 33)).cell? ⟨w.heap.size + 1, 1, none⟩ = some (.slice (some ⟨bb, ob, none⟩) qs.length c2) := by (repeat (first | with_reducible assumption | (refine newcell _ _ _ _ _ _ ?_ rfl; simp; done) | with_reducible refine keepdrew ?_ | with_reducible refine keepcell (by with_reducible assumption) ?_ | with_reducible refine keepalloc ?_ _))
    have q4 : ((w.alloc (.cells #[.int .i64 k1, .slice (some ⟨ba, oa, none⟩) ps.length c1] 33)).alloc (.cells #[.int .i64 k2, .slice (some ⟨bb, ob, none⟩) qs.length c2] 33)).cell? ⟨ba, oa, none⟩ = some (.int .i64 px) := by (repeat (first | with_reducible assumption | (refine newcell _ _ _ _ _ _ ?_ rfl; simp; done) | with_reducible refine keepdrew ?_ | with_reducible refine keepcell (by with_reducible assumption) ?_ | with_reducible refine keepalloc ?_ _))
    have q5 : ((w.alloc (.cells #[.int .i64 k1, .slice (some ⟨ba, oa, none⟩) ps.length c1] 33)).alloc (.cells #[.int .i64 k2, .slice (some ⟨bb, ob, none⟩) qs.length c2] 33)).cell? ⟨ba, oa + 1, none⟩ = some (.int .i64 py) := by (repeat (first | with_reducible assumption | (refine newcell _ _ _ _ _ _ ?_ rfl; simp; done) | with_reducible refine keepdrew ?_ | with_reducible refine keepcell (by with_reducible assumption) ?_ | with_reducible refine keepalloc ?_ _))
    have q6 : ((w.alloc (.cells #[.int .i64 k1, .slice (some ⟨ba, oa, none⟩) ps.length c1] 33)).alloc (.cells #[.int .i64 k2, .slice (some ⟨bb, ob, none⟩) qs.length c2] 33)).cell? ⟨bb, ob, none⟩ = some (.int .i64 qx) := by (repeat (first | with_reducible assumption | (refine newcell _ _ _ _ _ _ ?_ rfl; simp; done) | with_reducible refine keepdrew ?_ | with_reducible refine keepcell (by with_reducible assumption) ?_ | with_reducible refine keepalloc ?_ _))
    have q7 : ((w.alloc (.cells #[.int .i64 k1, .slice (some ⟨ba, oa, none⟩) ps.length c1] 33)).alloc (.cells #[.int .i64 k2, .slice (some ⟨bb, ob, none⟩) qs.length c2] 33)).cell? ⟨bb, ob + 1, none⟩ = some (.int .i64 qy) := by (repeat (first | with_reducible assumption | (refine newcell _ _ _ _ _ _ ?_ rfl; simp; done) | with_reducible refine keepdrew ?_ | with_reducible refine keepcell (by with_reducible assumption) ?_ | with_reducible refine keepalloc ?_ _))
    clear e0 e1 e2 e3
    have hBX : Below w.heap.size w ((w.alloc (.cells #[.int .i64 k1, .slice (some ⟨ba, oa, none⟩) ps.length c1] 33)).alloc (.cells #[.int .i64 k2, .slice (some ⟨bb, ob, none⟩) qs.length c2] 33)) := by (repeat (first | with_reducible exact Below.refl _ _ | with_reducible assumption | (with_reducible refine btrans ?_ (by with_reducible assumption)) | with_reducible refine bdrew ?_ | with_reducible refine balloc ?_ _))
    have P1 := hid (HP1.out.below hBX)
    have P2 := hid (HP2.out.below hBX)
    have HBX := hid hBX
    clear hBX
    generalize ((w.alloc (.cells #[.int .i64 k1, .slice (some ⟨ba, oa, none⟩) ps.length c1] 33)).alloc (.cells #[.int .i64 k2, .slice (some ⟨bb, ob, none⟩) qs.length c2] 33)) = W at *
    refine (O1.out _ P1.out).mono ?_
    rintro e u1 ⟨rfl, hu1⟩
    replace q0 := keepcell hu1 q0
    replace q1 := keepcell hu1 q1
    replace q2 := keepcell hu1 q2
    replace q3 := keepcell hu1 q3
    replace q4 := keepcell hu1 q4
    replace q5 := keepcell hu1 q5
    replace q6 := keepcell hu1 q6
    replace q7 := keepcell hu1 q7
    replace P1 := hid (P1.out.below hu1)
    replace P2 := hid (P2.out.below hu1)
    replace HBX := hid (btrans HBX.out hu1)
    clear hu1
    go_wp2_with fail
    refine (O2.out _ P2.out).mono ?_
    rintro e u2 ⟨rfl, hu2⟩
    replace q0 := keepcell hu2 q0
    replace q1 := keepcell hu2 q1
    replace q2 := keepcell hu2 q2
    replace q3 := keepcell hu2 q3
    replace q4 := keepcell hu2 q4
    replace q5 := keepcell hu2 q5
    replace q6 := keepcell hu2 q6
    replace q7 := keepcell hu2 q7
    replace P1 := hid (P1.out.below hu2)
    replace P2 := hid (P2.out.below hu2)
    replace HBX := hid (btrans HBX.out hu2)
    clear hu2
    go_wp2_with fail
    refine wp_region_held_drew (S := (fun w' => w'.cell? ⟨w.heap.size, 0, none⟩ = some (.int .i64 k1) ∧ w'.cell? ⟨w.heap.size, 1, none⟩ = some (.slice (some ⟨ba, oa, none⟩) ps.length c1) ∧ w'.cell? ⟨w.heap.size + 1, 0, none⟩ = some (.int .i64 k2) ∧ w'.cell? ⟨w.heap.size + 1, 1, none⟩ = some (.slice (some ⟨bb, ob, none⟩) qs.length c2) ∧ w'.cell? ⟨ba, oa, none⟩ = some (.int .i64 px) ∧ w'.cell? ⟨ba, oa + 1, none⟩ = some (.int .i64 py) ∧ w'.cell? ⟨bb, ob, none⟩ = some (.int .i64 qx) ∧ w'.cell? ⟨bb, ob + 1, none⟩ = some (.int .i64 qy))) (by kernel_rfl) ?_ (fun hHeld => ?_)
    · (repeat' apply And.intro) <;> (repeat (first | with_reducible assumption | (refine newcell _ _ _ _ _ _ ?_ rfl; simp; done) | with_reducible refine keepdrew ?_ | with_reducible refine keepcell (by with_reducible assumption) ?_ | with_reducible refine keepalloc ?_ _))
    refine wpAnyH_take (i := 0) (v := ?_) rfl (by kernel_rfl) (by kernel_rfl) (by kernel_rfl) (fun _ _ _ h => h) (Or.inl ⟨by rfl, ?_⟩) hHeld ?_
    rotate_left
    · intro w hSw; (try dsimp only at hSw); go_simp; try (with_reducible rfl)
    try simp only [sq]
    refine wpAnyH_take (i := 1) (v := ?_) rfl (by kernel_rfl) (by kernel_rfl) (by kernel_rfl) (fun _ _ _ h => h) (Or.inl ⟨by rfl, ?_⟩) hHeld ?_
    rotate_left
    · intro w hSw; (try dsimp only at hSw); go_simp; try (with_reducible rfl)
    try simp only [sq]
    refine wpAnyH_take (i := 2) (v := ?_) rfl (by kernel_rfl) (by kernel_rfl) (by kernel_rfl) (fun _ _ _ h => h) (Or.inl ⟨by rfl, ?_⟩) hHeld ?_
    rotate_left
    · intro w hSw; (try dsimp only at hSw); go_simp; try (with_reducible rfl)
    try simp only [sq]
    refine wpAnyH_take (i := 3) (v := ?_) rfl (by kernel_rfl) (by kernel_rfl) (by kernel_rfl) (fun _ _ _ h => h) (Or.inl ⟨by rfl, ?_⟩) hHeld ?_
    rotate_left
    · intro w hSw; (try dsimp only at hSw); go_simp; try (with_reducible rfl)
    try simp only [sq]
    refine wpAnyH_take (i := 4) (v := ?_) rfl (by kernel_rfl) (by kernel_rfl) (by kernel_rfl) (fun _ _ _ h => h) (Or.inl ⟨by rfl, ?_⟩) hHeld ?_
    rotate_left
    · intro w hSw; (try dsimp only at hSw); go_simp; try (with_reducible rfl)
    try simp only [sq]
    refine wpAnyH_ready (rs := [5]) (by kernel_rfl) (by simp) ?_
    refine AllReadyH.cons rfl (fun K hK => ?_) AllReadyH.nil
    try simp only [sq]
    go_simp
    (first
        | (go_at_call 30; refine (C1.out _ (P1.out.below (by (repeat (first | with_reducible exact Below.refl _ _ | with_reducible assumption | (with_reducible refine btrans ?_ (by with_reducible assumption)) | with_reducible refine bdrew ?_ | with_reducible refine balloc ?_ _))))).mono ?_; rintro e t1 ⟨rfl, ht1⟩))
    go_wp2_with fail
    refine hK.out _ _ ?_ (fun hHeld => ?_)
    · (repeat' apply And.intro) <;> (repeat (first | with_reducible assumption | (refine newcell _ _ _ _ _ _ ?_ rfl; simp; done) | with_reducible refine keepdrew ?_ | with_reducible refine keepcell (by with_reducible assumption) ?_ | with_reducible refine keepalloc ?_ _))
    clear hK K
    try simp only [sq]
    refine wpAnyH_take (i := 6) (v := ?_) rfl (by kernel_rfl) (by kernel_rfl) (by kernel_rfl) (fun _ _ _ h => h) (Or.inl ⟨by rfl, ?_⟩) hHeld ?_
    rotate_left
    · intro w hSw; (try dsimp only at hSw); go_simp; try (with_reducible rfl)
    try simp only [sq]
    refine wpAnyH_take (i := 7) (v := undef) rfl (by kernel_rfl) (by kernel_rfl) (by kernel_rfl) (fun _ _ _ h => h) (Or.inr ⟨by rfl, rfl⟩) hHeld ?_
    try simp only [sq]
    refine wpAnyH_take (i := 8) (v := undef) rfl (by kernel_rfl) (by kernel_rfl) (by kernel_rfl) (fun _ _ _ h => h) (Or.inr ⟨by rfl, rfl⟩) hHeld ?_
    try simp only [sq]
    refine wpAnyH_take (i := 9) (v := undef) rfl (by kernel_rfl) (by kernel_rfl) (by kernel_rfl) (fun _ _ _ h => h) (Or.inr ⟨by rfl, rfl⟩) hHeld ?_
    try simp only [sq]
    refine wpAnyH_take (i := 10) (v := undef) rfl (by kernel_rfl) (by kernel_rfl) (by kernel_rfl) (fun _ _ _ h => h) (Or.inr ⟨by rfl, rfl⟩) hHeld ?_
    try simp only [sq]
    refine wpAnyH_take (i := 11) (v := undef) rfl (by kernel_rfl) (by kernel_rfl) (by kernel_rfl) (fun _ _ _ h => h) (Or.inr ⟨by rfl, rfl⟩) hHeld ?_
    try simp only [sq]
    refine wpAnyH_take (i := 12) (v := undef) rfl (by kernel_rfl) (by kernel_rfl) (by kernel_rfl) (fun _ _ _ h => h) (Or.inr ⟨by rfl, rfl⟩) hHeld ?_
    try simp only [sq]
    refine wpAnyH_take (i := 13) (v := ?_) rfl (by kernel_rfl) (by kernel_rfl) (by kernel_rfl) (fun _ _ _ h => h) (Or.inl ⟨by rfl, ?_⟩) hHeld ?_
    rotate_left
    · intro w hSw; (try dsimp only at hSw); go_simp; try (with_reducible rfl)
    try simp only [sq]
    refine wpAnyH_done (by kernel_rfl) ?_ _
    go_wp2_with fail
    go_ret
    exact ⟨rfl, btrans HBX.out (by (repeat (first | with_reducible exact Below.refl _ _ | with_reducible assumption | (with_reducible refine btrans ?_ (by with_reducible assumption)) | with_reducible refine bdrew ?_ | with_reducible refine balloc ?_ _)))⟩
  cases h2
  rotate_left
  · rw [Bool.or_true, Bool.or_true]
    go_enter Tryd.func14, Tryd.ntmps14
    go_wp2_with fail
    have q0 : ((w.alloc (.cells #[.int .i64 k1, .slice (some ⟨ba, oa, none⟩) ps.length c1] 33)).alloc (.cells #[.int .i64 k2, .slice (some ⟨bb, ob, none⟩) qs.length c2] 33)).cell? ⟨w.heap.size, 0, none⟩ = some (.int .i64 k1) := by (repeat (first | with_reducible assumption | (refine newcell _ _ _ _ _ _ ?_ rfl; simp; done) | with_reducible refine keepdrew ?_ | with_reducible refine keepcell (by with_reducible assumption) ?_ | with_reducible refine keepalloc ?_ _))
    have q1 : ((w.alloc (.cells #[.int .i64 k1, .slice (some ⟨ba, oa, none⟩) ps.length c1] 33)).alloc (.cells #[.int .i64 k2, .slice (some ⟨bb, ob, none⟩) qs.length c2] 33)).cell? ⟨w.heap.size, 1, none⟩ = some (.slice (some ⟨ba, oa, none⟩) ps.length c1) := by (repeat (first | with_reducible assumption | (refine newcell _ _ _ _ _ _ ?_ rfl; simp; done) | with_reducible refine keepdrew ?_ | with_reducible refine keepcell (by with_reducible assumption) ?_ | with_reducible refine keepalloc ?_ _))
    have q2 : ((w.alloc (.cells #[.int .i64 k1, .slice (some ⟨ba, oa, none⟩) ps.length c1] 33)).alloc (.cells #[.int .i64 k2, .slice (some ⟨bb, ob, none⟩) qs.length c2] 33)).cell? ⟨w.heap.size + 1, 0, none⟩ = some (.int .i64 k2) := by (repeat (first | with_reducible assumption | (refine newcell _ _ _ _ _ _ ?_ rfl; simp; done) | with_reducible refine keepdrew ?_ | with_reducible refine keepcell (by with_reducible assumption) ?_ | with_reducible refine keepalloc ?_ _))
    have q3 : ((w.alloc (.cells #[.int .i64 k1, .slice (some ⟨ba, oa, none⟩) ps.length c1] 33)).alloc (.cells #[.int .i64 k2, .slice (some ⟨bb, ob, none⟩) qs.length c2] 33)).cell? ⟨w.heap.size + 1, 1, none⟩ = some (.slice (some ⟨bb, ob, none⟩) qs.length c2) := by (repeat (first | with_reducible assumption | (refine newcell _ _ _ _ _ _ ?_ rfl; simp; done) | with_reducible refine keepdrew ?_ | with_reducible refine keepcell (by with_reducible assumption) ?_ | with_reducible refine keepalloc ?_ _))
    have q4 : ((w.alloc (.cells #[.int .i64 k1, .slice (some ⟨ba, oa, none⟩) ps.length c1] 33)).alloc (.cells #[.int .i64 k2, .slice (some ⟨bb, ob, none⟩) qs.length c2] 33)).cell? ⟨ba, oa, none⟩ = some (.int .i64 px) := by (repeat (first | with_reducible assumption | (refine newcell _ _ _ _ _ _ ?_ rfl; simp; done) | with_reducible refine keepdrew ?_ | with_reducible refine keepcell (by with_reducible assumption) ?_ | with_reducible refine keepalloc ?_ _))
    have q5 : ((w.alloc (.cells #[.int .i64 k1, .slice (some ⟨ba, oa, none⟩) ps.length c1] 33)).alloc (.cells #[.int .i64 k2, .slice (some ⟨bb, ob, none⟩) qs.length c2] 33)).cell? ⟨ba, oa + 1, none⟩ = some (.int .i64 py) := by (repeat (first | with_reducible assumption | (refine newcell _ _ _ _ _ _ ?_ rfl; simp; done) | with_reducible refine keepdrew ?_ | with_reducible refine keepcell (by with_reducible assumption) ?_ | with_reducible refine keepalloc ?_ _))
    have q6 : ((w.alloc (.cells #[.int .i64 k1, .slice (some ⟨ba, oa, none⟩) ps.length c1] 33)).alloc (.cells #[.int .i64 k2, .slice (some ⟨bb, ob, none⟩) qs.length c2] 33)).cell? ⟨bb, ob, none⟩ = some (.int .i64 qx) := by (repeat (first | with_reducible assumption | (refine newcell _ _ _ _ _ _ ?_ rfl; simp; done) | with_reducible refine keepdrew ?_ | with_reducible refine keepcell (by with_reducible assumption) ?_ | with_reducible refine keepalloc ?_ _))
    have q7 : ((w.alloc (.cells #[.int .i64 k1, .slice (some ⟨ba, oa, none⟩) ps.length c1] 33)).alloc (.cells #[.int .i64 k2, .slice (some ⟨bb, ob, none⟩) qs.length c2] 33)).cell? ⟨bb, ob + 1, none⟩ = some (.int .i64 qy) := by (repeat (first | with_reducible assumption | (refine newcell _ _ _ _ _ _ ?_ rfl; simp; done) | with_reducible refine keepdrew ?_ | with_reducible refine keepcell (by with_reducible assumption) ?_ | with_reducible refine keepalloc ?_ _))
    clear e0 e1 e2 e3
    have hBX : Below w.heap.size w ((w.alloc (.cells #[.int .i64 k1, .slice (some ⟨ba, oa, none⟩) ps.length c1] 33)).alloc (.cells #[.int .i64 k2, .slice (some ⟨bb, ob, none⟩) qs.length c2] 33)) := by (repeat (first | with_reducible exact Below.refl _ _ | with_reducible assumption | (with_reducible refine btrans ?_ (by with_reducible assumption)) | with_reducible refine bdrew ?_ | with_reducible refine balloc ?_ _))
    have P1 := hid (HP1.out.below hBX)
    have P2 := hid (HP2.out.below hBX)
    have HBX := hid hBX
    clear hBX
    generalize ((w.alloc (.cells #[.int .i64 k1, .slice (some ⟨ba, oa, none⟩) ps.length c1] 33)).alloc (.cells #[.int .i64 k2, .slice (some ⟨bb, ob, none⟩) qs.length c2] 33)) = W at *
    refine (O1.out _ P1.out).mono ?_
    rintro e u1 ⟨rfl, hu1⟩
    replace q0 := keepcell hu1 q0
    replace q1 := keepcell hu1 q1
    replace q2 := keepcell hu1 q2
    replace q3 := keepcell hu1 q3
    replace q4 := keepcell hu1 q4
    replace q5 := keepcell hu1 q5
    replace q6 := keepcell hu1 q6
    replace q7 := keepcell hu1 q7
    replace P1 := hid (P1.out.below hu1)
    replace P2 := hid (P2.out.below hu1)
    replace HBX := hid (btrans HBX.out hu1)
    clear hu1
    go_wp2_with fail
    refine (O2.out _ P2.out).mono ?_
    rintro e u2 ⟨rfl, hu2⟩
    replace q0 := keepcell hu2 q0
    replace q1 := keepcell hu2 q1
    replace q2 := keepcell hu2 q2
    replace q3 := keepcell hu2 q3
    replace q4 := keepcell hu2 q4
    replace q5 := keepcell hu2 q5
    replace q6 := keepcell hu2 q6
    replace q7 := keepcell hu2 q7
    replace P1 := hid (P1.out.below hu2)
    replace P2 := hid (P2.out.below hu2)
    replace HBX := hid (btrans HBX.out hu2)
    clear hu2
    go_wp2_with fail
    refine wp_region_held_drew (S := (fun w' => w'.cell? ⟨w.heap.size, 0, none⟩ = some (.int .i64 k1) ∧ w'.cell? ⟨w.heap.size, 1, none⟩ = some (.slice (some ⟨ba, oa, none⟩) ps.length c1) ∧ w'.cell? ⟨w.heap.size + 1, 0, none⟩ = some (.int .i64 k2) ∧ w'.cell? ⟨w.heap.size + 1, 1, none⟩ = some (.slice (some ⟨bb, ob, none⟩) qs.length c2) ∧ w'.cell? ⟨ba, oa, none⟩ = some (.int .i64 px) ∧ w'.cell? ⟨ba, oa + 1, none⟩ = some (.int .i64 py) ∧ w'.cell? ⟨bb, ob, none⟩ = some (.int .i64 qx) ∧ w'.cell? ⟨bb, ob + 1, none⟩ = some (.int .i64 qy))) (by kernel_rfl) ?_ (fun hHeld => ?_)
    · (repeat' apply And.intro) <;> (repeat (first | with_reducible assumption | (refine newcell _ _ _ _ _ _ ?_ rfl; simp; done) | with_reducible refine keepdrew ?_ | with_reducible refine keepcell (by with_reducible assumption) ?_ | with_reducible refine keepalloc ?_ _))
    refine wpAnyH_take (i := 0) (v := ?_) rfl (by kernel_rfl) (by kernel_rfl) (by kernel_rfl) (fun _ _ _ h => h) (Or.inl ⟨by rfl, ?_⟩) hHeld ?_
    rotate_left
    · intro w hSw; (try dsimp only at hSw); go_simp; try (with_reducible rfl)
    try simp only [sq]
    refine wpAnyH_take (i := 1) (v := ?_) rfl (by kernel_rfl) (by kernel_rfl) (by kernel_rfl) (fun _ _ _ h => h) (Or.inl ⟨by rfl, ?_⟩) hHeld ?_
    rotate_left
    · intro w hSw; (try dsimp only at hSw); go_simp; try (with_reducible rfl)
    try simp only [sq]
    refine wpAnyH_take (i := 2) (v := ?_) rfl (by kernel_rfl) (by kernel_rfl) (by kernel_rfl) (fun _ _ _ h => h) (Or.inl ⟨by rfl, ?_⟩) hHeld ?_
    rotate_left
    · intro w hSw; (try dsimp only at hSw); go_simp; try (with_reducible rfl)
    try simp only [sq]
    refine wpAnyH_take (i := 3) (v := ?_) rfl (by kernel_rfl) (by kernel_rfl) (by kernel_rfl) (fun _ _ _ h => h) (Or.inl ⟨by rfl, ?_⟩) hHeld ?_
    rotate_left
    · intro w hSw; (try dsimp only at hSw); go_simp; try (with_reducible rfl)
    try simp only [sq]
    refine wpAnyH_take (i := 4) (v := ?_) rfl (by kernel_rfl) (by kernel_rfl) (by kernel_rfl) (fun _ _ _ h => h) (Or.inl ⟨by rfl, ?_⟩) hHeld ?_
    rotate_left
    · intro w hSw; (try dsimp only at hSw); go_simp; try (with_reducible rfl)
    try simp only [sq]
    refine wpAnyH_ready (rs := [5]) (by kernel_rfl) (by simp) ?_
    refine AllReadyH.cons rfl (fun K hK => ?_) AllReadyH.nil
    try simp only [sq]
    go_simp
    (first
        | (go_at_call 30; refine (C1.out _ (P1.out.below (by (repeat (first | with_reducible exact Below.refl _ _ | with_reducible assumption | (with_reducible refine btrans ?_ (by with_reducible assumption)) | with_reducible refine bdrew ?_ | with_reducible refine balloc ?_ _))))).mono ?_; rintro e t1 ⟨rfl, ht1⟩))
    go_wp2_with fail
    refine hK.out _ _ ?_ (fun hHeld => ?_)
    · (repeat' apply And.intro) <;> (repeat (first | with_reducible assumption | (refine newcell _ _ _ _ _ _ ?_ rfl; simp; done) | with_reducible refine keepdrew ?_ | with_reducible refine keepcell (by with_reducible assumption) ?_ | with_reducible refine keepalloc ?_ _))
    clear hK K
    try simp only [sq]
    refine wpAnyH_take (i := 6) (v := ?_) rfl (by kernel_rfl) (by kernel_rfl) (by kernel_rfl) (fun _ _ _ h => h) (Or.inl ⟨by rfl, ?_⟩) hHeld ?_
    rotate_left
    · intro w hSw; (try dsimp only at hSw); go_simp; try (with_reducible rfl)
    try simp only [sq]
    refine wpAnyH_take (i := 7) (v := ?_) rfl (by kernel_rfl) (by kernel_rfl) (by kernel_rfl) (fun _ _ _ h => h) (Or.inl ⟨by rfl, ?_⟩) hHeld ?_
    rotate_left
    · intro w hSw; (try dsimp only at hSw); go_simp; try (with_reducible rfl)
    try simp only [sq]
    refine wpAnyH_take (i := 8) (v := ?_) rfl (by kernel_rfl) (by kernel_rfl) (by kernel_rfl) (fun _ _ _ h => h) (Or.inl ⟨by rfl, ?_⟩) hHeld ?_
    rotate_left
    · intro w hSw; (try dsimp only at hSw); go_simp; try (with_reducible rfl)
    try simp only [sq]
    refine wpAnyH_take (i := 9) (v := ?_) rfl (by kernel_rfl) (by kernel_rfl) (by kernel_rfl) (fun _ _ _ h => h) (Or.inl ⟨by rfl, ?_⟩) hHeld ?_
    rotate_left
    · intro w hSw; (try dsimp only at hSw); go_simp; try (with_reducible rfl)
    try simp only [sq]
    refine wpAnyH_take (i := 10) (v := ?_) rfl (by kernel_rfl) (by kernel_rfl) (by kernel_rfl) (fun _ _ _ h => h) (Or.inl ⟨by rfl, ?_⟩) hHeld ?_
    rotate_left
    · intro w hSw; (try dsimp only at hSw); go_simp; try (with_reducible rfl)
    try simp only [sq]
    refine wpAnyH_take (i := 11) (v := ?_) rfl (by kernel_rfl) (by kernel_rfl) (by kernel_rfl) (fun _ _ _ h => h) (Or.inl ⟨by rfl, ?_⟩) hHeld ?_
    rotate_left
    · intro w hSw; (try dsimp only at hSw); go_simp; try (with_reducible rfl)
    try simp only [sq]
    refine wpAnyH_ready (rs := [12]) (by kernel_rfl) (by simp) ?_
    refine AllReadyH.cons rfl (fun K hK => ?_) AllReadyH.nil
    try simp only [sq]
    go_simp
    (first
        | (go_at_call 30; refine (C2.out _ (P2.out.below (by (repeat (first | with_reducible exact Below.refl _ _ | with_reducible assumption | (with_reducible refine btrans ?_ (by with_reducible assumption)) | with_reducible refine bdrew ?_ | with_reducible refine balloc ?_ _))))).mono ?_; rintro e t2 ⟨rfl, ht2⟩))
    go_wp2_with fail
    refine hK.out _ _ ?_ (fun hHeld => ?_)
    · (repeat' apply And.intro) <;> (repeat (first | with_reducible assumption | (refine newcell _ _ _ _ _ _ ?_ rfl; simp; done) | with_reducible refine keepdrew ?_ | with_reducible refine keepcell (by with_reducible assumption) ?_ | with_reducible refine keepalloc ?_ _))
    clear hK K
    try simp only [sq]
    refine wpAnyH_take (i := 13) (v := ?_) rfl (by kernel_rfl) (by kernel_rfl) (by kernel_rfl) (fun _ _ _ h => h) (Or.inl ⟨by rfl, ?_⟩) hHeld ?_
    rotate_left
    · intro w hSw; (try dsimp only at hSw); go_simp; try (with_reducible rfl)
    try simp only [sq]
    refine wpAnyH_done (by kernel_rfl) ?_ _
    go_wp2_with fail
    go_ret
    exact ⟨rfl, btrans HBX.out (by (repeat (first | with_reducible exact Below.refl _ _ | with_reducible assumption | (with_reducible refine btrans ?_ (by with_reducible assumption)) | with_reducible refine bdrew ?_ | with_reducible refine balloc ?_ _)))⟩
  rw [Bool.or_false, Bool.or_false]
  go_enter Tryd.func14, Tryd.ntmps14
  go_wp2_with fail
  have q0 : ((w.alloc (.cells #[.int .i64 k1, .slice (some ⟨ba, oa, none⟩) ps.length c1] 33)).alloc (.cells #[.int .i64 k2, .slice (some ⟨bb, ob, none⟩) qs.length c2] 33)).cell? ⟨w.heap.size, 0, none⟩ = some (.int .i64 k1) := by (repeat (first | with_reducible assumption | (refine newcell _ _ _ _ _ _ ?_ rfl; simp; done) | with_reducible refine keepdrew ?_ | with_reducible refine keepcell (by with_reducible assumption) ?_ | with_reducible refine keepalloc ?_ _))
  have q1 : ((w.alloc (.cells #[.int .i64 k1, .slice (some ⟨ba, oa, none⟩) ps.length c1] 33)).alloc (.cells #[.int .i64 k2, .slice (some ⟨bb, ob, none⟩) qs.length c2] 33)).cell? ⟨w.heap.size, 1, none⟩ = some (.slice (some ⟨ba, oa, none⟩) ps.length c1) := by (repeat (first | with_reducible assumption | (refine newcell _ _ _ _ _ _ ?_ rfl; simp; done) | with_reducible refine keepdrew ?_ | with_reducible refine keepcell (by with_reducible assumption) ?_ | with_reducible refine keepalloc ?_ _))
  have q2 : ((w.alloc (.cells #[.int .i64 k1, .slice (some ⟨ba, oa, none⟩) ps.length c1] 33)).alloc (.cells #[.int .i64 k2, .slice (some ⟨bb, ob, none⟩) qs.length c2] 33)).cell? ⟨w.heap.size + 1, 0, none⟩ = some (.int .i64 k2) := by (repeat (first | with_reducible assumption | (refine newcell _ _ _ _ _ _ ?_ rfl; simp; done) | with_reducible refine keepdrew ?_ | with_reducible refine keepcell (by with_reducible assumption) ?_ | with_reducible refine keepalloc ?_ _))
  have q3 : ((w.alloc (.cells #[.int .i64 k1, .slice (some ⟨ba, oa, none⟩) ps.length c1] 33)).alloc (.cells #[.int .i64 k2, .slice (some ⟨bb, ob, none⟩) qs.length c2] 33)).cell? ⟨w.heap.size + 1, 1, none⟩ = some (.slice (some ⟨bb, ob, none⟩) qs.length c2) := by (repeat (first | with_reducible assumption | (refine newcell _ _ _ _ _ _ ?_ rfl; simp; done) | with_reducible refine keepdrew ?_ | with_reducible refine keepcell (by with_reducible assumption) ?_ | with_reducible refine keepalloc ?_ _))
  have q4 : ((w.alloc (.cells #[.int .i64 k1, .slice (some ⟨ba, oa, none⟩) ps.length c1] 33)).alloc (.cells #[.int .i64 k2, .slice (some ⟨bb, ob, none⟩) qs.length c2] 33)).cell? ⟨ba, oa, none⟩ = some (.int .i64 px) := by (repeat (first | with_reducible assumption | (refine newcell _ _ _ _ _ _ ?_ rfl; simp; done) | with_reducible refine keepdrew ?_ | with_reducible refine keepcell (by with_reducible assumption) ?_ | with_reducible refine keepalloc ?_ _))
  have q5 : ((w.alloc (.cells #[.int .i64 k1, .slice (some ⟨ba, oa, none⟩) ps.length c1] 33)).alloc (.cells #[.int .i64 k2, .slice (some ⟨bb, ob, none⟩) qs.length c2] 33)).cell? ⟨ba, oa + 1, none⟩ = some (.int .i64 py) := by (repeat (first | with_reducible assumption | (refine newcell _ _ _ _ _ _ ?_ rfl; simp; done) | with_reducible refine keepdrew ?_ | with_reducible refine keepcell (by with_reducible assumption) ?_ | with_reducible refine keepalloc ?_ _))
  have q6 : ((w.alloc (.cells #[.int .i64 k1, .slice (some ⟨ba, oa, none⟩) ps.length c1] 33)).alloc (.cells #[.int .i64 k2, .slice (some ⟨bb, ob, none⟩) qs.length c2] 33)).cell? ⟨bb, ob, none⟩ = some (.int .i64 qx) := by (repeat (first | with_reducible assumption | (refine newcell _ _ _ _ _ _ ?_ rfl; simp; done) | with_reducible refine keepdrew ?_ | with_reducible refine keepcell (by with_reducible assumption) ?_ | with_reducible refine keepalloc ?_ _))
  have q7 : ((w.alloc (.cells #[.int .i64 k1, .slice (some ⟨ba, oa, none⟩) ps.length c1] 33)).alloc (.cells #[.int .i64 k2, .slice (some ⟨bb, ob, none⟩) qs.length c2] 33)).cell? ⟨bb, ob + 1, none⟩ = some (.int .i64 qy) := by (repeat (first | with_reducible assumption | (refine newcell _ _ _ _ _ _ ?_ rfl; simp; done) | with_reducible refine keepdrew ?_ | with_reducible refine keepcell (by with_reducible assumption) ?_ | with_reducible refine keepalloc ?_ _))
  clear e0 e1 e2 e3
  have hBX : Below w.heap.size w ((w.alloc (.cells #[.int .i64 k1, .slice (some ⟨ba, oa, none⟩) ps.length c1] 33)).alloc (.cells #[.int .i64 k2, .slice (some ⟨bb, ob, none⟩) qs.length c2] 33)) := by (repeat (first | with_reducible exact Below.refl _ _ | with_reducible assumption | (with_reducible refine btrans ?_ (by with_reducible assumption)) | with_reducible refine bdrew ?_ | with_reducible refine balloc ?_ _))
  have P1 := hid (HP1.out.below hBX)
  have P2 := hid (HP2.out.below hBX)
  have HBX := hid hBX
  clear hBX
  generalize ((w.alloc (.cells #[.int .i64 k1, .slice (some ⟨ba, oa, none⟩) ps.length c1] 33)).alloc (.cells #[.int .i64 k2, .slice (some ⟨bb, ob, none⟩) qs.length c2] 33)) = W at *
  refine (O1.out _ P1.out).mono ?_
  rintro e u1 ⟨rfl, hu1⟩
  replace q0 := keepcell hu1 q0
  replace q1 := keepcell hu1 q1
  replace q2 := keepcell hu1 q2
  replace q3 := keepcell hu1 q3
  replace q4 := keepcell hu1 q4
  replace q5 := keepcell hu1 q5
  replace q6 := keepcell hu1 q6
  replace q7 := keepcell hu1 q7
  replace P1 := hid (P1.out.below hu1)
  replace P2 := hid (P2.out.below hu1)
  replace HBX := hid (btrans HBX.out hu1)
  clear hu1
  go_wp2_with fail
  refine (O2.out _ P2.out).mono ?_
  rintro e u2 ⟨rfl, hu2⟩
  replace q0 := keepcell hu2 q0
  replace q1 := keepcell hu2 q1
  replace q2 := keepcell hu2 q2
  replace q3 := keepcell hu2 q3
  replace q4 := keepcell hu2 q4
  replace q5 := keepcell hu2 q5
  replace q6 := keepcell hu2 q6
  replace q7 := keepcell hu2 q7
  replace P1 := hid (P1.out.below hu2)
  replace P2 := hid (P2.out.below hu2)
  replace HBX := hid (btrans HBX.out hu2)
  clear hu2
  go_wp2_with fail
  refine wp_region_held_drew (S := (fun w' => w'.cell? ⟨w.heap.size, 0, none⟩ = some (.int .i64 k1) ∧ w'.cell? ⟨w.heap.size, 1, none⟩ = some (.slice (some ⟨ba, oa, none⟩) ps.length c1) ∧ w'.cell? ⟨w.heap.size + 1, 0, none⟩ = some (.int .i64 k2) ∧ w'.cell? ⟨w.heap.size + 1, 1, none⟩ = some (.slice (some ⟨bb, ob, none⟩) qs.length c2) ∧ w'.cell? ⟨ba, oa, none⟩ = some (.int .i64 px) ∧ w'.cell? ⟨ba, oa + 1, none⟩ = some (.int .i64 py) ∧ w'.cell? ⟨bb, ob, none⟩ = some (.int .i64 qx) ∧ w'.cell? ⟨bb, ob + 1, none⟩ = some (.int .i64 qy))) (by kernel_rfl) ?_ (fun hHeld => ?_)
  · (repeat' apply And.intro) <;> (repeat (first | with_reducible assumption | (refine newcell _ _ _ _ _ _ ?_ rfl; simp; done) | with_reducible refine keepdrew ?_ | with_reducible refine keepcell (by with_reducible assumption) ?_ | with_reducible refine keepalloc ?_ _))
  refine wpAnyH_take (i := 0) (v := ?_) rfl (by kernel_rfl) (by kernel_rfl) (by kernel_rfl) (fun _ _ _ h => h) (Or.inl ⟨by rfl, ?_⟩) hHeld ?_
  rotate_left
  · intro w hSw; (try dsimp only at hSw); go_simp; try (with_reducible rfl)
  try simp only [sq]
  refine wpAnyH_take (i := 1) (v := ?_) rfl (by kernel_rfl) (by kernel_rfl) (by kernel_rfl) (fun _ _ _ h => h) (Or.inl ⟨by rfl, ?_⟩) hHeld ?_
  rotate_left
  · intro w hSw; (try dsimp only at hSw); go_simp; try (with_reducible rfl)
  try simp only [sq]
  refine wpAnyH_take (i := 2) (v := ?_) rfl (by kernel_rfl) (by kernel_rfl) (by kernel_rfl) (fun _ _ _ h => h) (Or.inl ⟨by rfl, ?_⟩) hHeld ?_
  rotate_left
  · intro w hSw; (try dsimp only at hSw); go_simp; try (with_reducible rfl)
  try simp only [sq]
  refine wpAnyH_take (i := 3) (v := ?_) rfl (by kernel_rfl) (by kernel_rfl) (by kernel_rfl) (fun _ _ _ h => h) (Or.inl ⟨by rfl, ?_⟩) hHeld ?_
  rotate_left
  · intro w hSw; (try dsimp only at hSw); go_simp; try (with_reducible rfl)
  try simp only [sq]
  refine wpAnyH_take (i := 4) (v := ?_) rfl (by kernel_rfl) (by kernel_rfl) (by kernel_rfl) (fun _ _ _ h => h) (Or.inl ⟨by rfl, ?_⟩) hHeld ?_
  rotate_left
  · intro w hSw; (try dsimp only at hSw); go_simp; try (with_reducible rfl)
  try simp only [sq]
  refine wpAnyH_ready (rs := [5]) (by kernel_rfl) (by simp) ?_
  refine AllReadyH.cons rfl (fun K hK => ?_) AllReadyH.nil
  try simp only [sq]
  go_simp
  (first
      | (go_at_call 30; refine (C1.out _ (P1.out.below (by (repeat (first | with_reducible exact Below.refl _ _ | with_reducible assumption | (with_reducible refine btrans ?_ (by with_reducible assumption)) | with_reducible refine bdrew ?_ | with_reducible refine balloc ?_ _))))).mono ?_; rintro e t1 ⟨rfl, ht1⟩))
  go_wp2_with fail
  refine hK.out _ _ ?_ (fun hHeld => ?_)
  · (repeat' apply And.intro) <;> (repeat (first | with_reducible assumption | (refine newcell _ _ _ _ _ _ ?_ rfl; simp; done) | with_reducible refine keepdrew ?_ | with_reducible refine keepcell (by with_reducible assumption) ?_ | with_reducible refine keepalloc ?_ _))
  clear hK K
  try simp only [sq]
  refine wpAnyH_take (i := 6) (v := ?_) rfl (by kernel_rfl) (by kernel_rfl) (by kernel_rfl) (fun _ _ _ h => h) (Or.inl ⟨by rfl, ?_⟩) hHeld ?_
  rotate_left
  · intro w hSw; (try dsimp only at hSw); go_simp; try (with_reducible rfl)
  try simp only [sq]
  refine wpAnyH_take (i := 7) (v := ?_) rfl (by kernel_rfl) (by kernel_rfl) (by kernel_rfl) (fun _ _ _ h => h) (Or.inl ⟨by rfl, ?_⟩) hHeld ?_
  rotate_left
  · intro w hSw; (try dsimp only at hSw); go_simp; try (with_reducible rfl)
  try simp only [sq]
  refine wpAnyH_take (i := 8) (v := ?_) rfl (by kernel_rfl) (by kernel_rfl) (by kernel_rfl) (fun _ _ _ h => h) (Or.inl ⟨by rfl, ?_⟩) hHeld ?_
  rotate_left
  · intro w hSw; (try dsimp only at hSw); go_simp; try (with_reducible rfl)
  try simp only [sq]
  refine wpAnyH_take (i := 9) (v := ?_) rfl (by kernel_rfl) (by kernel_rfl) (by kernel_rfl) (fun _ _ _ h => h) (Or.inl ⟨by rfl, ?_⟩) hHeld ?_
  rotate_left
  · intro w hSw; (try dsimp only at hSw); go_simp; try (with_reducible rfl)
  try simp only [sq]
  refine wpAnyH_take (i := 10) (v := ?_) rfl (by kernel_rfl) (by kernel_rfl) (by kernel_rfl) (fun _ _ _ h => h) (Or.inl ⟨by rfl, ?_⟩) hHeld ?_
  rotate_left
  · intro w hSw; (try dsimp only at hSw); go_simp; try (with_reducible rfl)
  try simp only [sq]
  refine wpAnyH_take (i := 11) (v := ?_) rfl (by kernel_rfl) (by kernel_rfl) (by kernel_rfl) (fun _ _ _ h => h) (Or.inl ⟨by rfl, ?_⟩) hHeld ?_
  rotate_left
  · intro w hSw; (try dsimp only at hSw); go_simp; try (with_reducible rfl)
  try simp only [sq]
  refine wpAnyH_ready (rs := [12]) (by kernel_rfl) (by simp) ?_
  refine AllReadyH.cons rfl (fun K hK => ?_) AllReadyH.nil
  try simp only [sq]
  go_simp
  (first
      | (go_at_call 30; refine (C2.out _ (P2.out.below (by (repeat (first | with_reducible exact Below.refl _ _ | with_reducible assumption | (with_reducible refine btrans ?_ (by with_reducible assumption)) | with_reducible refine bdrew ?_ | with_reducible refine balloc ?_ _))))).mono ?_; rintro e t2 ⟨rfl, ht2⟩))
  go_wp2_with fail
  refine hK.out _ _ ?_ (fun hHeld => ?_)
  · (repeat' apply And.intro) <;> (repeat (first | with_reducible assumption | (refine newcell _ _ _ _ _ _ ?_ rfl; simp; done) | with_reducible refine keepdrew ?_ | with_reducible refine keepcell (by with_reducible assumption) ?_ | with_reducible refine keepalloc ?_ _))
  clear hK K
  try simp only [sq]
  refine wpAnyH_take (i := 13) (v := ?_) rfl (by kernel_rfl) (by kernel_rfl) (by kernel_rfl) (fun _ _ _ h => h) (Or.inl ⟨by rfl, ?_⟩) hHeld ?_
  rotate_left
  · intro w hSw; (try dsimp only at hSw); go_simp; try (with_reducible rfl)
  try simp only [sq]
  refine wpAnyH_done (by kernel_rfl) ?_ _
  have hb2 : Below u2.heap.size u2 t2 := by (repeat (first | with_reducible exact Below.refl _ _ | with_reducible assumption | (with_reducible refine btrans ?_ (by with_reducible assumption)) | with_reducible refine bdrew ?_ | with_reducible refine balloc ?_ _))
  replace q0 := keepcell hb2 q0
  replace q1 := keepcell hb2 q1
  replace q2 := keepcell hb2 q2
  replace q3 := keepcell hb2 q3
  replace P1 := hid (P1.out.below hb2)
  replace P2 := hid (P2.out.below hb2)
  replace HBX := hid (btrans HBX.out hb2)
  clear hb2 ht1 ht2 hHeld q4 q5 q6 q7
  go_wp2_with fail
  refine wp_region_held_drew (S := (fun w' => w'.cell? ⟨w.heap.size, 0, none⟩ = some (.int .i64 k1) ∧ w'.cell? ⟨w.heap.size, 1, none⟩ = some (.slice (some ⟨ba, oa, none⟩) ps.length c1) ∧ w'.cell? ⟨w.heap.size + 1, 0, none⟩ = some (.int .i64 k2) ∧ w'.cell? ⟨w.heap.size + 1, 1, none⟩ = some (.slice (some ⟨bb, ob, none⟩) qs.length c2))) (by kernel_rfl) ?_ (fun hHeld => ?_)
  · (repeat' apply And.intro) <;> (repeat (first | with_reducible assumption | (refine newcell _ _ _ _ _ _ ?_ rfl; simp; done) | with_reducible refine keepdrew ?_ | with_reducible refine keepcell (by with_reducible assumption) ?_ | with_reducible refine keepalloc ?_ _))
  refine wpAnyH_take (i := 0) (v := ?_) rfl (by kernel_rfl) (by kernel_rfl) (by kernel_rfl) (fun _ _ _ h => h) (Or.inl ⟨by rfl, ?_⟩) hHeld ?_
  rotate_left
  · intro w hSw; (try dsimp only at hSw); go_simp; try (with_reducible rfl)
  try simp only [sq]
  refine wpAnyH_take (i := 2) (v := ?_) rfl (by kernel_rfl) (by kernel_rfl) (by kernel_rfl) (fun _ _ _ h => h) (Or.inl ⟨by rfl, ?_⟩) hHeld ?_
  rotate_left
  · intro w hSw; (try dsimp only at hSw); go_simp; try (with_reducible rfl)
  try simp only [sq]
  refine wpAnyH_ready (rs := [1]) (by kernel_rfl) (by simp) ?_
  refine AllReadyH.cons rfl (fun K hK => ?_) AllReadyH.nil
  try simp only [sq]
  go_simp
  (first
      | (go_at_call 31; refine (S1.out _ (P1.out.below (by (repeat (first | with_reducible exact Below.refl _ _ | with_reducible assumption | (with_reducible refine btrans ?_ (by with_reducible assumption)) | with_reducible refine bdrew ?_ | with_reducible refine balloc ?_ _))))).mono ?_; rintro e s1 ⟨b1, p1, rfl, g1, l1, m1, hsx, hs1'⟩; have SX := hid hsx; clear hsx))
  go_wp2_with fail
  refine hK.out _ _ ?_ (fun hHeld => ?_)
  · (repeat' apply And.intro) <;> (repeat (first | with_reducible assumption | (refine newcell _ _ _ _ _ _ ?_ rfl; simp; done) | with_reducible refine keepdrew ?_ | with_reducible refine keepcell (by with_reducible assumption) ?_ | with_reducible refine keepalloc ?_ _))
  clear hK K
  try simp only [sq]
  refine wpAnyH_ready (rs := [3]) (by kernel_rfl) (by simp) ?_
  refine AllReadyH.cons rfl (fun K hK => ?_) AllReadyH.nil
  try simp only [sq]
  go_simp
  (first
      | (go_at_call 31; refine (S2.out _ (P2.out.below (by (repeat (first | with_reducible exact Below.refl _ _ | with_reducible assumption | (with_reducible refine btrans ?_ (by with_reducible assumption)) | with_reducible refine bdrew ?_ | with_reducible refine balloc ?_ _))))).mono ?_; rintro e s2 ⟨b2, p2, rfl, g2, l2, m2, hsy, hs2'⟩; replace SX := hid (SX.out.below l1 hs2'); have SY := hid hsy; clear hsy))
  go_wp2_with fail
  refine hK.out _ _ ?_ (fun hHeld => ?_)
  · (repeat' apply And.intro) <;> (repeat (first | with_reducible assumption | (refine newcell _ _ _ _ _ _ ?_ rfl; simp; done) | with_reducible refine keepdrew ?_ | with_reducible refine keepcell (by with_reducible assumption) ?_ | with_reducible refine keepalloc ?_ _))
  clear hK K
  try simp only [sq]
  refine wpAnyH_take (i := 4) (v := ?_) rfl (by kernel_rfl) (by kernel_rfl) (by kernel_rfl) (fun _ _ _ h => h) (Or.inl ⟨by rfl, ?_⟩) hHeld ?_
  rotate_left
  · intro w hSw; (try dsimp only at hSw); go_simp; try (with_reducible rfl)
  try simp only [sq]
  refine wpAnyH_take (i := 5) (v := ?_) rfl (by kernel_rfl) (by kernel_rfl) (by kernel_rfl) (fun _ _ _ h => h) (Or.inl ⟨by rfl, ?_⟩) hHeld ?_
  rotate_left
  · intro w hSw; (try dsimp only at hSw); go_simp; try (with_reducible rfl)
  try simp only [sq]
  refine wpAnyH_done (by kernel_rfl) ?_ _
  have hb2 : Below t2.heap.size t2 s2 := by (repeat (first | with_reducible exact Below.refl _ _ | with_reducible assumption | (with_reducible refine btrans ?_ (by with_reducible assumption)) | with_reducible refine bdrew ?_ | with_reducible refine balloc ?_ _))
  have HB := hid (btrans HBX.out hb2)
  have lx : b1 < s2.heap.size := by have := hs2'.size; omega
  clear hb2 hs1' hs2' hHeld q0 q1 q2 q3 g1 g2 l1 HBX P1 P2
  go_wp2_with fail
  go_loopw [7] (fun ti wr => ∃ i : Nat, ti = .int .i64 i ∧ i ≤ X.length ∧ Hid (allM X Y i = false) ∧ Hid (Below s2.heap.size s2 wr)) (fun ti _ => X.length - (intOf ti).toNat)
  case atStart => exact ⟨0, rfl, Nat.zero_le _, hid rfl, hid (Below.refl _ _)⟩
  case round =>
    obtain ⟨i, rfl, hi, HA, BW⟩ := hrel
    by_cases hlt : i < X.length
    · obtain ⟨ia1, ia2, ia3, ia4⟩ := HXI.out i hlt
      have hcx := SX.out.below lx BW.out i hlt
      have hiti := HIT.out i
      have hrowi : allM X Y (i + 1) = (allM X Y i || rowM (X.getD i (0, 0, 0, 0)) Y Y.length) := rfl
      rw [HA.out, Bool.false_or] at hrowi
      generalize hsb : X.getD i (0, 0, 0, 0) = sa at *
      obtain ⟨ax, ay, bx, bY⟩ := sa
      have HITI := hid (fun j => hiti j hlt)
      have HROWI := hid hrowi
      obtain ⟨c0, c1', c2', c3⟩ := hcx
      simp only [Nat.zero_add] at c0 c1' c2' c3
      clear hsb hiti hrowi
      dsimp only at ia1 ia2 ia3 ia4
      have hlt' : (i : Int) < (X.length : Int) := by omega
      go_wp2_with fail
      generalize wr = V at *
      go_loopw [8] (fun tj wv => ∃ j : Nat, tj = .int .i64 j ∧ j ≤ Y.length ∧ Hid (rowM (ax, ay, bx, bY) Y j = false) ∧ Hid (Below V.heap.size V wv)) (fun tj _ => Y.length - (intOf tj).toNat)
      case atStart => exact ⟨0, rfl, Nat.zero_le _, hid rfl, hid (Below.refl _ _)⟩
      case round =>
        obtain ⟨j, rfl, hj, HR, BX⟩ := hrel
        by_cases hltj : j < Y.length
        · obtain ⟨d0, d1, d2, d3⟩ := SY.out.below l2 (btrans BW.out BX.out) j hltj
          simp only [Nat.zero_add] at d0 d1 d2 d3
          obtain ⟨ib1, ib2, ib3, ib4⟩ := HYI.out j hltj
          have hhj := HITI.out j hltj HR.out
          have hrj : rowM (ax, ay, bx, bY) Y (j + 1) = (rowM (ax, ay, bx, bY) Y j || meetq (ax, ay, bx, bY) (Y.getD j (0, 0, 0, 0))) := rfl
          rw [HR.out, Bool.false_or] at hrj
          have hmt : meetq (ax, ay, bx, bY) (Y.getD j (0, 0, 0, 0)) = smeet ax ay bx bY (Y.getD j (0, 0, 0, 0)).1 (Y.getD j (0, 0, 0, 0)).2.1 (Y.getD j (0, 0, 0, 0)).2.2.1 (Y.getD j (0, 0, 0, 0)).2.2.2 := rfl
          have hmc := fun w' => spec_sm_in ax ay bx bY (Y.getD j (0, 0, 0, 0)).1 (Y.getD j (0, 0, 0, 0)).2.1 (Y.getD j (0, 0, 0, 0)).2.2.1 (Y.getD j (0, 0, 0, 0)).2.2.2 ia1 ia2 ia3 ia4 ib1 ib2 ib3 ib4 w'
          rw [← hmt] at hmc
          clear hmt ib1 ib2 ib3 ib4
          have HMC := hid hmc
          have HHJ := hid hhj
          have HRJ := hid hrj
          clear hmc hhj hrj
          generalize meetq (ax, ay, bx, bY) (Y.getD j (0, 0, 0, 0)) = mt at *
          generalize (Y.getD j (0, 0, 0, 0)).1 = ex at *
          generalize (Y.getD j (0, 0, 0, 0)).2.1 = ey at *
          generalize (Y.getD j (0, 0, 0, 0)).2.2.1 = fx at *
          generalize (Y.getD j (0, 0, 0, 0)).2.2.2 = fy at *
          have hltj' : (j : Int) < (Y.length : Int) := by omega
          have hi0 : (0 : Int) ≤ (i : Int) := by omega
          have hj0 : (0 : Int) ≤ (j : Int) := by omega
          have k0 := keepcell BX.out c0
          have k1' := keepcell BX.out c1'
          have k2' := keepcell BX.out c2'
          have k3 := keepcell BX.out c3
          go_wp2_with fail
          go_region_held3 (fun w' => w'.cell? ⟨b1, i * 4, none⟩ = some (.int .i64 ax) ∧ w'.cell? ⟨b1, i * 4 + 1, none⟩ = some (.int .i64 ay) ∧ w'.cell? ⟨b1, i * 4 + 2, none⟩ = some (.int .i64 bx) ∧ w'.cell? ⟨b1, i * 4 + 3, none⟩ = some (.int .i64 bY) ∧ w'.cell? ⟨b2, j * 4, none⟩ = some (.int .i64 ex) ∧ w'.cell? ⟨b2, j * 4 + 1, none⟩ = some (.int .i64 ey) ∧ w'.cell? ⟨b2, j * 4 + 2, none⟩ = some (.int .i64 fx) ∧ w'.cell? ⟨b2, j * 4 + 3, none⟩ = some (.int .i64 fy)) ((go_split_ands; (repeat' apply And.intro) <;> (repeat (first | with_reducible assumption | (refine newcell _ _ _ _ _ _ ?_ rfl; simp; done) | with_reducible refine keepdrew ?_ | with_reducible refine keepcell (by with_reducible assumption) ?_ | with_reducible refine keepalloc ?_ _))))
            (first
              | (go_at_call 32; refine (HMC.out _).mono ?_; rintro e u5 ⟨rfl, hu5⟩))
          have hBu : Below V.heap.size V u5 := btrans BX.out (by (repeat (first | with_reducible exact Below.refl _ _ | with_reducible assumption | (with_reducible refine btrans ?_ (by with_reducible assumption)) | with_reducible refine bdrew ?_ | with_reducible refine balloc ?_ _)))
          cases mt
          · go_wp2_with fail
            go_roundw
            case rel => exact ⟨j + 1, by go_num, by omega, hid HRJ.out, hid hBu⟩
            case measure => simp [intOf]; omega
          · go_wp2_with fail
            go_ret
            exact ⟨by rw [HHJ.out (by simp)]; rfl, btrans HB.out (btrans BW.out hBu)⟩
        · obtain rfl : j = Y.length := by omega
          go_wp2_with fail
          go_roundw
          case rel => exact ⟨i + 1, by go_num, by omega, hid (by rw [HROWI.out]; exact HR.out), hid (btrans BW.out BX.out)⟩
          case measure => simp [intOf]; omega
    · obtain rfl : i = X.length := by omega
      go_wp2_with fail
      go_ret
      exact ⟨by rw [HA.out]; rfl, btrans HB.out BW.out⟩
end Go.Proofs.YtmnnbifekbacnaaDoor
