/- Texts of stores, joined: Meet5, MeetL, Bd. -/
import Derived.Test.YtpgcnadmhbjlgaaGreatJ4
import Derived.Test.YtpgcnadmhbjlgaaGreatJ2
namespace Go.Proofs.YtpgcnadmhbjlgaaGreat
open Go.RowKit
set_option linter.unusedSimpArgs false
set_option linter.unusedVariables false
theorem spec_sm_in (ax ay bx bY cx cy dx dy : Int) (h1 : In ax) (h2 : In ay) (h3 : In bx) (h4 : In bY) (h5 : In cx) (h6 : In cy) (h7 : In dx) (h8 : In dy) (w : World) : Calls Tryz.prog 38 #[.agg #[.int .i64 ax, .int .i64 ay], .agg #[.int .i64 bx, .int .i64 bY], .agg #[.int .i64 cx, .int .i64 cy], .agg #[.int .i64 dx, .int .i64 dy]] w fun e w' => e = .returned (.bool (smeet ax ay bx bY cx cy dx dy)) ∧ Below w.heap.size w w' := by
  have h : allok [(ax, ay), (bx, bY), (cx, cy), (dx, dy)] = true := by
    simp [allok, pok_of_in h1 h2, pok_of_in h3 h4, pok_of_in h5 h6, pok_of_in h7 h8]
  have := spec_SidesMeet ax ay bx bY cx cy dx dy w
  rw [h, Bool.true_and] at this
  exact this
set_option maxRecDepth 100000 in
set_option maxHeartbeats 4000000 in
theorem spec_ShapesMeet (k1 k2 : Int) (a1 a2 : Option Addr) (c1 c2 : Nat) (ps qs : List (Int × Int)) (w : World) (hm1 : ps.length ≤ 1099511627776) (hc1 : ps.length ≤ c1) (hp1 : Pts w a1 ps) (hm2 : qs.length ≤ 1099511627776) (hc2 : qs.length ≤ c2) (hp2 : Pts w a2 qs) : Calls Tryz.prog 20 #[shv k1 a1 ps.length c1, shv k2 a2 qs.length c2] w fun e w' => e = .returned (.bool (smP k1 ps k2 qs)) ∧ Below w.heap.size w w' := by
  have HP1 := hid hp1
  have HP2 := hid hp2
  have O1 := hid (fun w' (hw : Pts w' a1 ps) => spec_ShapeOk k1 a1 c1 ps w' hm1 hc1 hw)
  have O2 := hid (fun w' (hw : Pts w' a2 qs) => spec_ShapeOk k2 a2 c2 qs w' hm2 hc2 hw)
  clear hp1 hp2
  unfold smP
  cases hs1 : shok k1 ps
  · rw [hs1] at O1
    rw [Bool.false_and, Bool.false_and]
    clear hs1
    go_enter Tryz.func20, Tryz.ntmps20
    go_wp2_with fail
    have q0 : ((w.alloc (.cells #[.int .i64 k1, .slice a1 ps.length c1] 47)).alloc (.cells #[.int .i64 k2, .slice a2 qs.length c2] 47)).cell? ⟨w.heap.size, 0, none⟩ = some (.int .i64 k1) := by (repeat (first | with_reducible assumption | (refine newcell _ _ _ _ _ _ ?_ rfl; simp; done) | with_reducible refine keepdrew ?_ | with_reducible refine keepcell (by with_reducible assumption) ?_ | with_reducible refine keepalloc ?_ _))
    have q1 : ((w.alloc (.cells #[.int .i64 k1, .slice a1 ps.length c1] 47)).alloc (.cells #[.int .i64 k2, .slice a2 qs.length c2] 47)).cell? ⟨w.heap.size, 1, none⟩ = some (.slice a1 ps.length c1) := by (repeat (first | with_reducible assumption | (refine newcell _ _ _ _ _ _ ?_ rfl; simp; done) | with_reducible refine keepdrew ?_ | with_reducible refine keepcell (by with_reducible assumption) ?_ | with_reducible refine keepalloc ?_ _))
    have q2 : ((w.alloc (.cells #[.int .i64 k1, .slice a1 ps.length c1] 47)).alloc (.cells #[.int .i64 k2, .slice a2 qs.length c2] 47)).cell? ⟨w.heap.size + 1, 0, none⟩ = some (.int .i64 k2) := by (repeat (first | with_reducible assumption | (refine newcell _ _ _ _ _ _ ?_ rfl; simp; done) | with_reducible refine keepdrew ?_ | with_reducible refine keepcell (by with_reducible assumption) ?_ | with_reducible refine keepalloc ?_ _))
    have q3 : ((w.alloc (.cells #[.int .i64 k1, .slice a1 ps.length c1] 47)).alloc (.cells #[.int .i64 k2, .slice a2 qs.length c2] 47)).cell? ⟨w.heap.size + 1, 1, none⟩ = some (.slice a2 qs.length c2) := by (repeat (first | with_reducible assumption | (refine newcell _ _ _ _ _ _ ?_ rfl; simp; done) | with_reducible refine keepdrew ?_ | with_reducible refine keepcell (by with_reducible assumption) ?_ | with_reducible refine keepalloc ?_ _))
    have hBX : Below w.heap.size w ((w.alloc (.cells #[.int .i64 k1, .slice a1 ps.length c1] 47)).alloc (.cells #[.int .i64 k2, .slice a2 qs.length c2] 47)) := by (repeat (first | with_reducible exact Below.refl _ _ | with_reducible assumption | (with_reducible refine btrans ?_ (by with_reducible assumption)) | with_reducible refine bdrew ?_ | with_reducible refine balloc ?_ _))
    have P1 := hid (HP1.out.below hBX)
    have P2 := hid (HP2.out.below hBX)
    have HBX := hid hBX
    clear hBX
    generalize ((w.alloc (.cells #[.int .i64 k1, .slice a1 ps.length c1] 47)).alloc (.cells #[.int .i64 k2, .slice a2 qs.length c2] 47)) = W at *
    refine (O1.out _ P1.out).mono ?_
    rintro e u1 ⟨rfl, hu1⟩
    replace q0 := keepcell hu1 q0
    replace q1 := keepcell hu1 q1
    replace q2 := keepcell hu1 q2
    replace q3 := keepcell hu1 q3
    replace P1 := hid (P1.out.below hu1)
    replace P2 := hid (P2.out.below hu1)
    replace HBX := hid (btrans HBX.out hu1)
    clear hu1
    go_wp2_with fail
    go_ret
    exact ⟨rfl, HBX.out⟩
  cases hs2 : shok k2 qs
  · rw [hs1] at O1
    rw [hs2] at O2
    rw [Bool.and_false, Bool.false_and]
    clear hs1 hs2
    go_enter Tryz.func20, Tryz.ntmps20
    go_wp2_with fail
    have q0 : ((w.alloc (.cells #[.int .i64 k1, .slice a1 ps.length c1] 47)).alloc (.cells #[.int .i64 k2, .slice a2 qs.length c2] 47)).cell? ⟨w.heap.size, 0, none⟩ = some (.int .i64 k1) := by (repeat (first | with_reducible assumption | (refine newcell _ _ _ _ _ _ ?_ rfl; simp; done) | with_reducible refine keepdrew ?_ | with_reducible refine keepcell (by with_reducible assumption) ?_ | with_reducible refine keepalloc ?_ _))
    have q1 : ((w.alloc (.cells #[.int .i64 k1, .slice a1 ps.length c1] 47)).alloc (.cells #[.int .i64 k2, .slice a2 qs.length c2] 47)).cell? ⟨w.heap.size, 1, none⟩ = some (.slice a1 ps.length c1) := by (repeat (first | with_reducible assumption | (refine newcell _ _ _ _ _ _ ?_ rfl; simp; done) | with_reducible refine keepdrew ?_ | with_reducible refine keepcell (by with_reducible assumption) ?_ | with_reducible refine keepalloc ?_ _))
    have q2 : ((w.alloc (.cells #[.int .i64 k1, .slice a1 ps.length c1] 47)).alloc (.cells #[.int .i64 k2, .slice a2 qs.length c2] 47)).cell? ⟨w.heap.size + 1, 0, none⟩ = some (.int .i64 k2) := by (repeat (first | with_reducible assumption | (refine newcell _ _ _ _ _ _ ?_ rfl; simp; done) | with_reducible refine keepdrew ?_ | with_reducible refine keepcell (by with_reducible assumption) ?_ | with_reducible refine keepalloc ?_ _))
    have q3 : ((w.alloc (.cells #[.int .i64 k1, .slice a1 ps.length c1] 47)).alloc (.cells #[.int .i64 k2, .slice a2 qs.length c2] 47)).cell? ⟨w.heap.size + 1, 1, none⟩ = some (.slice a2 qs.length c2) := by (repeat (first | with_reducible assumption | (refine newcell _ _ _ _ _ _ ?_ rfl; simp; done) | with_reducible refine keepdrew ?_ | with_reducible refine keepcell (by with_reducible assumption) ?_ | with_reducible refine keepalloc ?_ _))
    have hBX : Below w.heap.size w ((w.alloc (.cells #[.int .i64 k1, .slice a1 ps.length c1] 47)).alloc (.cells #[.int .i64 k2, .slice a2 qs.length c2] 47)) := by (repeat (first | with_reducible exact Below.refl _ _ | with_reducible assumption | (with_reducible refine btrans ?_ (by with_reducible assumption)) | with_reducible refine bdrew ?_ | with_reducible refine balloc ?_ _))
    have P1 := hid (HP1.out.below hBX)
    have P2 := hid (HP2.out.below hBX)
    have HBX := hid hBX
    clear hBX
    generalize ((w.alloc (.cells #[.int .i64 k1, .slice a1 ps.length c1] 47)).alloc (.cells #[.int .i64 k2, .slice a2 qs.length c2] 47)) = W at *
    refine (O1.out _ P1.out).mono ?_
    rintro e u1 ⟨rfl, hu1⟩
    replace q0 := keepcell hu1 q0
    replace q1 := keepcell hu1 q1
    replace q2 := keepcell hu1 q2
    replace q3 := keepcell hu1 q3
    replace P1 := hid (P1.out.below hu1)
    replace P2 := hid (P2.out.below hu1)
    replace HBX := hid (btrans HBX.out hu1)
    clear hu1
    go_wp2_with fail
    refine (O2.out _ P2.out).mono ?_
    rintro e u2 ⟨rfl, hu2⟩
    go_wp2_with fail
    go_ret
    exact ⟨rfl, btrans HBX.out hu2⟩
  have hlp : 0 < ps.length := by rcases shok_kind hs1 with h | h | h | h <;> omega
  have hlq : 0 < qs.length := by rcases shok_kind hs2 with h | h | h | h <;> omega
  have hpp := pok_at2 (shok_allok hs1) 0 hlp
  have hpq := pok_at2 (shok_allok hs2) 0 hlq
  have C1 := hid (fun w' (hw : Pts w' a1 ps) => spec_ShapeHas k1 (qs.getD 0 (0, 0)).1 (qs.getD 0 (0, 0)).2 a1 c1 ps w' hm1 hc1 hw)
  have C2 := hid (fun w' (hw : Pts w' a2 qs) => spec_ShapeHas k2 (ps.getD 0 (0, 0)).1 (ps.getD 0 (0, 0)).2 a2 c2 qs w' hm2 hc2 hw)
  rw [hpq, hs1, Bool.true_and, Bool.true_and] at C1
  rw [hpp, hs2, Bool.true_and, Bool.true_and] at C2
  have S1 := hid (fun w' (hw : Pts w' a1 ps) => sides_spec k1 a1 c1 ps w' hm1 hc1 hs1 hw)
  have S2 := hid (fun w' (hw : Pts w' a2 qs) => sides_spec k2 a2 c2 qs w' hm2 hc2 hs2 hw)
  have HXI := hid (sdl_in hs1)
  have HYI := hid (sdl_in hs2)
  obtain ⟨hx0, hx6⟩ := sdl_len hs1
  obtain ⟨hy0, hy6⟩ := sdl_len hs2
  have HIT := hid (fun i j => @all_hit (sdl k1 ps) (sdl k2 qs) i j)
  rw [hs1] at O1
  rw [hs2] at O2
  rw [Bool.true_and, Bool.true_and]
  clear hs1 hs2 hpp hpq
  obtain ⟨ba, oa, rfl, hba, hca⟩ : ∃ b off, a1 = some ⟨b, off, none⟩ ∧ b < w.heap.size ∧ PtsAt w b off ps := by
    rcases HP1.out with h | h
    · rw [h] at hlp; simp at hlp
    · exact h
  obtain ⟨bb, ob, rfl, hbb, hcb⟩ : ∃ b off, a2 = some ⟨b, off, none⟩ ∧ b < w.heap.size ∧ PtsAt w b off qs := by
    rcases HP2.out with h | h
    · rw [h] at hlq; simp at hlq
    · exact h
  obtain ⟨e0, e1⟩ := hca 0 hlp
  obtain ⟨e2, e3⟩ := hcb 0 hlq
  simp only [Nat.zero_mul, Nat.add_zero] at e0 e1 e2 e3
  clear hca hcb
  generalize (ps.getD 0 (0, 0)).1 = px at *
  generalize (ps.getD 0 (0, 0)).2 = py at *
  generalize (qs.getD 0 (0, 0)).1 = qx at *
  generalize (qs.getD 0 (0, 0)).2 = qy at *
  generalize hasP k1 ps qx qy = h1 at *
  generalize hasP k2 qs px py = h2 at *
  generalize sdl k1 ps = X at *
  generalize sdl k2 qs = Y at *
  have hlp' : (0 : Int) < (ps.length : Int) := by omega
  have hlq' : (0 : Int) < (qs.length : Int) := by omega
  cases h1
  rotate_left
  · rw [Bool.true_or, Bool.or_true]
    go_enter Tryz.func20, Tryz.ntmps20
    go_wp2_with fail
    have q0 : ((w.alloc (.cells #[.int .i64 k1, .slice (some ⟨ba, oa, none⟩) ps.length c1] 47)).alloc (.cells #[.int .i64 k2, .slice (some ⟨bb, ob, none⟩) qs.length c2] 47)).cell? ⟨w.heap.size, 0, none⟩ = some (.int .i64 k1) := by (repeat (first | with_reducible assumption | (refine newcell _ _ _ _ _ _ ?_ rfl; simp; done) | with_reducible refine keepdrew ?_ | with_reducible refine keepcell (by with_reducible assumption) ?_ | with_reducible refine keepalloc ?_ _))
    have q1 : ((w.alloc (.cells #[.int .i64 k1, .slice (some ⟨ba, oa, none⟩) ps.length c1] 47)).alloc (.cells #[.int .i64 k2, .slice (some ⟨bb, ob, none⟩) qs.length c2] 47)).cell? ⟨w.heap.size, 1, none⟩ = some (.slice (some ⟨ba, oa, none⟩) ps.length c1) := by (repeat (first | with_reducible assumption | (refine newcell _ _ _ _ _ _ ?_ rfl; simp; done) | with_reducible refine keepdrew ?_ | with_reducible refine keepcell (by with_reducible assumption) ?_ | with_reducible refine keepalloc ?_ _))
    have q2 : ((w.alloc (.cells #[.int .i64 k1, .slice (some ⟨ba, oa, none⟩) ps.length c1] 47)).alloc (.cells #[.int .i64 k2, .slice (some ⟨bb, ob, none⟩) qs.length c2] 47)).cell? ⟨w.heap.size + 1, 0, none⟩ = some (.int .i64 k2) := by (repeat (first | with_reducible assumption | (refine newcell _ _ _ _ _ _ ?_ rfl; simp; done) | with_reducible refine keepdrew ?_ | with_reducible refine keepcell (by with_reducible assumption) ?_ | with_reducible refine keepalloc ?_ _))
    have q3 : ((w.alloc (.cells #[.int .i64 k1, .slice (some ⟨ba, oa, none⟩) ps.length c1] 47)).alloc (.cells #[.int .i64 k2, .slice (some ⟨bb, ob, none⟩) qs.length c2] 47)).cell? ⟨w.heap.size + 1, 1, none⟩ = some (.slice (some ⟨bb, ob, none⟩) qs.length c2) := by (repeat (first | with_reducible assumption | (refine newcell _ _ _ _ _ _ ?_ rfl; simp; done) | with_reducible refine keepdrew ?_ | with_reducible refine keepcell (by with_reducible assumption) ?_ | with_reducible refine keepalloc ?_ _))
    have q4 : ((w.alloc (.cells #[.int .i64 k1, .slice (some ⟨ba, oa, none⟩) ps.length c1] 47)).alloc (.cells #[.int .i64 k2, .slice (some ⟨bb, ob, none⟩) qs.length c2] 47)).cell? ⟨ba, oa, none⟩ = some (.int .i64 px) := by (repeat (first | with_reducible assumption | (refine newcell _ _ _ _ _ _ ?_ rfl; simp; done) | with_reducible refine keepdrew ?_ | with_reducible refine keepcell (by with_reducible assumption) ?_ | with_reducible refine keepalloc ?_ _))
    have q5 : ((w.alloc (.cells #[.int .i64 k1, .slice (some ⟨ba, oa, none⟩) ps.length c1] 47)).alloc (.cells #[.int .i64 k2, .slice (some ⟨bb, ob, none⟩) qs.length c2] 47)).cell? ⟨ba, oa + 1, none⟩ = some (.int .i64 py) := by (repeat (first | with_reducible assumption | (refine newcell _ _ _ _ _ _ ?_ rfl; simp; done) | with_reducible refine keepdrew ?_ | with_reducible refine keepcell (by with_reducible assumption) ?_ | with_reducible refine keepalloc ?_ _))
    have q6 : ((w.alloc (.cells #[.int .i64 k1, .slice (some ⟨ba, oa, none⟩) ps.length c1] 47)).alloc (.cells #[.int .i64 k2, .slice (some ⟨bb, ob, none⟩) qs.length c2] 47)).cell? ⟨bb, ob, none⟩ = some (.int .i64 qx) := by (repeat (first | with_reducible assumption | (refine newcell _ _ _ _ _ _ ?_ rfl; simp; done) | with_reducible refine keepdrew ?_ | with_reducible refine keepcell (by with_reducible assumption) ?_ | with_reducible refine keepalloc ?_ _))
    have q7 : ((w.alloc (.cells #[.int .i64 k1, .slice (some ⟨ba, oa, none⟩) ps.length c1] 47)).alloc (.cells #[.int .i64 k2, .slice (some ⟨bb, ob, none⟩) qs.length c2] 47)).cell? ⟨bb, ob + 1, none⟩ = some (.int .i64 qy) := by (repeat (first | with_reducible assumption | (refine newcell _ _ _ _ _ _ ?_ rfl; simp; done) | with_reducible refine keepdrew ?_ | with_reducible refine keepcell (by with_reducible assumption) ?_ | with_reducible refine keepalloc ?_ _))
    clear e0 e1 e2 e3
    have hBX : Below w.heap.size w ((w.alloc (.cells #[.int .i64 k1, .slice (some ⟨ba, oa, none⟩) ps.length c1] 47)).alloc (.cells #[.int .i64 k2, .slice (some ⟨bb, ob, none⟩) qs.length c2] 47)) := by (repeat (first | with_reducible exact Below.refl _ _ | with_reducible assumption | (with_reducible refine btrans ?_ (by with_reducible assumption)) | with_reducible refine bdrew ?_ | with_reducible refine balloc ?_ _))
    have P1 := hid (HP1.out.below hBX)
    have P2 := hid (HP2.out.below hBX)
    have HBX := hid hBX
    clear hBX
    generalize ((w.alloc (.cells #[.int .i64 k1, .slice (some ⟨ba, oa, none⟩) ps.length c1] 47)).alloc (.cells #[.int .i64 k2, .slice (some ⟨bb, ob, none⟩) qs.length c2] 47)) = W at *
    refine (O1.out _ P1.out).mono ?_
    rintro e u1 ⟨rfl, hu1⟩
    replace q0 := keepcell hu1 q0
    replace q1 := keepcell hu1 q1
    replace q2 := keepcell hu1 q2
    replace q3 := keepcell hu1 q3
    replace q4 := keepcell hu1 q4
    replace q5 := keepcell hu1 q5
    replace q6 := keepcell hu1 q6
    replace q7 := keepcell hu1 q7
    replace P1 := hid (P1.out.below hu1)
    replace P2 := hid (P2.out.below hu1)
    replace HBX := hid (btrans HBX.out hu1)
    clear hu1
    go_wp2_with fail
    refine (O2.out _ P2.out).mono ?_
    rintro e u2 ⟨rfl, hu2⟩
    replace q0 := keepcell hu2 q0
    replace q1 := keepcell hu2 q1
    replace q2 := keepcell hu2 q2
    replace q3 := keepcell hu2 q3
    replace q4 := keepcell hu2 q4
    replace q5 := keepcell hu2 q5
    replace q6 := keepcell hu2 q6
    replace q7 := keepcell hu2 q7
    replace P1 := hid (P1.out.below hu2)
    replace P2 := hid (P2.out.below hu2)
    replace HBX := hid (btrans HBX.out hu2)
    clear hu2
    go_wp2_with fail
    refine wp_region_held_drew (S := (fun w' => w'.cell? ⟨w.heap.size, 0, none⟩ = some (.int .i64 k1) ∧ w'.cell? ⟨w.heap.size, 1, none⟩ = some (.slice (some ⟨ba, oa, none⟩) ps.length c1) ∧ w'.cell? ⟨w.heap.size + 1, 0, none⟩ = some (.int .i64 k2) ∧ w'.cell? ⟨w.heap.size + 1, 1, none⟩ = some (.slice (some ⟨bb, ob, none⟩) qs.length c2) ∧ w'.cell? ⟨ba, oa, none⟩ = some (.int .i64 px) ∧ w'.cell? ⟨ba, oa + 1, none⟩ = some (.int .i64 py) ∧ w'.cell? ⟨bb, ob, none⟩ = some (.int .i64 qx) ∧ w'.cell? ⟨bb, ob + 1, none⟩ = some (.int .i64 qy))) (by kernel_rfl) ?_ (fun hHeld => ?_)
    · (repeat' apply And.intro) <;> (repeat (first | with_reducible assumption | (refine newcell _ _ _ _ _ _ ?_ rfl; simp; done) | with_reducible refine keepdrew ?_ | with_reducible refine keepcell (by with_reducible assumption) ?_ | with_reducible refine keepalloc ?_ _))
    refine wpAnyH_take (i := 0) (v := ?_) rfl (by kernel_rfl) (by kernel_rfl) (by kernel_rfl) (fun _ _ _ h => h) (Or.inl ⟨by rfl, ?_⟩) hHeld ?_
    rotate_left
    · intro w hSw; (try dsimp only at hSw); go_simp; try (with_reducible rfl)
    try simp only [sq]
    refine wpAnyH_take (i := 1) (v := ?_) rfl (by kernel_rfl) (by kernel_rfl) (by kernel_rfl) (fun _ _ _ h => h) (Or.inl ⟨by rfl, ?_⟩) hHeld ?_
    rotate_left
    · intro w hSw; (try dsimp only at hSw); go_simp; try (with_reducible rfl)
    try simp only [sq]
    refine wpAnyH_take (i := 2) (v := ?_) rfl (by kernel_rfl) (by kernel_rfl) (by kernel_rfl) (fun _ _ _ h => h) (Or.inl ⟨by rfl, ?_⟩) hHeld ?_
    rotate_left
    · intro w hSw; (try dsimp only at hSw); go_simp; try (with_reducible rfl)
    try simp only [sq]
    refine wpAnyH_take (i := 3) (v := ?_) rfl (by kernel_rfl) (by kernel_rfl) (by kernel_rfl) (fun _ _ _ h => h) (Or.inl ⟨by rfl, ?_⟩) hHeld ?_
    rotate_left
    · intro w hSw; (try dsimp only at hSw); go_simp; try (with_reducible rfl)
    try simp only [sq]
    refine wpAnyH_take (i := 4) (v := ?_) rfl (by kernel_rfl) (by kernel_rfl) (by kernel_rfl) (fun _ _ _ h => h) (Or.inl ⟨by rfl, ?_⟩) hHeld ?_
    rotate_left
    · intro w hSw; (try dsimp only at hSw); go_simp; try (with_reducible rfl)
    try simp only [sq]
    refine wpAnyH_ready (rs := [5]) (by kernel_rfl) (by simp) ?_
    refine AllReadyH.cons rfl (fun K hK => ?_) AllReadyH.nil
    try simp only [sq]
    go_simp
    (first
        | (go_at_call 36; refine (C1.out _ (P1.out.below (by (repeat (first | with_reducible exact Below.refl _ _ | with_reducible assumption | (with_reducible refine btrans ?_ (by with_reducible assumption)) | with_reducible refine bdrew ?_ | with_reducible refine balloc ?_ _))))).mono ?_; rintro e t1 ⟨rfl, ht1⟩))
    go_wp2_with fail
    refine hK.out _ _ ?_ (fun hHeld => ?_)
    · (repeat' apply And.intro) <;> (repeat (first | with_reducible assumption | (refine newcell _ _ _ _ _ _ ?_ rfl; simp; done) | with_reducible refine keepdrew ?_ | with_reducible refine keepcell (by with_reducible assumption) ?_ | with_reducible refine keepalloc ?_ _))
    clear hK K
    try simp only [sq]
    refine wpAnyH_take (i := 6) (v := ?_) rfl (by kernel_rfl) (by kernel_rfl) (by kernel_rfl) (fun _ _ _ h => h) (Or.inl ⟨by rfl, ?_⟩) hHeld ?_
    rotate_left
    · intro w hSw; (try dsimp only at hSw); go_simp; try (with_reducible rfl)
    try simp only [sq]
    refine wpAnyH_take (i := 7) (v := undef) rfl (by kernel_rfl) (by kernel_rfl) (by kernel_rfl) (fun _ _ _ h => h) (Or.inr ⟨by rfl, rfl⟩) hHeld ?_
    try simp only [sq]
    refine wpAnyH_take (i := 8) (v := undef) rfl (by kernel_rfl) (by kernel_rfl) (by kernel_rfl) (fun _ _ _ h => h) (Or.inr ⟨by rfl, rfl⟩) hHeld ?_
    try simp only [sq]
    refine wpAnyH_take (i := 9) (v := undef) rfl (by kernel_rfl) (by kernel_rfl) (by kernel_rfl) (fun _ _ _ h => h) (Or.inr ⟨by rfl, rfl⟩) hHeld ?_
    try simp only [sq]
    refine wpAnyH_take (i := 10) (v := undef) rfl (by kernel_rfl) (by kernel_rfl) (by kernel_rfl) (fun _ _ _ h => h) (Or.inr ⟨by rfl, rfl⟩) hHeld ?_
    try simp only [sq]
    refine wpAnyH_take (i := 11) (v := undef) rfl (by kernel_rfl) (by kernel_rfl) (by kernel_rfl) (fun _ _ _ h => h) (Or.inr ⟨by rfl, rfl⟩) hHeld ?_
    try simp only [sq]
    refine wpAnyH_take (i := 12) (v := undef) rfl (by kernel_rfl) (by kernel_rfl) (by kernel_rfl) (fun _ _ _ h => h) (Or.inr ⟨by rfl, rfl⟩) hHeld ?_
    try simp only [sq]
    refine wpAnyH_take (i := 13) (v := ?_) rfl (by kernel_rfl) (by kernel_rfl) (by kernel_rfl) (fun _ _ _ h => h) (Or.inl ⟨by rfl, ?_⟩) hHeld ?_
    rotate_left
    · intro w hSw; (try dsimp only at hSw); go_simp; try (with_reducible rfl)
    try simp only [sq]
    refine wpAnyH_done (by kernel_rfl) ?_ _
    go_wp2_with fail
    go_ret
    exact ⟨rfl, btrans HBX.out (by (repeat (first | with_reducible exact Below.refl _ _ | with_reducible assumption | (with_reducible refine btrans ?_ (by with_reducible assumption)) | with_reducible refine bdrew ?_ | with_reducible refine balloc ?_ _)))⟩
  cases h2
  rotate_left
  · rw [Bool.or_true, Bool.or_true]
    go_enter Tryz.func20, Tryz.ntmps20
    go_wp2_with fail
    have q0 : ((w.alloc (.cells #[.int .i64 k1, .slice (some ⟨ba, oa, none⟩) ps.length c1] 47)).alloc (.cells #[.int .i64 k2, .slice (some ⟨bb, ob, none⟩) qs.length c2] 47)).cell? ⟨w.heap.size, 0, none⟩ = some (.int .i64 k1) := by (repeat (first | with_reducible assumption | (refine newcell _ _ _ _ _ _ ?_ rfl; simp; done) | with_reducible refine keepdrew ?_ | with_reducible refine keepcell (by with_reducible assumption) ?_ | with_reducible refine keepalloc ?_ _))
    have q1 : ((w.alloc (.cells #[.int .i64 k1, .slice (some ⟨ba, oa, none⟩) ps.length c1] 47)).alloc (.cells #[.int .i64 k2, .slice (some ⟨bb, ob, none⟩) qs.length c2] 47)).cell? ⟨w.heap.size, 1, none⟩ = some (.slice (some ⟨ba, oa, none⟩) ps.length c1) := by (repeat (first | with_reducible assumption | (refine newcell _ _ _ _ _ _ ?_ rfl; simp; done) | with_reducible refine keepdrew ?_ | with_reducible refine keepcell (by with_reducible assumption) ?_ | with_reducible refine keepalloc ?_ _))
    have q2 : ((w.alloc (.cells #[.int .i64 k1, .slice (some ⟨ba, oa, none⟩) ps.length c1] 47)).alloc (.cells #[.int .i64 k2, .slice (some ⟨bb, ob, none⟩) qs.length c2] 47)).cell? ⟨w.heap.size + 1, 0, none⟩ = some (.int .i64 k2) := by (repeat (first | with_reducible assumption | (refine newcell _ _ _ _ _ _ ?_ rfl; simp; done) | with_reducible refine keepdrew ?_ | with_reducible refine keepcell (by with_reducible assumption) ?_ | with_reducible refine keepalloc ?_ _))
    have q3 : ((w.alloc (.cells #[.int .i64 k1, .slice (some ⟨ba, oa, none⟩) ps.length c1] 47)).alloc (.cells #[.int .i64 k2, .slice (some ⟨bb, ob, none⟩) qs.length c2] 47)).cell? ⟨w.heap.size + 1, 1, none⟩ = some (.slice (some ⟨bb, ob, none⟩) qs.length c2) := by (repeat (first | with_reducible assumption | (refine newcell _ _ _ _ _ _ ?_ rfl; simp; done) | with_reducible refine keepdrew ?_ | with_reducible refine keepcell (by with_reducible assumption) ?_ | with_reducible refine keepalloc ?_ _))
    have q4 : ((w.alloc (.cells #[.int .i64 k1, .slice (some ⟨ba, oa, none⟩) ps.length c1] 47)).alloc (.cells #[.int .i64 k2, .slice (some ⟨bb, ob, none⟩) qs.length c2] 47)).cell? ⟨ba, oa, none⟩ = some (.int .i64 px) := by (repeat (first | with_reducible assumption | (refine newcell _ _ _ _ _ _ ?_ rfl; simp; done) | with_reducible refine keepdrew ?_ | with_reducible refine keepcell (by with_reducible assumption) ?_ | with_reducible refine keepalloc ?_ _))
    have q5 : ((w.alloc (.cells #[.int .i64 k1, .slice (some ⟨ba, oa, none⟩) ps.length c1] 47)).alloc (.cells #[.int .i64 k2, .slice (some ⟨bb, ob, none⟩) qs.length c2] 47)).cell? ⟨ba, oa + 1, none⟩ = some (.int .i64 py) := by (repeat (first | with_reducible assumption | (refine newcell _ _ _ _ _ _ ?_ rfl; simp; done) | with_reducible refine keepdrew ?_ | with_reducible refine keepcell (by with_reducible assumption) ?_ | with_reducible refine keepalloc ?_ _))
    have q6 : ((w.alloc (.cells #[.int .i64 k1, .slice (some ⟨ba, oa, none⟩) ps.length c1] 47)).alloc (.cells #[.int .i64 k2, .slice (some ⟨bb, ob, none⟩) qs.length c2] 47)).cell? ⟨bb, ob, none⟩ = some (.int .i64 qx) := by (repeat (first | with_reducible assumption | (refine newcell _ _ _ _ _ _ ?_ rfl; simp; done) | with_reducible refine keepdrew ?_ | with_reducible refine keepcell (by with_reducible assumption) ?_ | with_reducible refine keepalloc ?_ _))
    have q7 : ((w.alloc (.cells #[.int .i64 k1, .slice (some ⟨ba, oa, none⟩) ps.length c1] 47)).alloc (.cells #[.int .i64 k2, .slice (some ⟨bb, ob, none⟩) qs.length c2] 47)).cell? ⟨bb, ob + 1, none⟩ = some (.int .i64 qy) := by (repeat (first | with_reducible assumption | (refine newcell _ _ _ _ _ _ ?_ rfl; simp; done) | with_reducible refine keepdrew ?_ | with_reducible refine keepcell (by with_reducible assumption) ?_ | with_reducible refine keepalloc ?_ _))
    clear e0 e1 e2 e3
    have hBX : Below w.heap.size w ((w.alloc (.cells #[.int .i64 k1, .slice (some ⟨ba, oa, none⟩) ps.length c1] 47)).alloc (.cells #[.int .i64 k2, .slice (some ⟨bb, ob, none⟩) qs.length c2] 47)) := by (repeat (first | with_reducible exact Below.refl _ _ | with_reducible assumption | (with_reducible refine btrans ?_ (by with_reducible assumption)) | with_reducible refine bdrew ?_ | with_reducible refine balloc ?_ _))
    have P1 := hid (HP1.out.below hBX)
    have P2 := hid (HP2.out.below hBX)
    have HBX := hid hBX
    clear hBX
    generalize ((w.alloc (.cells #[.int .i64 k1, .slice (some ⟨ba, oa, none⟩) ps.length c1] 47)).alloc (.cells #[.int .i64 k2, .slice (some ⟨bb, ob, none⟩) qs.length c2] 47)) = W at *
    refine (O1.out _ P1.out).mono ?_
    rintro e u1 ⟨rfl, hu1⟩
    replace q0 := keepcell hu1 q0
    replace q1 := keepcell hu1 q1
    replace q2 := keepcell hu1 q2
    replace q3 := keepcell hu1 q3
    replace q4 := keepcell hu1 q4
    replace q5 := keepcell hu1 q5
    replace q6 := keepcell hu1 q6
    replace q7 := keepcell hu1 q7
    replace P1 := hid (P1.out.below hu1)
    replace P2 := hid (P2.out.below hu1)
    replace HBX := hid (btrans HBX.out hu1)
    clear hu1
    go_wp2_with fail
    refine (O2.out _ P2.out).mono ?_
    rintro e u2 ⟨rfl, hu2⟩
    replace q0 := keepcell hu2 q0
    replace q1 := keepcell hu2 q1
    replace q2 := keepcell hu2 q2
    replace q3 := keepcell hu2 q3
    replace q4 := keepcell hu2 q4
    replace q5 := keepcell hu2 q5
    replace q6 := keepcell hu2 q6
    replace q7 := keepcell hu2 q7
    replace P1 := hid (P1.out.below hu2)
    replace P2 := hid (P2.out.below hu2)
    replace HBX := hid (btrans HBX.out hu2)
    clear hu2
    go_wp2_with fail
    refine wp_region_held_drew (S := (fun w' => w'.cell? ⟨w.heap.size, 0, none⟩ = some (.int .i64 k1) ∧ w'.cell? ⟨w.heap.size, 1, none⟩ = some (.slice (some ⟨ba, oa, none⟩) ps.length c1) ∧ w'.cell? ⟨w.heap.size + 1, 0, none⟩ = some (.int .i64 k2) ∧ w'.cell? ⟨w.heap.size + 1, 1, none⟩ = some (.slice (some ⟨bb, ob, none⟩) qs.length c2) ∧ w'.cell? ⟨ba, oa, none⟩ = some (.int .i64 px) ∧ w'.cell? ⟨ba, oa + 1, none⟩ = some (.int .i64 py) ∧ w'.cell? ⟨bb, ob, none⟩ = some (.int .i64 qx) ∧ w'.cell? ⟨bb, ob + 1, none⟩ = some (.int .i64 qy))) (by kernel_rfl) ?_ (fun hHeld => ?_)
    · (repeat' apply And.intro) <;> (repeat (first | with_reducible assumption | (refine newcell _ _ _ _ _ _ ?_ rfl; simp; done) | with_reducible refine keepdrew ?_ | with_reducible refine keepcell (by with_reducible assumption) ?_ | with_reducible refine keepalloc ?_ _))
    refine wpAnyH_take (i := 0) (v := ?_) rfl (by kernel_rfl) (by kernel_rfl) (by kernel_rfl) (fun _ _ _ h => h) (Or.inl ⟨by rfl, ?_⟩) hHeld ?_
    rotate_left
    · intro w hSw; (try dsimp only at hSw); go_simp; try (with_reducible rfl)
    try simp only [sq]
    refine wpAnyH_take (i := 1) (v := ?_) rfl (by kernel_rfl) (by kernel_rfl) (by kernel_rfl) (fun _ _ _ h => h) (Or.inl ⟨by rfl, ?_⟩) hHeld ?_
    rotate_left
    · intro w hSw; (try dsimp only at hSw); go_simp; try (with_reducible rfl)
    try simp only [sq]
    refine wpAnyH_take (i := 2) (v := ?_) rfl (by kernel_rfl) (by kernel_rfl) (by kernel_rfl) (fun _ _ _ h => h) (Or.inl ⟨by rfl, ?_⟩) hHeld ?_
    rotate_left
    · intro w hSw; (try dsimp only at hSw); go_simp; try (with_reducible rfl)
    try simp only [sq]
    refine wpAnyH_take (i := 3) (v := ?_) rfl (by kernel_rfl) (by kernel_rfl) (by kernel_rfl) (fun _ _ _ h => h) (Or.inl ⟨by rfl, ?_⟩) hHeld ?_
    rotate_left
    · intro w hSw; (try dsimp only at hSw); go_simp; try (with_reducible rfl)
    try simp only [sq]
    refine wpAnyH_take (i := 4) (v := ?_) rfl (by kernel_rfl) (by kernel_rfl) (by kernel_rfl) (fun _ _ _ h => h) (Or.inl ⟨by rfl, ?_⟩) hHeld ?_
    rotate_left
    · intro w hSw; (try dsimp only at hSw); go_simp; try (with_reducible rfl)
    try simp only [sq]
    refine wpAnyH_ready (rs := [5]) (by kernel_rfl) (by simp) ?_
    refine AllReadyH.cons rfl (fun K hK => ?_) AllReadyH.nil
    try simp only [sq]
    go_simp
    (first
        | (go_at_call 36; refine (C1.out _ (P1.out.below (by (repeat (first | with_reducible exact Below.refl _ _ | with_reducible assumption | (with_reducible refine btrans ?_ (by with_reducible assumption)) | with_reducible refine bdrew ?_ | with_reducible refine balloc ?_ _))))).mono ?_; rintro e t1 ⟨rfl, ht1⟩))
    go_wp2_with fail
    refine hK.out _ _ ?_ (fun hHeld => ?_)
    · (repeat' apply And.intro) <;> (repeat (first | with_reducible assumption | (refine newcell _ _ _ _ _ _ ?_ rfl; simp; done) | with_reducible refine keepdrew ?_ | with_reducible refine keepcell (by with_reducible assumption) ?_ | with_reducible refine keepalloc ?_ _))
    clear hK K
    try simp only [sq]
    refine wpAnyH_take (i := 6) (v := ?_) rfl (by kernel_rfl) (by kernel_rfl) (by kernel_rfl) (fun _ _ _ h => h) (Or.inl ⟨by rfl, ?_⟩) hHeld ?_
    rotate_left
    · intro w hSw; (try dsimp only at hSw); go_simp; try (with_reducible rfl)
    try simp only [sq]
    refine wpAnyH_take (i := 7) (v := ?_) rfl (by kernel_rfl) (by kernel_rfl) (by kernel_rfl) (fun _ _ _ h => h) (Or.inl ⟨by rfl, ?_⟩) hHeld ?_
    rotate_left
    · intro w hSw; (try dsimp only at hSw); go_simp; try (with_reducible rfl)
    try simp only [sq]
    refine wpAnyH_take (i := 8) (v := ?_) rfl (by kernel_rfl) (by kernel_rfl) (by kernel_rfl) (fun _ _ _ h => h) (Or.inl ⟨by rfl, ?_⟩) hHeld ?_
    rotate_left
    · intro w hSw; (try dsimp only at hSw); go_simp; try (with_reducible rfl)
    try simp only [sq]
    refine wpAnyH_take (i := 9) (v := ?_) rfl (by kernel_rfl) (by kernel_rfl) (by kernel_rfl) (fun _ _ _ h => h) (Or.inl ⟨by rfl, ?_⟩) hHeld ?_
    rotate_left
    · intro w hSw; (try dsimp only at hSw); go_simp; try (with_reducible rfl)
    try simp only [sq]
    refine wpAnyH_take (i := 10) (v := ?_) rfl (by kernel_rfl) (by kernel_rfl) (by kernel_rfl) (fun _ _ _ h => h) (Or.inl ⟨by rfl, ?_⟩) hHeld ?_
    rotate_left
    · intro w hSw; (try dsimp only at hSw); go_simp; try (with_reducible rfl)
    try simp only [sq]
    refine wpAnyH_take (i := 11) (v := ?_) rfl (by kernel_rfl) (by kernel_rfl) (by kernel_rfl) (fun _ _ _ h => h) (Or.inl ⟨by rfl, ?_⟩) hHeld ?_
    rotate_left
    · intro w hSw; (try dsimp only at hSw); go_simp; try (with_reducible rfl)
    try simp only [sq]
    refine wpAnyH_ready (rs := [12]) (by kernel_rfl) (by simp) ?_
    refine AllReadyH.cons rfl (fun K hK => ?_) AllReadyH.nil
    try simp only [sq]
    go_simp
    (first
        | (go_at_call 36; refine (C2.out _ (P2.out.below (by (repeat (first | with_reducible exact Below.refl _ _ | with_reducible assumption | (with_reducible refine btrans ?_ (by with_reducible assumption)) | with_reducible refine bdrew ?_ | with_reducible refine balloc ?_ _))))).mono ?_; rintro e t2 ⟨rfl, ht2⟩))
    go_wp2_with fail
    refine hK.out _ _ ?_ (fun hHeld => ?_)
    · (repeat' apply And.intro) <;> (repeat (first | with_reducible assumption | (refine newcell _ _ _ _ _ _ ?_ rfl; simp; done) | with_reducible refine keepdrew ?_ | with_reducible refine keepcell (by with_reducible assumption) ?_ | with_reducible refine keepalloc ?_ _))
    clear hK K
    try simp only [sq]
    refine wpAnyH_take (i := 13) (v := ?_) rfl (by kernel_rfl) (by kernel_rfl) (by kernel_rfl) (fun _ _ _ h => h) (Or.inl ⟨by rfl, ?_⟩) hHeld ?_
    rotate_left
    · intro w hSw; (try dsimp only at hSw); go_simp; try (with_reducible rfl)
    try simp only [sq]
    refine wpAnyH_done (by kernel_rfl) ?_ _
    go_wp2_with fail
    go_ret
    exact ⟨rfl, btrans HBX.out (by (repeat (first | with_reducible exact Below.refl _ _ | with_reducible assumption | (with_reducible refine btrans ?_ (by with_reducible assumption)) | with_reducible refine bdrew ?_ | with_reducible refine balloc ?_ _)))⟩
  rw [Bool.or_false, Bool.or_false]
  go_enter Tryz.func20, Tryz.ntmps20
  go_wp2_with fail
  have q0 : ((w.alloc (.cells #[.int .i64 k1, .slice (some ⟨ba, oa, none⟩) ps.length c1] 47)).alloc (.cells #[.int .i64 k2, .slice (some ⟨bb, ob, none⟩) qs.length c2] 47)).cell? ⟨w.heap.size, 0, none⟩ = some (.int .i64 k1) := by (repeat (first | with_reducible assumption | (refine newcell _ _ _ _ _ _ ?_ rfl; simp; done) | with_reducible refine keepdrew ?_ | with_reducible refine keepcell (by with_reducible assumption) ?_ | with_reducible refine keepalloc ?_ _))
  have q1 : ((w.alloc (.cells #[.int .i64 k1, .slice (some ⟨ba, oa, none⟩) ps.length c1] 47)).alloc (.cells #[.int .i64 k2, .slice (some ⟨bb, ob, none⟩) qs.length c2] 47)).cell? ⟨w.heap.size, 1, none⟩ = some (.slice (some ⟨ba, oa, none⟩) ps.length c1) := by (repeat (first | with_reducible assumption | (refine newcell _ _ _ _ _ _ ?_ rfl; simp; done) | with_reducible refine keepdrew ?_ | with_reducible refine keepcell (by with_reducible assumption) ?_ | with_reducible refine keepalloc ?_ _))
  have q2 : ((w.alloc (.cells #[.int .i64 k1, .slice (some ⟨ba, oa, none⟩) ps.length c1] 47)).alloc (.cells #[.int .i64 k2, .slice (some ⟨bb, ob, none⟩) qs.length c2] 47)).cell? ⟨w.heap.size + 1, 0, none⟩ = some (.int .i64 k2) := by (repeat (first | with_reducible assumption | (refine newcell _ _ _ _ _ _ ?_ rfl; simp; done) | with_reducible refine keepdrew ?_ | with_reducible refine keepcell (by with_reducible assumption) ?_ | with_reducible refine keepalloc ?_ _))
  have q3 : ((w.alloc (.cells #[.int .i64 k1, .slice (some ⟨ba, oa, none⟩) ps.length c1] 47)).alloc (.cells #[.int .i64 k2, .slice (some ⟨bb, ob, none⟩) qs.length c2] 47)).cell? ⟨w.heap.size + 1, 1, none⟩ = some (.slice (some ⟨bb, ob, none⟩) qs.length c2) := by (repeat (first | with_reducible assumption | (refine newcell _ _ _ _ _ _ ?_ rfl; simp; done) | with_reducible refine keepdrew ?_ | with_reducible refine keepcell (by with_reducible assumption) ?_ | with_reducible refine keepalloc ?_ _))
  have q4 : ((w.alloc (.cells #[.int .i64 k1, .slice (some ⟨ba, oa, none⟩) ps.length c1] 47)).alloc (.cells #[.int .i64 k2, .slice (some ⟨bb, ob, none⟩) qs.length c2] 47)).cell? ⟨ba, oa, none⟩ = some (.int .i64 px) := by (repeat (first | with_reducible assumption | (refine newcell _ _ _ _ _ _ ?_ rfl; simp; done) | with_reducible refine keepdrew ?_ | with_reducible refine keepcell (by with_reducible assumption) ?_ | with_reducible refine keepalloc ?_ _))
  have q5 : ((w.alloc (.cells #[.int .i64 k1, .slice (some ⟨ba, oa, none⟩) ps.length c1] 47)).alloc (.cells #[.int .i64 k2, .slice (some ⟨bb, ob, none⟩) qs.length c2] 47)).cell? ⟨ba, oa + 1, none⟩ = some (.int .i64 py) := by (repeat (first | with_reducible assumption | (refine newcell _ _ _ _ _ _ ?_ rfl; simp; done) | with_reducible refine keepdrew ?_ | with_reducible refine keepcell (by with_reducible assumption) ?_ | with_reducible refine keepalloc ?_ _))
  have q6 : ((w.alloc (.cells #[.int .i64 k1, .slice (some ⟨ba, oa, none⟩) ps.length c1] 47)).alloc (.cells #[.int .i64 k2, .slice (some ⟨bb, ob, none⟩) qs.length c2] 47)).cell? ⟨bb, ob, none⟩ = some (.int .i64 qx) := by (repeat (first | with_reducible assumption | (refine newcell _ _ _ _ _ _ ?_ rfl; simp; done) | with_reducible refine keepdrew ?_ | with_reducible refine keepcell (by with_reducible assumption) ?_ | with_reducible refine keepalloc ?_ _))
  have q7 : ((w.alloc (.cells #[.int .i64 k1, .slice (some ⟨ba, oa, none⟩) ps.length c1] 47)).alloc (.cells #[.int .i64 k2, .slice (some ⟨bb, ob, none⟩) qs.length c2] 47)).cell? ⟨bb, ob + 1, none⟩ = some (.int .i64 qy) := by (repeat (first | with_reducible assumption | (refine newcell _ _ _ _ _ _ ?_ rfl; simp; done) | with_reducible refine keepdrew ?_ | with_reducible refine keepcell (by with_reducible assumption) ?_ | with_reducible refine keepalloc ?_ _))
  clear e0 e1 e2 e3
  have hBX : Below w.heap.size w ((w.alloc (.cells #[.int .i64 k1, .slice (some ⟨ba, oa, none⟩) ps.length c1] 47)).alloc (.cells #[.int .i64 k2, .slice (some ⟨bb, ob, none⟩) qs.length c2] 47)) := by (repeat (first | with_reducible exact Below.refl _ _ | with_reducible assumption | (with_reducible refine btrans ?_ (by with_reducible assumption)) | with_reducible refine bdrew ?_ | with_reducible refine balloc ?_ _))
  have P1 := hid (HP1.out.below hBX)
  have P2 := hid (HP2.out.below hBX)
  have HBX := hid hBX
  clear hBX
  generalize ((w.alloc (.cells #[.int .i64 k1, .slice (some ⟨ba, oa, none⟩) ps.length c1] 47)).alloc (.cells #[.int .i64 k2, .slice (some ⟨bb, ob, none⟩) qs.length c2] 47)) = W at *
  refine (O1.out _ P1.out).mono ?_
  rintro e u1 ⟨rfl, hu1⟩
  replace q0 := keepcell hu1 q0
  replace q1 := keepcell hu1 q1
  replace q2 := keepcell hu1 q2
  replace q3 := keepcell hu1 q3
  replace q4 := keepcell hu1 q4
  replace q5 := keepcell hu1 q5
  replace q6 := keepcell hu1 q6
  replace q7 := keepcell hu1 q7
  replace P1 := hid (P1.out.below hu1)
  replace P2 := hid (P2.out.below hu1)
  replace HBX := hid (btrans HBX.out hu1)
  clear hu1
  go_wp2_with fail
  refine (O2.out _ P2.out).mono ?_
  rintro e u2 ⟨rfl, hu2⟩
  replace q0 := keepcell hu2 q0
  replace q1 := keepcell hu2 q1
  replace q2 := keepcell hu2 q2
  replace q3 := keepcell hu2 q3
  replace q4 := keepcell hu2 q4
  replace q5 := keepcell hu2 q5
  replace q6 := keepcell hu2 q6
  replace q7 := keepcell hu2 q7
  replace P1 := hid (P1.out.below hu2)
  replace P2 := hid (P2.out.below hu2)
  replace HBX := hid (btrans HBX.out hu2)
  clear hu2
  go_wp2_with fail
  refine wp_region_held_drew (S := (fun w' => w'.cell? ⟨w.heap.size, 0, none⟩ = some (.int .i64 k1) ∧ w'.cell? ⟨w.heap.size, 1, none⟩ = some (.slice (some ⟨ba, oa, none⟩) ps.length c1) ∧ w'.cell? ⟨w.heap.size + 1, 0, none⟩ = some (.int .i64 k2) ∧ w'.cell? ⟨w.heap.size + 1, 1, none⟩ = some (.slice (some ⟨bb, ob, none⟩) qs.length c2) ∧ w'.cell? ⟨ba, oa, none⟩ = some (.int .i64 px) ∧ w'.cell? ⟨ba, oa + 1, none⟩ = some (.int .i64 py) ∧ w'.cell? ⟨bb, ob, none⟩ = some (.int .i64 qx) ∧ w'.cell? ⟨bb, ob + 1, none⟩ = some (.int .i64 qy))) (by kernel_rfl) ?_ (fun hHeld => ?_)
  · (repeat' apply And.intro) <;> (repeat (first | with_reducible assumption | (refine newcell _ _ _ _ _ _ ?_ rfl; simp; done) | with_reducible refine keepdrew ?_ | with_reducible refine keepcell (by with_reducible assumption) ?_ | with_reducible refine keepalloc ?_ _))
  refine wpAnyH_take (i := 0) (v := ?_) rfl (by kernel_rfl) (by kernel_rfl) (by kernel_rfl) (fun _ _ _ h => h) (Or.inl ⟨by rfl, ?_⟩) hHeld ?_
  rotate_left
  · intro w hSw; (try dsimp only at hSw); go_simp; try (with_reducible rfl)
  try simp only [sq]
  refine wpAnyH_take (i := 1) (v := ?_) rfl (by kernel_rfl) (by kernel_rfl) (by kernel_rfl) (fun _ _ _ h => h) (Or.inl ⟨by rfl, ?_⟩) hHeld ?_
  rotate_left
  · intro w hSw; (try dsimp only at hSw); go_simp; try (with_reducible rfl)
  try simp only [sq]
  refine wpAnyH_take (i := 2) (v := ?_) rfl (by kernel_rfl) (by kernel_rfl) (by kernel_rfl) (fun _ _ _ h => h) (Or.inl ⟨by rfl, ?_⟩) hHeld ?_
  rotate_left
  · intro w hSw; (try dsimp only at hSw); go_simp; try (with_reducible rfl)
  try simp only [sq]
  refine wpAnyH_take (i := 3) (v := ?_) rfl (by kernel_rfl) (by kernel_rfl) (by kernel_rfl) (fun _ _ _ h => h) (Or.inl ⟨by rfl, ?_⟩) hHeld ?_
  rotate_left
  · intro w hSw; (try dsimp only at hSw); go_simp; try (with_reducible rfl)
  try simp only [sq]
  refine wpAnyH_take (i := 4) (v := ?_) rfl (by kernel_rfl) (by kernel_rfl) (by kernel_rfl) (fun _ _ _ h => h) (Or.inl ⟨by rfl, ?_⟩) hHeld ?_
  rotate_left
  · intro w hSw; (try dsimp only at hSw); go_simp; try (with_reducible rfl)
  try simp only [sq]
  refine wpAnyH_ready (rs := [5]) (by kernel_rfl) (by simp) ?_
  refine AllReadyH.cons rfl (fun K hK => ?_) AllReadyH.nil
  try simp only [sq]
  go_simp
  (first
      | (go_at_call 36; refine (C1.out _ (P1.out.below (by (repeat (first | with_reducible exact Below.refl _ _ | with_reducible assumption | (with_reducible refine btrans ?_ (by with_reducible assumption)) | with_reducible refine bdrew ?_ | with_reducible refine balloc ?_ _))))).mono ?_; rintro e t1 ⟨rfl, ht1⟩))
  go_wp2_with fail
  refine hK.out _ _ ?_ (fun hHeld => ?_)
  · (repeat' apply And.intro) <;> (repeat (first | with_reducible assumption | (refine newcell _ _ _ _ _ _ ?_ rfl; simp; done) | with_reducible refine keepdrew ?_ | with_reducible refine keepcell (by with_reducible assumption) ?_ | with_reducible refine keepalloc ?_ _))
  clear hK K
  try simp only [sq]
  refine wpAnyH_take (i := 6) (v := ?_) rfl (by kernel_rfl) (by kernel_rfl) (by kernel_rfl) (fun _ _ _ h => h) (Or.inl ⟨by rfl, ?_⟩) hHeld ?_
  rotate_left
  · intro w hSw; (try dsimp only at hSw); go_simp; try (with_reducible rfl)
  try simp only [sq]
  refine wpAnyH_take (i := 7) (v := ?_) rfl (by kernel_rfl) (by kernel_rfl) (by kernel_rfl) (fun _ _ _ h => h) (Or.inl ⟨by rfl, ?_⟩) hHeld ?_
  rotate_left
  · intro w hSw; (try dsimp only at hSw); go_simp; try (with_reducible rfl)
  try simp only [sq]
  refine wpAnyH_take (i := 8) (v := ?_) rfl (by kernel_rfl) (by kernel_rfl) (by kernel_rfl) (fun _ _ _ h => h) (Or.inl ⟨by rfl, ?_⟩) hHeld ?_
  rotate_left
  · intro w hSw; (try dsimp only at hSw); go_simp; try (with_reducible rfl)
  try simp only [sq]
  refine wpAnyH_take (i := 9) (v := ?_) rfl (by kernel_rfl) (by kernel_rfl) (by kernel_rfl) (fun _ _ _ h => h) (Or.inl ⟨by rfl, ?_⟩) hHeld ?_
  rotate_left
  · intro w hSw; (try dsimp only at hSw); go_simp; try (with_reducible rfl)
  try simp only [sq]
  refine wpAnyH_take (i := 10) (v := ?_) rfl (by kernel_rfl) (by kernel_rfl) (by kernel_rfl) (fun _ _ _ h => h) (Or.inl ⟨by rfl, ?_⟩) hHeld ?_
  rotate_left
  · intro w hSw; (try dsimp only at hSw); go_simp; try (with_reducible rfl)
  try simp only [sq]
  refine wpAnyH_take (i := 11) (v := ?_) rfl (by kernel_rfl) (by kernel_rfl) (by kernel_rfl) (fun _ _ _ h => h) (Or.inl ⟨by rfl, ?_⟩) hHeld ?_
  rotate_left
  · intro w hSw; (try dsimp only at hSw); go_simp; try (with_reducible rfl)
  try simp only [sq]
  refine wpAnyH_ready (rs := [12]) (by kernel_rfl) (by simp) ?_
  refine AllReadyH.cons rfl (fun K hK => ?_) AllReadyH.nil
  try simp only [sq]
  go_simp
  (first
      | (go_at_call 36; refine (C2.out _ (P2.out.below (by (repeat (first | with_reducible exact Below.refl _ _ | with_reducible assumption | (with_reducible refine btrans ?_ (by with_reducible assumption)) | with_reducible refine bdrew ?_ | with_reducible refine balloc ?_ _))))).mono ?_; rintro e t2 ⟨rfl, ht2⟩))
  go_wp2_with fail
  refine hK.out _ _ ?_ (fun hHeld => ?_)
  · (repeat' apply And.intro) <;> (repeat (first | with_reducible assumption | (refine newcell _ _ _ _ _ _ ?_ rfl; simp; done) | with_reducible refine keepdrew ?_ | with_reducible refine keepcell (by with_reducible assumption) ?_ | with_reducible refine keepalloc ?_ _))
  clear hK K
  try simp only [sq]
  refine wpAnyH_take (i := 13) (v := ?_) rfl (by kernel_rfl) (by kernel_rfl) (by kernel_rfl) (fun _ _ _ h => h) (Or.inl ⟨by rfl, ?_⟩) hHeld ?_
  rotate_left
  · intro w hSw; (try dsimp only at hSw); go_simp; try (with_reducible rfl)
  try simp only [sq]
  refine wpAnyH_done (by kernel_rfl) ?_ _
  have hb2 : Below u2.heap.size u2 t2 := by (repeat (first | with_reducible exact Below.refl _ _ | with_reducible assumption | (with_reducible refine btrans ?_ (by with_reducible assumption)) | with_reducible refine bdrew ?_ | with_reducible refine balloc ?_ _))
  replace q0 := keepcell hb2 q0
  replace q1 := keepcell hb2 q1
  replace q2 := keepcell hb2 q2
  replace q3 := keepcell hb2 q3
  replace P1 := hid (P1.out.below hb2)
  replace P2 := hid (P2.out.below hb2)
  replace HBX := hid (btrans HBX.out hb2)
  clear hb2 ht1 ht2 hHeld q4 q5 q6 q7
  go_wp2_with fail
  refine wp_region_held_drew (S := (fun w' => w'.cell? ⟨w.heap.size, 0, none⟩ = some (.int .i64 k1) ∧ w'.cell? ⟨w.heap.size, 1, none⟩ = some (.slice (some ⟨ba, oa, none⟩) ps.length c1) ∧ w'.cell? ⟨w.heap.size + 1, 0, none⟩ = some (.int .i64 k2) ∧ w'.cell? ⟨w.heap.size + 1, 1, none⟩ = some (.slice (some ⟨bb, ob, none⟩) qs.length c2))) (by kernel_rfl) ?_ (fun hHeld => ?_)
  · (repeat' apply And.intro) <;> (repeat (first | with_reducible assumption | (refine newcell _ _ _ _ _ _ ?_ rfl; simp; done) | with_reducible refine keepdrew ?_ | with_reducible refine keepcell (by with_reducible assumption) ?_ | with_reducible refine keepalloc ?_ _))
  refine wpAnyH_take (i := 0) (v := ?_) rfl (by kernel_rfl) (by kernel_rfl) (by kernel_rfl) (fun _ _ _ h => h) (Or.inl ⟨by rfl, ?_⟩) hHeld ?_
  rotate_left
  · intro w hSw; (try dsimp only at hSw); go_simp; try (with_reducible rfl)
  try simp only [sq]
  refine wpAnyH_take (i := 2) (v := ?_) rfl (by kernel_rfl) (by kernel_rfl) (by kernel_rfl) (fun _ _ _ h => h) (Or.inl ⟨by rfl, ?_⟩) hHeld ?_
  rotate_left
  · intro w hSw; (try dsimp only at hSw); go_simp; try (with_reducible rfl)
  try simp only [sq]
  refine wpAnyH_ready (rs := [1]) (by kernel_rfl) (by simp) ?_
  refine AllReadyH.cons rfl (fun K hK => ?_) AllReadyH.nil
  try simp only [sq]
  go_simp
  (first
      | (go_at_call 37; refine (S1.out _ (P1.out.below (by (repeat (first | with_reducible exact Below.refl _ _ | with_reducible assumption | (with_reducible refine btrans ?_ (by with_reducible assumption)) | with_reducible refine bdrew ?_ | with_reducible refine balloc ?_ _))))).mono ?_; rintro e s1 ⟨b1, p1, rfl, g1, l1, m1, hsx, hs1'⟩; have SX := hid hsx; clear hsx))
  go_wp2_with fail
  refine hK.out _ _ ?_ (fun hHeld => ?_)
  · (repeat' apply And.intro) <;> (repeat (first | with_reducible assumption | (refine newcell _ _ _ _ _ _ ?_ rfl; simp; done) | with_reducible refine keepdrew ?_ | with_reducible refine keepcell (by with_reducible assumption) ?_ | with_reducible refine keepalloc ?_ _))
  clear hK K
  try simp only [sq]
  refine wpAnyH_ready (rs := [3]) (by kernel_rfl) (by simp) ?_
  refine AllReadyH.cons rfl (fun K hK => ?_) AllReadyH.nil
  try simp only [sq]
  go_simp
  (first
      | (go_at_call 37; refine (S2.out _ (P2.out.below (by (repeat (first | with_reducible exact Below.refl _ _ | with_reducible assumption | (with_reducible refine btrans ?_ (by with_reducible assumption)) | with_reducible refine bdrew ?_ | with_reducible refine balloc ?_ _))))).mono ?_; rintro e s2 ⟨b2, p2, rfl, g2, l2, m2, hsy, hs2'⟩; replace SX := hid (SX.out.below l1 hs2'); have SY := hid hsy; clear hsy))
  go_wp2_with fail
  refine hK.out _ _ ?_ (fun hHeld => ?_)
  · (repeat' apply And.intro) <;> (repeat (first | with_reducible assumption | (refine newcell _ _ _ _ _ _ ?_ rfl; simp; done) | with_reducible refine keepdrew ?_ | with_reducible refine keepcell (by with_reducible assumption) ?_ | with_reducible refine keepalloc ?_ _))
  clear hK K
  try simp only [sq]
  refine wpAnyH_take (i := 4) (v := ?_) rfl (by kernel_rfl) (by kernel_rfl) (by kernel_rfl) (fun _ _ _ h => h) (Or.inl ⟨by rfl, ?_⟩) hHeld ?_
  rotate_left
  · intro w hSw; (try dsimp only at hSw); go_simp; try (with_reducible rfl)
  try simp only [sq]
  refine wpAnyH_take (i := 5) (v := ?_) rfl (by kernel_rfl) (by kernel_rfl) (by kernel_rfl) (fun _ _ _ h => h) (Or.inl ⟨by rfl, ?_⟩) hHeld ?_
  rotate_left
  · intro w hSw; (try dsimp only at hSw); go_simp; try (with_reducible rfl)
  try simp only [sq]
  refine wpAnyH_done (by kernel_rfl) ?_ _
  have hb2 : Below t2.heap.size t2 s2 := by (repeat (first | with_reducible exact Below.refl _ _ | with_reducible assumption | (with_reducible refine btrans ?_ (by with_reducible assumption)) | with_reducible refine bdrew ?_ | with_reducible refine balloc ?_ _))
  have HB := hid (btrans HBX.out hb2)
  have lx : b1 < s2.heap.size := by have := hs2'.size; omega
  clear hb2 hs1' hs2' hHeld q0 q1 q2 q3 g1 g2 l1 HBX P1 P2
  go_wp2_with fail
  go_loopw [7] (fun ti wr => ∃ i : Nat, ti = .int .i64 i ∧ i ≤ X.length ∧ Hid (allM X Y i = false) ∧ Hid (Below s2.heap.size s2 wr)) (fun ti _ => X.length - (intOf ti).toNat)
  case atStart => exact ⟨0, rfl, Nat.zero_le _, hid rfl, hid (Below.refl _ _)⟩
  case round =>
    obtain ⟨i, rfl, hi, HA, BW⟩ := hrel
    by_cases hlt : i < X.length
    · obtain ⟨ia1, ia2, ia3, ia4⟩ := HXI.out i hlt
      have hcx := SX.out.below lx BW.out i hlt
      have hiti := HIT.out i
      have hrowi : allM X Y (i + 1) = (allM X Y i || rowM (X.getD i (0, 0, 0, 0)) Y Y.length) := rfl
      rw [HA.out, Bool.false_or] at hrowi
      generalize hsb : X.getD i (0, 0, 0, 0) = sa at *
      obtain ⟨ax, ay, bx, bY⟩ := sa
      have HITI := hid (fun j => hiti j hlt)
      have HROWI := hid hrowi
      obtain ⟨c0, c1', c2', c3⟩ := hcx
      simp only [Nat.zero_add] at c0 c1' c2' c3
      clear hsb hiti hrowi
      dsimp only at ia1 ia2 ia3 ia4
      have hlt' : (i : Int) < (X.length : Int) := by omega
      go_wp2_with fail
      generalize wr = V at *
      go_loopw [8] (fun tj wv => ∃ j : Nat, tj = .int .i64 j ∧ j ≤ Y.length ∧ Hid (rowM (ax, ay, bx, bY) Y j = false) ∧ Hid (Below V.heap.size V wv)) (fun tj _ => Y.length - (intOf tj).toNat)
      case atStart => exact ⟨0, rfl, Nat.zero_le _, hid rfl, hid (Below.refl _ _)⟩
      case round =>
        obtain ⟨j, rfl, hj, HR, BX⟩ := hrel
        by_cases hltj : j < Y.length
        · obtain ⟨d0, d1, d2, d3⟩ := SY.out.below l2 (btrans BW.out BX.out) j hltj
          simp only [Nat.zero_add] at d0 d1 d2 d3
          obtain ⟨ib1, ib2, ib3, ib4⟩ := HYI.out j hltj
          have hhj := HITI.out j hltj HR.out
          have hrj : rowM (ax, ay, bx, bY) Y (j + 1) = (rowM (ax, ay, bx, bY) Y j || meetq (ax, ay, bx, bY) (Y.getD j (0, 0, 0, 0))) := rfl
          rw [HR.out, Bool.false_or] at hrj
          have hmt : meetq (ax, ay, bx, bY) (Y.getD j (0, 0, 0, 0)) = smeet ax ay bx bY (Y.getD j (0, 0, 0, 0)).1 (Y.getD j (0, 0, 0, 0)).2.1 (Y.getD j (0, 0, 0, 0)).2.2.1 (Y.getD j (0, 0, 0, 0)).2.2.2 := rfl
          have hmc := fun w' => spec_sm_in ax ay bx bY (Y.getD j (0, 0, 0, 0)).1 (Y.getD j (0, 0, 0, 0)).2.1 (Y.getD j (0, 0, 0, 0)).2.2.1 (Y.getD j (0, 0, 0, 0)).2.2.2 ia1 ia2 ia3 ia4 ib1 ib2 ib3 ib4 w'
          rw [← hmt] at hmc
          clear hmt ib1 ib2 ib3 ib4
          have HMC := hid hmc
          have HHJ := hid hhj
          have HRJ := hid hrj
          clear hmc hhj hrj
          generalize meetq (ax, ay, bx, bY) (Y.getD j (0, 0, 0, 0)) = mt at *
          generalize (Y.getD j (0, 0, 0, 0)).1 = ex at *
          generalize (Y.getD j (0, 0, 0, 0)).2.1 = ey at *
          generalize (Y.getD j (0, 0, 0, 0)).2.2.1 = fx at *
          generalize (Y.getD j (0, 0, 0, 0)).2.2.2 = fy at *
          have hltj' : (j : Int) < (Y.length : Int) := by omega
          have hi0 : (0 : Int) ≤ (i : Int) := by omega
          have hj0 : (0 : Int) ≤ (j : Int) := by omega
          have k0 := keepcell BX.out c0
          have k1' := keepcell BX.out c1'
          have k2' := keepcell BX.out c2'
          have k3 := keepcell BX.out c3
          go_wp2_with fail
          go_region_held3 (fun w' => w'.cell? ⟨b1, i * 4, none⟩ = some (.int .i64 ax) ∧ w'.cell? ⟨b1, i * 4 + 1, none⟩ = some (.int .i64 ay) ∧ w'.cell? ⟨b1, i * 4 + 2, none⟩ = some (.int .i64 bx) ∧ w'.cell? ⟨b1, i * 4 + 3, none⟩ = some (.int .i64 bY) ∧ w'.cell? ⟨b2, j * 4, none⟩ = some (.int .i64 ex) ∧ w'.cell? ⟨b2, j * 4 + 1, none⟩ = some (.int .i64 ey) ∧ w'.cell? ⟨b2, j * 4 + 2, none⟩ = some (.int .i64 fx) ∧ w'.cell? ⟨b2, j * 4 + 3, none⟩ = some (.int .i64 fy)) ((go_split_ands; (repeat' apply And.intro) <;> (repeat (first | with_reducible assumption | (refine newcell _ _ _ _ _ _ ?_ rfl; simp; done) | with_reducible refine keepdrew ?_ | with_reducible refine keepcell (by with_reducible assumption) ?_ | with_reducible refine keepalloc ?_ _))))
            (first
              | (go_at_call 38; refine (HMC.out _).mono ?_; rintro e u5 ⟨rfl, hu5⟩))
          have hBu : Below V.heap.size V u5 := btrans BX.out (by (repeat (first | with_reducible exact Below.refl _ _ | with_reducible assumption | (with_reducible refine btrans ?_ (by with_reducible assumption)) | with_reducible refine bdrew ?_ | with_reducible refine balloc ?_ _)))
          cases mt
          · go_wp2_with fail
            go_roundw
            case rel => exact ⟨j + 1, by go_num, by omega, hid HRJ.out, hid hBu⟩
            case measure => simp [intOf]; omega
          · go_wp2_with fail
            go_ret
            exact ⟨by rw [HHJ.out (by simp)]; rfl, btrans HB.out (btrans BW.out hBu)⟩
        · obtain rfl : j = Y.length := by omega
          go_wp2_with fail
          go_roundw
          case rel => exact ⟨i + 1, by go_num, by omega, hid (by rw [HROWI.out]; exact HR.out), hid (btrans BW.out BX.out)⟩
          case measure => simp [intOf]; omega
    · obtain rfl : i = X.length := by omega
      go_wp2_with fail
      go_ret
      exact ⟨by rw [HA.out]; rfl, btrans HB.out BW.out⟩
end Go.Proofs.YtpgcnadmhbjlgaaGreat
namespace Go.Proofs.YtpgcnadmhbjlgaaGreat
open Go.RowKit
theorem rowM_iff (p : Sd) (Y : List Sd) : ∀ n, rowM p Y n = true ↔ ∃ j, j < n ∧ meetq p (Y.getD j (0, 0, 0, 0)) = true
  | 0 => by simp [rowM]
  | n + 1 => by
    rw [rowM, Bool.or_eq_true, rowM_iff p Y n]
    constructor
    · rintro (⟨j, hj, h⟩ | h)
      · exact ⟨j, by omega, h⟩
      · exact ⟨n, by omega, h⟩
    · rintro ⟨j, hj, h⟩
      by_cases e : j = n
      · subst e; exact .inr h
      · exact .inl ⟨j, by omega, h⟩
theorem allM_iff (X Y : List Sd) : ∀ n, allM X Y n = true ↔ ∃ i, i < n ∧ ∃ j, j < Y.length ∧ meetq (X.getD i (0, 0, 0, 0)) (Y.getD j (0, 0, 0, 0)) = true
  | 0 => by simp [allM]
  | n + 1 => by
    rw [allM, Bool.or_eq_true, allM_iff X Y n, rowM_iff]
    constructor
    · rintro (⟨j, hj, h⟩ | h)
      · exact ⟨j, by omega, h⟩
      · exact ⟨n, by omega, h⟩
    · rintro ⟨j, hj, h⟩
      by_cases e : j = n
      · subst e; exact .inr h
      · exact .inl ⟨j, by omega, h⟩
theorem smeet_comm (ax ay bx bY cx cy dx dy : Int) : smeet cx cy dx dy ax ay bx bY = smeet ax ay bx bY cx cy dx dy := by
  unfold smeet
  rw [crossb_comm]
  cases crossb ax ay bx bY cx cy dx dy <;> cases onb cx cy ax ay bx bY <;> cases onb dx dy ax ay bx bY <;> cases onb ax ay cx cy dx dy <;> cases onb bx bY cx cy dx dy <;> rfl
theorem meetq_comm (p q : Sd) : meetq q p = meetq p q := smeet_comm _ _ _ _ _ _ _ _
theorem allM_comm (X Y : List Sd) : allM Y X Y.length = allM X Y X.length := by
  rw [Bool.eq_iff_iff, allM_iff, allM_iff]
  constructor <;> (rintro ⟨i, hi, j, hj, h⟩; exact ⟨j, hj, i, hi, by rw [meetq_comm]; exact h⟩)
theorem smP_comm (k1 : Int) (ps : List (Int × Int)) (k2 : Int) (qs : List (Int × Int)) : smP k2 qs k1 ps = smP k1 ps k2 qs := by
  unfold smP
  rw [allM_comm (sdl k1 ps) (sdl k2 qs), Bool.and_comm (shok k2 qs), Bool.or_comm (hasP k2 qs _ _)]
/-- Within the least box around points. -/
def inB (ps : List (Int × Int)) (x y : Int) : Prop := aX ps ≤ x ∧ x ≤ bX ps ∧ aY ps ≤ y ∧ y ≤ bY' ps
theorem inB_at {ps : List (Int × Int)} (h : aok ps = true) (k : Nat) (hk : k < ps.length) : inB ps (ps.getD k (0, 0)).1 (ps.getD k (0, 0)).2 := by
  have := around_has h k hk
  unfold hv hasbx at this
  simp only [Bool.and_eq_true, decide_eq_true_eq] at this
  unfold inB; omega
theorem bok_around {ps : List (Int × Int)} (h : aok ps = true) (hl : 0 < ps.length) : bok (aX ps) (aY ps) (bX ps) (bY' ps) = true := by
  have := around_has h 0 hl
  unfold hv at this
  simp only [Bool.and_eq_true] at this
  exact this.1.1
theorem shok_pos {k : Int} {ps : List (Int × Int)} (hs : shok k ps = true) : 0 < ps.length := by
  rcases shok_kind hs with h | h | h | h <;> omega
theorem aok_of {k : Int} {ps : List (Int × Int)} (hs : shok k ps = true) : aok ps = true := by
  have ha := shok_allok hs
  have l := shok_pos hs
  unfold aok
  rw [ha]
  cases ps with
  | nil => simp at l
  | cons _ _ => rfl
theorem corners_at (x y u v : Int) : (ringSides (corners x y u v)).getD 0 (0, 0, 0, 0) = (x, y, u, y) ∧ (ringSides (corners x y u v)).getD 1 (0, 0, 0, 0) = (u, y, u, v) ∧ (ringSides (corners x y u v)).getD 2 (0, 0, 0, 0) = (u, v, x, v) ∧ (ringSides (corners x y u v)).getD 3 (0, 0, 0, 0) = (x, v, x, y) := by
  refine ⟨rfl, rfl, rfl, ?_⟩
  rw [ringSides_at _ 3 (by unfold corners; simp)]
  have h4 : (3 + 1) % (corners x y u v).length = 0 := by unfold corners; simp
  unfold nxt
  rw [h4]
  rfl
theorem corners_any {P : Sd → Prop} {x y u v : Int} (h0 : P (x, y, u, y)) (h1 : P (u, y, u, v)) (h2 : P (u, v, x, v)) (h3 : P (x, v, x, y)) (j : Nat) (hj : j < (ringSides (corners x y u v)).length) : P ((ringSides (corners x y u v)).getD j (0, 0, 0, 0)) := by
  rw [corners_len] at hj
  obtain ⟨e0, e1, e2, e3⟩ := corners_at x y u v
  match j, hj with
  | 0, _ => rw [e0]; exact h0
  | 1, _ => rw [e1]; exact h1
  | 2, _ => rw [e2]; exact h2
  | 3, _ => rw [e3]; exact h3
theorem nxt_lt (ps : List (Int × Int)) (k : Nat) (h : 0 < ps.length) : (k + 1) % ps.length < ps.length := Nat.mod_lt _ h
theorem sdl_box {k : Int} {ps : List (Int × Int)} (hs : shok k ps = true) (j : Nat) (hj : j < (sdl k ps).length) : inB ps ((sdl k ps).getD j (0, 0, 0, 0)).1 ((sdl k ps).getD j (0, 0, 0, 0)).2.1 ∧ inB ps ((sdl k ps).getD j (0, 0, 0, 0)).2.2.1 ((sdl k ps).getD j (0, 0, 0, 0)).2.2.2 := by
  have ha := aok_of hs
  rcases shok_kind hs with ⟨rfl, hl⟩ | ⟨rfl, hl, hl2⟩ | ⟨rfl, hl⟩ | ⟨rfl, hl, hl2⟩
  · have := inB_at ha 0 (by omega)
    have e : sdl 0 ps = [((ps.getD 0 (0, 0)).1, (ps.getD 0 (0, 0)).2, (ps.getD 0 (0, 0)).1, (ps.getD 0 (0, 0)).2)] := rfl
    rw [e] at hj ⊢
    obtain rfl : j = 0 := by simpa using hj
    exact ⟨this, this⟩
  · have e : sdl 1 ps = alongSides ps := rfl
    rw [e] at hj ⊢
    rw [along_len] at hj
    rw [along_at ps j hj]
    exact ⟨inB_at ha j (by omega), inB_at ha (j + 1) (by omega)⟩
  · obtain ⟨x, y, u, v, rfl⟩ := two_of hl
    have h0 := inB_at ha 0 (by simp)
    have h1 := inB_at ha 1 (by simp)
    simp only [List.getD_cons_zero, List.getD_cons_succ] at h0 h1
    have e : sdl 2 [(x, y), (u, v)] = ringSides (corners x y u v) := rfl
    rw [e] at hj ⊢
    refine corners_any (P := fun q => inB [(x, y), (u, v)] q.1 q.2.1 ∧ inB [(x, y), (u, v)] q.2.2.1 q.2.2.2) ?_ ?_ ?_ ?_ j hj <;> (unfold inB at *; dsimp only; omega)
  · have e : sdl 3 ps = ringSides ps := rfl
    rw [e] at hj ⊢
    rw [ringSides_len] at hj
    rw [ringSides_at ps j hj]
    exact ⟨inB_at ha j hj, inB_at ha _ (nxt_lt ps j (by omega))⟩
theorem onb_in {px py ax ay bx bY : Int} (h : onb px py ax ay bx bY = true) : min ax bx ≤ px ∧ px ≤ max ax bx ∧ min ay bY ≤ py ∧ py ≤ max ay bY := by
  unfold onb hasb at h
  simp only [Bool.and_eq_true, decide_eq_true_eq] at h
  omega
theorem onb_inB {ps : List (Int × Int)} {px py ax ay bx bY : Int} (h : onb px py ax ay bx bY = true) (h1 : inB ps ax ay) (h2 : inB ps bx bY) : inB ps px py := by
  have := onb_in h
  unfold inB at *; omega
theorem cr_split (ax ay bx bY px py : Int) : cr ax ay bx bY px py = (bx - px) * (py - ay) + (ax - px) * (bY - py) := by
  unfold cr; grind
theorem two_pos {a b s t : Int} (ha : 0 < a) (hb : 0 < b) (hs : 0 ≤ s) (ht : 0 < t) : 0 < a * s + b * t := by
  have h1 := Int.mul_nonneg (Int.le_of_lt ha) hs
  have h2 := Int.mul_pos hb ht
  omega
theorem two_neg {a b s t : Int} (ha : a < 0) (hb : b < 0) (hs : 0 ≤ s) (ht : 0 < t) : a * s + b * t < 0 := by
  have h := two_pos (a := -a) (b := -b) (by omega) (by omega) hs ht
  rw [Int.neg_mul, Int.neg_mul] at h
  omega
theorem wayb_left {px py ax ay bx bY : Int} (h1 : px < ax) (h2 : px < bx) : wayb px py ax ay bx bY = (decide (py < ay) != decide (py < bY)) := by
  unfold wayb
  split
  · by_cases c1 : py < ay
    · by_cases c2 : py < bY
      · rw [decide_eq_false (show ¬ bY ≤ py by omega), decide_eq_true c1, decide_eq_true c2]; rfl
      · have := two_pos (a := ax - px) (b := bx - px) (s := py - bY) (t := ay - py) (by omega) (by omega) (by omega) (by omega)
        rw [← cr_split bx bY ax ay px py] at this
        rw [decide_eq_true (show bY ≤ py by omega), decide_eq_true c1, decide_eq_true this, decide_eq_false c2]; rfl
    · rw [decide_eq_false c1, decide_eq_false (show ¬ py < bY by omega)]; simp
  · by_cases c1 : py < ay
    · rw [decide_eq_false (show ¬ ay ≤ py by omega), decide_eq_true c1, decide_eq_true (show py < bY by omega)]; rfl
    · by_cases c2 : py < bY
      · have := two_pos (a := bx - px) (b := ax - px) (s := py - ay) (t := bY - py) (by omega) (by omega) (by omega) (by omega)
        rw [← cr_split ax ay bx bY px py] at this
        rw [decide_eq_true (show ay ≤ py by omega), decide_eq_true c2, decide_eq_true this, decide_eq_false c1]; rfl
      · rw [decide_eq_false c1, decide_eq_false c2]; simp
theorem wayb_right {px py ax ay bx bY : Int} (h1 : ax < px) (h2 : bx < px) : wayb px py ax ay bx bY = false := by
  rw [Bool.eq_false_iff]
  intro h
  unfold wayb at h
  split at h
  · simp only [Bool.and_eq_true, decide_eq_true_eq] at h
    have := two_neg (a := ax - px) (b := bx - px) (s := py - bY) (t := ay - py) (by omega) (by omega) (by omega) (by omega)
    rw [← cr_split bx bY ax ay px py] at this
    omega
  · simp only [Bool.and_eq_true, decide_eq_true_eq] at h
    have := two_neg (a := bx - px) (b := ax - px) (s := py - ay) (t := bY - py) (by omega) (by omega) (by omega) (by omega)
    rw [← cr_split ax ay bx bY px py] at this
    omega
theorem wayb_span {px py ax ay bx bY : Int} (h : wayb px py ax ay bx bY = true) : min ay bY ≤ py ∧ py ≤ max ay bY := by
  unfold wayb at h
  split at h <;> (simp only [Bool.and_eq_true, decide_eq_true_eq] at h; omega)
theorem odd_none {px py : Int} {ps : List (Int × Int)} (h : ∀ k, k < ps.length → sideCr px py ps k = false) : ∀ k, k ≤ ps.length → oddTo px py ps k = false
  | 0, _ => rfl
  | k + 1, hk => by rw [oddTo, odd_none h k (by omega), h k (by omega)]; rfl
def abv (py : Int) (ps : List (Int × Int)) (k : Nat) : Bool := decide (py < (ps.getD k (0, 0)).2)
theorem cr_abv {px py : Int} {ps : List (Int × Int)} (h : ∀ k, k < ps.length → px < (ps.getD k (0, 0)).1) (k : Nat) (hk : k < ps.length) : sideCr px py ps k = (abv py ps k != abv py ps ((k + 1) % ps.length)) :=
  wayb_left (h k hk) (h _ (nxt_lt ps k (by omega)))
theorem odd_left {px py : Int} {ps : List (Int × Int)} (h : ∀ k, k < ps.length → px < (ps.getD k (0, 0)).1) : ∀ k, k < ps.length → oddTo px py ps k = (abv py ps 0 != abv py ps k)
  | 0, _ => by simp [oddTo]
  | k + 1, hk => by
    rw [oddTo, odd_left h k (by omega), cr_abv h k (by omega), Nat.mod_eq_of_lt hk]
    cases abv py ps 0 <;> cases abv py ps k <;> cases abv py ps (k + 1) <;> rfl
theorem odd_round {px py : Int} {ps : List (Int × Int)} (h : ∀ k, k < ps.length → px < (ps.getD k (0, 0)).1) : oddTo px py ps ps.length = false := by
  cases hn : ps.length with
  | zero => rfl
  | succ n =>
    rw [oddTo, odd_left h n (by omega), cr_abv h n (by omega), hn, Nat.mod_self]
    cases abv py ps 0 <;> cases abv py ps n <;> rfl
theorem ring_inB {px py : Int} {ps : List (Int × Int)} (ha : aok ps = true) (hl : 0 < ps.length) (h : ringv px py ps ≠ 0) : inB ps px py := by
  have hat : ∀ k, k < ps.length → inB ps (ps.getD k (0, 0)).1 (ps.getD k (0, 0)).2 := fun k hk => inB_at ha k hk
  have hnx : ∀ k, inB ps (nxt ps k).1 (nxt ps k).2 := fun k => inB_at ha _ (nxt_lt ps k hl)
  unfold ringv at h
  split at h
  · rename_i hon
    rw [List.any_eq_true] at hon
    obtain ⟨k, hk, hon⟩ := hon
    exact onb_inB hon (hat k (by simpa using hk)) (hnx k)
  · have ho : oddTo px py ps ps.length = true := by
      cases e : oddTo px py ps ps.length
      · rw [e] at h; exact absurd rfl h
      · rfl
    have no : ∀ (P : Prop), ¬ P → (P ∨ oddTo px py ps ps.length = false) → False := by
      rintro P hP (hp | hp)
      · exact hP hp
      · rw [hp] at ho; cases ho
    refine ⟨?_, ?_, ?_, ?_⟩
    · refine Int.not_lt.1 fun hlt => ?_
      rw [odd_round (fun k hk => by have := hat k hk; unfold inB at this; omega)] at ho
      cases ho
    · refine Int.not_lt.1 fun hlt => ?_
      rw [odd_none (fun k hk => wayb_right (by have := hat k hk; unfold inB at this; omega) (by have := hnx k; unfold inB at this; omega)) _ (Nat.le_refl _)] at ho
      cases ho
    · refine Int.not_lt.1 fun hlt => ?_
      rw [odd_none (fun k hk => by
        rw [Bool.eq_false_iff]; intro hw
        have := wayb_span hw
        have h1 := hat k hk
        have h2 := hnx k
        unfold inB at h1 h2; omega) _ (Nat.le_refl _)] at ho
      cases ho
    · refine Int.not_lt.1 fun hlt => ?_
      rw [odd_none (fun k hk => by
        rw [Bool.eq_false_iff]; intro hw
        have := wayb_span hw
        have h1 := hat k hk
        have h2 := hnx k
        unfold inB at h1 h2; omega) _ (Nat.le_refl _)] at ho
      cases ho
theorem any_iff (px py : Int) (qs : List Sd) : ∀ n, anyOn px py qs n = true ↔ ∃ k, k < n ∧ onb px py (qs.getD k (0, 0, 0, 0)).1 (qs.getD k (0, 0, 0, 0)).2.1 (qs.getD k (0, 0, 0, 0)).2.2.1 (qs.getD k (0, 0, 0, 0)).2.2.2 = true
  | 0 => by simp [anyOn]
  | n + 1 => by
    rw [anyOn, Bool.or_eq_true, any_iff px py qs n]
    constructor
    · rintro (⟨j, hj, h⟩ | h)
      · exact ⟨j, by omega, h⟩
      · exact ⟨n, by omega, h⟩
    · rintro ⟨j, hj, h⟩
      by_cases e : j = n
      · subst e; exact .inr h
      · exact .inl ⟨j, by omega, h⟩
theorem rect_of {x y u v : Int} (h : shok 2 [(x, y), (u, v)] = true) : x ≤ u ∧ y ≤ v := by
  have h' : (rectb [(x, y), (u, v)] && allok [(x, y), (u, v)]) = true := h
  rw [Bool.and_eq_true] at h'
  have h2 := h'.1
  unfold rectb at h2
  simp only [Bool.and_eq_true, decide_eq_true_eq, List.getD_cons_zero, List.getD_cons_succ] at h2
  omega
/-- What a shape has lies in its box. -/
theorem hasP_inB {k px py : Int} {ps : List (Int × Int)} (hs : shok k ps = true) (h : hasP k ps px py = true) : inB ps px py := by
  have ha := aok_of hs
  rcases shok_kind hs with ⟨rfl, hl⟩ | ⟨rfl, hl, hl2⟩ | ⟨rfl, hl⟩ | ⟨rfl, hl, hl2⟩
  · obtain ⟨x, y, rfl⟩ := one_of hl
    have h0 := inB_at ha 0 (by simp)
    have h' : (x == px && y == py) = true := h
    simp only [Bool.and_eq_true, beq_iff_eq] at h'
    rw [← h'.1, ← h'.2]; exact h0
  · have h' : anyOn px py (alongSides ps) (alongSides ps).length = true := h
    obtain ⟨j, hj, ho⟩ := (any_iff _ _ _ _).1 h'
    have := sdl_box hs j hj
    exact onb_inB ho this.1 this.2
  · obtain ⟨x, y, u, v, rfl⟩ := two_of hl
    have h0 := inB_at ha 0 (by simp)
    have h1 := inB_at ha 1 (by simp)
    have h' : hasb x y u v px py = true := h
    unfold hasb at h'
    simp only [Bool.and_eq_true, decide_eq_true_eq] at h'
    simp only [List.getD_cons_zero, List.getD_cons_succ] at h0 h1
    unfold inB at *; omega
  · have h' : (ringv px py ps != 0) = true := h
    exact ring_inB ha (by omega) (by simpa using h')
theorem meet_box {ax ay bx bY cx cy dx dy : Int} (h : smeet ax ay bx bY cx cy dx dy = true) (h1 : In ax ∧ In ay ∧ In bx ∧ In bY) (h2 : In cx ∧ In cy ∧ In dx ∧ In dy) : meetb (min ax bx) (min ay bY) (max ax bx) (max ay bY) (min cx dx) (min cy dy) (max cx dx) (max cy dy) = true := by
  refine smv_meet ?_
  unfold smv
  rw [h]
  unfold In at h1 h2
  simp only [allok, pok, cok, List.all_cons, List.all_nil, Bool.and_true, Bool.and_eq_true, decide_eq_true_eq]
  omega
/-- Shapes that meet have boxes that meet. -/
theorem smP_box {k1 k2 : Int} {ps qs : List (Int × Int)} (h : smP k1 ps k2 qs = true) : shok k1 ps = true ∧ shok k2 qs = true ∧ mv (aX ps) (aY ps) (bX ps) (bY' ps) (aX qs) (aY qs) (bX qs) (bY' qs) = true := by
  unfold smP at h
  simp only [Bool.and_eq_true, Bool.or_eq_true] at h
  obtain ⟨⟨h1, h2⟩, h⟩ := h
  have a1 := aok_of h1
  have a2 := aok_of h2
  refine ⟨h1, h2, ?_⟩
  unfold mv
  rw [bok_around a1 (shok_pos h1), bok_around a2 (shok_pos h2)]
  have fin : ∀ x y, inB ps x y → inB qs x y → (true && true && meetb (aX ps) (aY ps) (bX ps) (bY' ps) (aX qs) (aY qs) (bX qs) (bY' qs)) = true := by
    intro x y i1 i2
    unfold inB at i1 i2
    unfold meetb
    simp only [Bool.true_and, Bool.and_eq_true, decide_eq_true_eq]
    omega
  rcases h with h | h | h
  · obtain ⟨i, hi, j, hj, hm⟩ := (allM_iff _ _ _).1 h
    obtain ⟨b1, b2⟩ := sdl_box h1 i hi
    obtain ⟨b3, b4⟩ := sdl_box h2 j hj
    have hb := meet_box hm (sdl_in h1 i hi) (sdl_in h2 j hj)
    unfold meetb at hb ⊢
    unfold inB at b1 b2 b3 b4
    simp only [Bool.true_and, Bool.and_eq_true, decide_eq_true_eq] at hb ⊢
    omega
  · exact fin _ _ (hasP_inB h1 h) (inB_at a2 0 (shok_pos h2))
  · exact fin _ _ (inB_at a1 0 (shok_pos h1)) (hasP_inB h2 h)
theorem onb_pt {px py qx qy : Int} (h : onb px py qx qy qx qy = true) : px = qx ∧ py = qy := by
  have := onb_in h; omega
theorem sg_sq (z : Int) : ¬ sg z * sg z < 0 := by
  unfold sg; split
  · decide
  · split <;> decide
theorem meet_pt {ax ay bx bY px py : Int} (h : smeet ax ay bx bY px py px py = true) : onb px py ax ay bx bY = true := by
  unfold smeet crossb at h
  rw [decide_eq_false (sg_sq _)] at h
  simp only [Bool.false_and, Bool.false_or, Bool.or_eq_true] at h
  rcases h with ((h | h) | h) | h
  · exact h
  · exact h
  · obtain ⟨e1, e2⟩ := onb_pt h
    rw [← e1, ← e2]; exact onb_self _ _ _ _
  · obtain ⟨e1, e2⟩ := onb_pt h
    rw [← e1, ← e2]; exact onb_self2 _ _ _ _
/-- What is on a side of a shape the shape has. -/
theorem sd_has {k px py : Int} {ps : List (Int × Int)} (hs : shok k ps = true) (j : Nat) (hj : j < (sdl k ps).length) (h : onb px py ((sdl k ps).getD j (0, 0, 0, 0)).1 ((sdl k ps).getD j (0, 0, 0, 0)).2.1 ((sdl k ps).getD j (0, 0, 0, 0)).2.2.1 ((sdl k ps).getD j (0, 0, 0, 0)).2.2.2 = true) : hasP k ps px py = true := by
  rcases shok_kind hs with ⟨rfl, hl⟩ | ⟨rfl, hl, hl2⟩ | ⟨rfl, hl⟩ | ⟨rfl, hl, hl2⟩
  · obtain ⟨x, y, rfl⟩ := one_of hl
    have e : sdl 0 [(x, y)] = [(x, y, x, y)] := rfl
    rw [e] at hj h
    obtain rfl : j = 0 := by simpa using hj
    obtain ⟨e1, e2⟩ := onb_pt h
    show (x == px && y == py) = true
    rw [e1, e2]; simp
  · exact (any_iff _ _ _ _).2 ⟨j, hj, h⟩
  · obtain ⟨x, y, u, v, rfl⟩ := two_of hl
    have hr := rect_of hs
    have e : sdl 2 [(x, y), (u, v)] = ringSides (corners x y u v) := rfl
    rw [e] at hj h
    show hasb x y u v px py = true
    revert h
    refine corners_any (P := fun q => onb px py q.1 q.2.1 q.2.2.1 q.2.2.2 = true → hasb x y u v px py = true) ?_ ?_ ?_ ?_ j hj <;>
      (intro h; have := onb_in h; dsimp only at this; unfold hasb; simp only [Bool.and_eq_true, decide_eq_true_eq]; omega)
  · have e : sdl 3 ps = ringSides ps := rfl
    rw [e] at hj h
    rw [ringSides_len] at hj
    rw [ringSides_at ps j hj] at h
    show (ringv px py ps != 0) = true
    rw [ringv_on hj h]; rfl
/-- A shape has its own points. -/
theorem own_has {k : Int} {ps : List (Int × Int)} (hs : shok k ps = true) (i : Nat) (hi : i < ps.length) : hasP k ps (ps.getD i (0, 0)).1 (ps.getD i (0, 0)).2 = true := by
  rcases shok_kind hs with ⟨rfl, hl⟩ | ⟨rfl, hl, hl2⟩ | ⟨rfl, hl⟩ | ⟨rfl, hl, hl2⟩
  · obtain rfl : i = 0 := by omega
    refine sd_has hs 0 (by simp [sdl]) ?_
    exact onb_self _ _ _ _
  · have e : sdl 1 ps = alongSides ps := rfl
    by_cases hlt : i < ps.length - 1
    · refine sd_has hs i (by rw [e, along_len]; exact hlt) ?_
      rw [e, along_at ps i hlt]
      exact onb_self _ _ _ _
    · refine sd_has hs (i - 1) (by rw [e, along_len]; omega) ?_
      rw [e, along_at ps (i - 1) (by omega), show i - 1 + 1 = i by omega]
      exact onb_self2 _ _ _ _
  · obtain ⟨x, y, u, v, rfl⟩ := two_of hl
    have hr := rect_of hs
    show hasb x y u v _ _ = true
    unfold hasb
    match i, hi with
    | 0, _ => simp only [List.getD_cons_zero, Bool.and_eq_true, decide_eq_true_eq]; omega
    | 1, _ => simp only [List.getD_cons_zero, List.getD_cons_succ, Bool.and_eq_true, decide_eq_true_eq]; omega
  · have e : sdl 3 ps = ringSides ps := rfl
    refine sd_has hs i (by rw [e, ringSides_len]; exact hi) ?_
    rw [e, ringSides_at ps i hi]
    exact onb_self _ _ _ _
theorem shok_pt (px py : Int) : shok 0 [(px, py)] = pok px py := by
  show (decide ([(px, py)].length = 1) && allok [(px, py)]) = pok px py
  simp [allok]
/-- A shape has a point just where it meets it. -/
theorem has_meet (k px py : Int) (ps : List (Int × Int)) : smP k ps 0 [(px, py)] = (pok px py && shok k ps && hasP k ps px py) := by
  unfold smP
  rw [shok_pt]
  cases hs : shok k ps
  · simp
  cases hp : pok px py
  · simp
  rw [Bool.true_and, Bool.true_and]
  rw [Bool.eq_iff_iff, Bool.or_eq_true, Bool.or_eq_true, allM_iff]
  have e : sdl 0 [(px, py)] = [(px, py, px, py)] := rfl
  rw [e]
  constructor
  · rintro (⟨i, hi, j, hj, h⟩ | h | h)
    · obtain rfl : j = 0 := by simpa using hj
      exact sd_has hs i hi (meet_pt h)
    · exact h
    · have h' : (px == (ps.getD 0 (0, 0)).1 && py == (ps.getD 0 (0, 0)).2) = true := h
      simp only [Bool.and_eq_true, beq_iff_eq] at h'
      rw [h'.1, h'.2]
      exact own_has hs 0 (shok_pos hs)
  · exact fun h => .inr (.inl h)
theorem meetq_self (q : Sd) : meetq q q = true := by
  unfold meetq smeet
  rw [onb_self]; simp
theorem smP_self {k : Int} {ps : List (Int × Int)} (hs : shok k ps = true) : smP k ps k ps = true := by
  have hl := (sdl_len hs).1
  unfold smP
  rw [hs, (allM_iff (sdl k ps) (sdl k ps) (sdl k ps).length).2 ⟨0, hl, 0, hl, meetq_self _⟩]
  rfl
theorem own_in {k : Int} {ps : List (Int × Int)} (hs : shok k ps = true) : hasv (aX ps) (aY ps) (bX ps) (bY' ps) (aX ps) (aY ps) (bX ps) (bY' ps) = true := by
  unfold hasv hasbx
  rw [bok_around (aok_of hs) (shok_pos hs)]
  simp
theorem ok_aok (k : Int) (ps : List (Int × Int)) : (shok k ps && aok ps) = shok k ps := by
  cases h : shok k ps
  · rfl
  · rw [aok_of h]; rfl
theorem sv_ok {f : List (Int × Int) → Int} {k : Int} {ps : List (Int × Int)} (h : shok k ps = true) : sv f k ps = f ps := by unfold sv; rw [h]; rfl
theorem box_law {k1 k2 : Int} {ps qs : List (Int × Int)} (h : smP k1 ps k2 qs = true) : shok k1 ps = true ∧ shok k2 qs = true ∧ mv (sv aX k1 ps) (sv aY k1 ps) (sv bX k1 ps) (sv bY' k1 ps) (sv aX k2 qs) (sv aY k2 qs) (sv bX k2 qs) (sv bY' k2 qs) = true := by
  obtain ⟨h1, h2, h3⟩ := smP_box h
  refine ⟨h1, h2, ?_⟩
  rw [sv_ok h1, sv_ok h1, sv_ok h1, sv_ok h1, sv_ok h2, sv_ok h2, sv_ok h2, sv_ok h2]
  exact h3
theorem own_law {k : Int} {ps : List (Int × Int)} (h : shok k ps = true) : smP k ps k ps = true ∧ (true && aok ps && hasv (sv aX k ps) (sv aY k ps) (sv bX k ps) (sv bY' k ps) (sv aX k ps) (sv aY k ps) (sv bX k ps) (sv bY' k ps)) = true := by
  refine ⟨smP_self h, ?_⟩
  rw [sv_ok h, sv_ok h, sv_ok h, sv_ok h, own_in h, aok_of h]; rfl
end Go.Proofs.YtpgcnadmhbjlgaaGreat
namespace Go.Proofs.YtpgcnadmhbjlgaaGreat
open Go.RowKit
set_option linter.unusedSimpArgs false
set_option linter.unusedVariables false
set_option maxRecDepth 100000 in
set_option maxHeartbeats 2000000 in
theorem impl_rowbox (id fr te kd : Int) (a : Option Addr) (cap : Nat) (ps : List (Int × Int)) (w : World) (hm : ps.length ≤ 1099511627776) (hc : ps.length ≤ cap) (h : Pts w a ps) : Calls Tryz.prog 47 #[.agg #[.int .i64 id, .int .i64 fr, .int .i64 te, .int .i64 kd, .slice a ps.length cap]] w fun e w' => e = .returned (.agg #[.int .i64 (aX ps), .int .i64 (aY ps), .int .i64 (bX ps), .int .i64 (bY' ps)]) ∧ Below w.heap.size w w' := by
  have HB := hid (fun (W : World) (hb : Below w.heap.size w W) => impl_BoxAround a cap ps W hm hc (h.below hb))
  clear h
  generalize aX ps = r0 at *
  generalize aY ps = r1 at *
  generalize bX ps = r2 at *
  generalize bY' ps = r3 at *
  generalize aok ps = r4 at *
  generalize ps.length = n at *
  go_enter Tryz.func47, Tryz.ntmps47
  go_upto_region 1 with fail
  have hBx : Below w.heap.size w ((w.alloc (.cells #[.int .i64 id, .int .i64 fr, .int .i64 te, .int .i64 kd, .slice a n cap] 55)).alloc (.cells #[.int .i64 0, .int .i64 0, .int .i64 0, .int .i64 0] 38)) := balloc (balloc (Below.refl _ _) _) _
  have g0 := old_alloc (o' := .cells #[.int .i64 0, .int .i64 0, .int .i64 0, .int .i64 0] 38) (new_alloc w w.heap.size (.cells #[.int .i64 id, .int .i64 fr, .int .i64 te, .int .i64 kd, .slice a n cap] 55) rfl)
  have g1 := new_alloc (w.alloc (.cells #[.int .i64 id, .int .i64 fr, .int .i64 te, .int .i64 kd, .slice a n cap] 55)) (w.heap.size + 1) (.cells #[.int .i64 0, .int .i64 0, .int .i64 0, .int .i64 0] 38) (by simp)
  generalize (w.alloc (.cells #[.int .i64 id, .int .i64 fr, .int .i64 te, .int .i64 kd, .slice a n cap] 55)).alloc (.cells #[.int .i64 0, .int .i64 0, .int .i64 0, .int .i64 0] 38) = W at *
  obtain ⟨⟨x0, x1, x2, x3, x4⟩, _⟩ := cell5g g0
  go_wp2_with fail
  refine (HB.out _ hBx).mono ?_
  rintro e z ⟨rfl, hz⟩
  replace g1 := keepheap2 hz g1
  have hBz := btrans hBx hz
  clear hz hBx x0 x1 x2 x3 x4 g0 HB
  go_upto_region 2 with fail
  have hal : Below z.heap.size z (z.alloc (.cells #[.int .i64 r0, .int .i64 r1, .int .i64 r2, .int .i64 r3] 38)) := balloc (Below.refl _ _) _
  have gN := new_alloc z z.heap.size (.cells #[.int .i64 r0, .int .i64 r1, .int .i64 r2, .int .i64 r3] 38) rfl
  replace g1 := keepheap2 hal g1
  replace hBz := btrans hBz hal
  clear hal
  generalize z.alloc (.cells #[.int .i64 r0, .int .i64 r1, .int .i64 r2, .int .i64 r3] 38) = Z at *
  generalize z.heap.size = zb at *
  obtain ⟨p0, p1, p2, p3, _, _, _, _⟩ := cell4 gN
  obtain ⟨v0, v1, v2, v3, u0, u1, u2, u3⟩ := cell4 g1
  obtain ⟨gF, bF⟩ := set4 g1 hBz (by omega) (.int .i64 r0) (.int .i64 r1) (.int .i64 r2) (.int .i64 r3)
  go_wp2_with fail
  generalize (((Z.setCell ⟨w.heap.size + 1, 0, none⟩ (.int .i64 r0)).setCell ⟨w.heap.size + 1, 1, none⟩ (.int .i64 r1)).setCell ⟨w.heap.size + 1, 2, none⟩ (.int .i64 r2)).setCell ⟨w.heap.size + 1, 3, none⟩ (.int .i64 r3) = wf at *
  obtain ⟨z0, z1, z2, z3, _, _, _, _⟩ := cell4 gF
  exact bodyPost_ret (v := .agg #[.int .i64 r0, .int .i64 r1, .int .i64 r2, .int .i64 r3]) (by simp [results, Tryz.results47, go_sem, z0, z1, z2, z3]) rfl ⟨rfl, bF⟩
theorem smP_no {k1 k2 : Int} {ps qs : List (Int × Int)} (h : mv (aX ps) (aY ps) (bX ps) (bY' ps) (aX qs) (aY qs) (bX qs) (bY' qs) = false) : smP k1 ps k2 qs = false := by
  cases e : smP k1 ps k2 qs
  · rfl
  · rw [(smP_box e).2.2] at h; cases h
theorem smP_fig {k1 k2 : Int} {ps qs : List (Int × Int)} (h1 : shok k1 ps = true) (h2 : shok k2 qs = true) : smP k1 ps k2 qs = (allM (sdl k1 ps) (sdl k2 qs) (sdl k1 ps).length || (hasP k1 ps (qs.getD 0 (0, 0)).1 (qs.getD 0 (0, 0)).2 || hasP k2 qs (ps.getD 0 (0, 0)).1 (ps.getD 0 (0, 0)).2)) := by
  unfold smP
  rw [h1, h2]
  rfl
set_option maxRecDepth 100000 in
set_option maxHeartbeats 4000000 in
theorem impl_meets (id1 fr1 te1 kd1 id2 fr2 te2 kd2 : Int) (a1 a2 : Option Addr) (c1 c2 : Nat) (ps qs : List (Int × Int)) (w : World) (hm1 : ps.length ≤ 1099511627776) (hc1 : ps.length ≤ c1) (hs1 : shok kd1 ps = true) (hp1 : Pts w a1 ps) (hm2 : qs.length ≤ 1099511627776) (hc2 : qs.length ≤ c2) (hs2 : shok kd2 qs = true) (hp2 : Pts w a2 qs) : Calls Tryz.prog 23 #[.agg #[.int .i64 id1, .int .i64 fr1, .int .i64 te1, .int .i64 kd1, .slice a1 ps.length c1], .agg #[.int .i64 id2, .int .i64 fr2, .int .i64 te2, .int .i64 kd2, .slice a2 qs.length c2]] w fun e w' => e = .returned (.bool (smP kd1 ps kd2 qs)) ∧ Below w.heap.size w w' := by
  have HX1 := hid (fun (W : World) (hb : Below w.heap.size w W) => impl_rowbox id1 fr1 te1 kd1 a1 c1 ps W hm1 hc1 (hp1.below hb))
  have HX2 := hid (fun (W : World) (hb : Below w.heap.size w W) => impl_rowbox id2 fr2 te2 kd2 a2 c2 qs W hm2 hc2 (hp2.below hb))
  have HM := hid (fun (W : World) => impl_BM (aX ps) (aY ps) (bX ps) (bY' ps) (aX qs) (aY qs) (bX qs) (bY' qs) W)
  have HF1 := hid (fun (W : World) => fig_any kd1 a1 ps.length c1 ps hs1 W)
  have HF2 := hid (fun (W : World) => fig_any kd2 a2 qs.length c2 qs hs2 W)
  have HG := hid (fun (W : World) (hb : Below w.heap.size w W) => figures_meet kd1 kd2 a1 a2 c1 c2 ps qs W hm1 hc1 hs1 (hp1.below hb) hm2 hc2 hs2 (hp2.below hb))
  rw [← smP_fig hs1 hs2] at HG
  have HNO := hid (fun (h : mv (aX ps) (aY ps) (bX ps) (bY' ps) (aX qs) (aY qs) (bX qs) (bY' qs) = false) => smP_no (k1 := kd1) (k2 := kd2) h)
  clear hp1 hp2 hs1 hs2
  generalize smP kd1 ps kd2 qs = sb at *
  generalize mv (aX ps) (aY ps) (bX ps) (bY' ps) (aX qs) (aY qs) (bX qs) (bY' qs) = mb at *
  generalize aX ps = p0 at *
  generalize aY ps = p1 at *
  generalize bX ps = p2 at *
  generalize bY' ps = p3 at *
  generalize aX qs = q0 at *
  generalize aY qs = q1 at *
  generalize bX qs = q2 at *
  generalize bY' qs = q3 at *
  generalize ps.length = n1 at *
  generalize qs.length = n2 at *
  unfold shv at HF1 HF2
  have hB : Below w.heap.size w ((w.alloc (.cells #[.int .i64 id1, .int .i64 fr1, .int .i64 te1, .int .i64 kd1, .slice a1 n1 c1] 55)).alloc (.cells #[.int .i64 id2, .int .i64 fr2, .int .i64 te2, .int .i64 kd2, .slice a2 n2 c2] 55)) := balloc (balloc (Below.refl _ _) _) _
  have g0 := old_alloc (o' := .cells #[.int .i64 id2, .int .i64 fr2, .int .i64 te2, .int .i64 kd2, .slice a2 n2 c2] 55) (new_alloc w w.heap.size (.cells #[.int .i64 id1, .int .i64 fr1, .int .i64 te1, .int .i64 kd1, .slice a1 n1 c1] 55) rfl)
  have g1 := new_alloc (w.alloc (.cells #[.int .i64 id1, .int .i64 fr1, .int .i64 te1, .int .i64 kd1, .slice a1 n1 c1] 55)) (w.heap.size + 1) (.cells #[.int .i64 id2, .int .i64 fr2, .int .i64 te2, .int .i64 kd2, .slice a2 n2 c2] 55) (by simp)
  go_enter Tryz.func23, Tryz.ntmps23
  go_upto_region 1 with fail
  generalize (w.alloc (.cells #[.int .i64 id1, .int .i64 fr1, .int .i64 te1, .int .i64 kd1, .slice a1 n1 c1] 55)).alloc (.cells #[.int .i64 id2, .int .i64 fr2, .int .i64 te2, .int .i64 kd2, .slice a2 n2 c2] 55) = W at *
  obtain ⟨⟨x0, x1, x2, x3, x4⟩, _⟩ := cell5g g0
  obtain ⟨⟨y0, y1, y2, y3, y4⟩, _⟩ := cell5g g1
  clear g0 g1
  cases mb
  · have HSB := hid (HNO.out rfl)
    clear HNO HG HF1 HF2
    refine wp_region_held_drew (S := (fun w' => w'.cell? ⟨w.heap.size, 0, none⟩ = some (.int .i64 id1) ∧ w'.cell? ⟨w.heap.size, 1, none⟩ = some (.int .i64 fr1) ∧ w'.cell? ⟨w.heap.size, 2, none⟩ = some (.int .i64 te1) ∧ w'.cell? ⟨w.heap.size, 3, none⟩ = some (.int .i64 kd1) ∧ w'.cell? ⟨w.heap.size, 4, none⟩ = some (.slice a1 n1 c1) ∧ w'.cell? ⟨w.heap.size + 1, 0, none⟩ = some (.int .i64 id2) ∧ w'.cell? ⟨w.heap.size + 1, 1, none⟩ = some (.int .i64 fr2) ∧ w'.cell? ⟨w.heap.size + 1, 2, none⟩ = some (.int .i64 te2) ∧ w'.cell? ⟨w.heap.size + 1, 3, none⟩ = some (.int .i64 kd2) ∧ w'.cell? ⟨w.heap.size + 1, 4, none⟩ = some (.slice a2 n2 c2))) (by kernel_rfl) ?_ (fun hHeld => ?_)
    · (repeat' apply And.intro) <;> (repeat (first | with_reducible assumption | with_reducible refine keepdrew ?_ | with_reducible refine keepcell (by with_reducible assumption) ?_ | with_reducible refine keepalloc ?_ _))
    refine wpAnyH_take (i := 0) (v := ?_) rfl (by kernel_rfl) (by kernel_rfl) (by kernel_rfl) (fun _ _ _ h => h) (Or.inl ⟨by rfl, ?_⟩) hHeld ?_
    rotate_left
    · intro w hSw; (try dsimp only at hSw); go_simp; try (with_reducible rfl)
    try simp only [sq]
    refine wpAnyH_take (i := 2) (v := ?_) rfl (by kernel_rfl) (by kernel_rfl) (by kernel_rfl) (fun _ _ _ h => h) (Or.inl ⟨by rfl, ?_⟩) hHeld ?_
    rotate_left
    · intro w hSw; (try dsimp only at hSw); go_simp; try (with_reducible rfl)
    try simp only [sq]
    refine wpAnyH_ready (rs := [1]) (by kernel_rfl) (by simp) ?_
    refine AllReadyH.cons rfl (fun K hK => ?_) AllReadyH.nil
    try simp only [sq]
    go_simp
    (first
        | (go_at_call 47; refine (HX1.out _ (by (repeat (first | with_reducible exact Below.refl _ _ | with_reducible assumption | (with_reducible refine btrans ?_ (by with_reducible assumption)) | with_reducible refine bdrew ?_ | with_reducible refine balloc ?_ _)))).mono ?_; rintro e u1 ⟨rfl, hu1⟩))
    go_wp2_with fail
    refine hK.out _ _ ?_ (fun hHeld => ?_)
    · (repeat' apply And.intro) <;> (repeat (first | with_reducible assumption | with_reducible refine keepdrew ?_ | with_reducible refine keepcell (by with_reducible assumption) ?_ | with_reducible refine keepalloc ?_ _))
    clear hK K
    try simp only [sq]
    refine wpAnyH_ready (rs := [3]) (by kernel_rfl) (by simp) ?_
    refine AllReadyH.cons rfl (fun K hK => ?_) AllReadyH.nil
    try simp only [sq]
    go_simp
    (first
        | (go_at_call 47; refine (HX2.out _ (by (repeat (first | with_reducible exact Below.refl _ _ | with_reducible assumption | (with_reducible refine btrans ?_ (by with_reducible assumption)) | with_reducible refine bdrew ?_ | with_reducible refine balloc ?_ _)))).mono ?_; rintro e u2 ⟨rfl, hu2⟩))
    go_wp2_with fail
    refine hK.out _ _ ?_ (fun hHeld => ?_)
    · (repeat' apply And.intro) <;> (repeat (first | with_reducible assumption | with_reducible refine keepdrew ?_ | with_reducible refine keepcell (by with_reducible assumption) ?_ | with_reducible refine keepalloc ?_ _))
    clear hK K
    try simp only [sq]
    refine wpAnyH_ready (rs := [4]) (by kernel_rfl) (by simp) ?_
    refine AllReadyH.cons rfl (fun K hK => ?_) AllReadyH.nil
    try simp only [sq]
    go_simp
    (first
        | (go_at_call 46; refine (HM.out _).mono ?_; rintro e u3 ⟨rfl, hu3⟩))
    go_wp2_with fail
    refine hK.out _ _ ?_ (fun hHeld => ?_)
    · (repeat' apply And.intro) <;> (repeat (first | with_reducible assumption | with_reducible refine keepdrew ?_ | with_reducible refine keepcell (by with_reducible assumption) ?_ | with_reducible refine keepalloc ?_ _))
    clear hK K
    try simp only [sq]
    refine wpAnyH_take (i := 5) (v := ?_) rfl (by kernel_rfl) (by kernel_rfl) (by kernel_rfl) (fun _ _ _ h => h) (Or.inl ⟨by rfl, ?_⟩) hHeld ?_
    rotate_left
    · intro w hSw; (try dsimp only at hSw); go_simp; try (with_reducible rfl)
    try simp only [sq]
    refine wpAnyH_take (i := 6) (v := undef) rfl (by kernel_rfl) (by kernel_rfl) (by kernel_rfl) (fun _ _ _ h => h) (Or.inr ⟨by rfl, rfl⟩) hHeld ?_
    try simp only [sq]
    refine wpAnyH_take (i := 7) (v := undef) rfl (by kernel_rfl) (by kernel_rfl) (by kernel_rfl) (fun _ _ _ h => h) (Or.inr ⟨by rfl, rfl⟩) hHeld ?_
    try simp only [sq]
    refine wpAnyH_take (i := 8) (v := undef) rfl (by kernel_rfl) (by kernel_rfl) (by kernel_rfl) (fun _ _ _ h => h) (Or.inr ⟨by rfl, rfl⟩) hHeld ?_
    try simp only [sq]
    refine wpAnyH_take (i := 9) (v := undef) rfl (by kernel_rfl) (by kernel_rfl) (by kernel_rfl) (fun _ _ _ h => h) (Or.inr ⟨by rfl, rfl⟩) hHeld ?_
    try simp only [sq]
    refine wpAnyH_take (i := 10) (v := undef) rfl (by kernel_rfl) (by kernel_rfl) (by kernel_rfl) (fun _ _ _ h => h) (Or.inr ⟨by rfl, rfl⟩) hHeld ?_
    try simp only [sq]
    refine wpAnyH_take (i := 11) (v := undef) rfl (by kernel_rfl) (by kernel_rfl) (by kernel_rfl) (fun _ _ _ h => h) (Or.inr ⟨by rfl, rfl⟩) hHeld ?_
    try simp only [sq]
    refine wpAnyH_take (i := 12) (v := undef) rfl (by kernel_rfl) (by kernel_rfl) (by kernel_rfl) (fun _ _ _ h => h) (Or.inr ⟨by rfl, rfl⟩) hHeld ?_
    try simp only [sq]
    refine wpAnyH_take (i := 13) (v := ?_) rfl (by kernel_rfl) (by kernel_rfl) (by kernel_rfl) (fun _ _ _ h => h) (Or.inl ⟨by rfl, ?_⟩) hHeld ?_
    rotate_left
    · intro w hSw; (try dsimp only at hSw); go_simp; try (with_reducible rfl)
    try simp only [sq]
    refine wpAnyH_take (i := 14) (v := ?_) rfl (by kernel_rfl) (by kernel_rfl) (by kernel_rfl) (fun _ _ _ h => h) (Or.inl ⟨by rfl, ?_⟩) hHeld ?_
    rotate_left
    · intro w hSw; (try dsimp only at hSw); go_simp; try (with_reducible rfl)
    try simp only [sq]
    refine wpAnyH_done (by kernel_rfl) ?_ _
    go_wp2_with fail
    go_ret
    exact ⟨by rw [HSB.out]; rfl, (by (repeat (first | with_reducible exact Below.refl _ _ | with_reducible assumption | (with_reducible refine btrans ?_ (by with_reducible assumption)) | with_reducible refine bdrew ?_ | with_reducible refine balloc ?_ _)))⟩
  · clear HNO
    refine wp_region_held_drew (S := (fun w' => w'.cell? ⟨w.heap.size, 0, none⟩ = some (.int .i64 id1) ∧ w'.cell? ⟨w.heap.size, 1, none⟩ = some (.int .i64 fr1) ∧ w'.cell? ⟨w.heap.size, 2, none⟩ = some (.int .i64 te1) ∧ w'.cell? ⟨w.heap.size, 3, none⟩ = some (.int .i64 kd1) ∧ w'.cell? ⟨w.heap.size, 4, none⟩ = some (.slice a1 n1 c1) ∧ w'.cell? ⟨w.heap.size + 1, 0, none⟩ = some (.int .i64 id2) ∧ w'.cell? ⟨w.heap.size + 1, 1, none⟩ = some (.int .i64 fr2) ∧ w'.cell? ⟨w.heap.size + 1, 2, none⟩ = some (.int .i64 te2) ∧ w'.cell? ⟨w.heap.size + 1, 3, none⟩ = some (.int .i64 kd2) ∧ w'.cell? ⟨w.heap.size + 1, 4, none⟩ = some (.slice a2 n2 c2))) (by kernel_rfl) ?_ (fun hHeld => ?_)
    · (repeat' apply And.intro) <;> (repeat (first | with_reducible assumption | with_reducible refine keepdrew ?_ | with_reducible refine keepcell (by with_reducible assumption) ?_ | with_reducible refine keepalloc ?_ _))
    refine wpAnyH_take (i := 0) (v := ?_) rfl (by kernel_rfl) (by kernel_rfl) (by kernel_rfl) (fun _ _ _ h => h) (Or.inl ⟨by rfl, ?_⟩) hHeld ?_
    rotate_left
    · intro w hSw; (try dsimp only at hSw); go_simp; try (with_reducible rfl)
    try simp only [sq]
    refine wpAnyH_take (i := 2) (v := ?_) rfl (by kernel_rfl) (by kernel_rfl) (by kernel_rfl) (fun _ _ _ h => h) (Or.inl ⟨by rfl, ?_⟩) hHeld ?_
    rotate_left
    · intro w hSw; (try dsimp only at hSw); go_simp; try (with_reducible rfl)
    try simp only [sq]
    refine wpAnyH_ready (rs := [1]) (by kernel_rfl) (by simp) ?_
    refine AllReadyH.cons rfl (fun K hK => ?_) AllReadyH.nil
    try simp only [sq]
    go_simp
    (first
        | (go_at_call 47; refine (HX1.out _ (by (repeat (first | with_reducible exact Below.refl _ _ | with_reducible assumption | (with_reducible refine btrans ?_ (by with_reducible assumption)) | with_reducible refine bdrew ?_ | with_reducible refine balloc ?_ _)))).mono ?_; rintro e u1 ⟨rfl, hu1⟩))
    go_wp2_with fail
    refine hK.out _ _ ?_ (fun hHeld => ?_)
    · (repeat' apply And.intro) <;> (repeat (first | with_reducible assumption | with_reducible refine keepdrew ?_ | with_reducible refine keepcell (by with_reducible assumption) ?_ | with_reducible refine keepalloc ?_ _))
    clear hK K
    try simp only [sq]
    refine wpAnyH_ready (rs := [3]) (by kernel_rfl) (by simp) ?_
    refine AllReadyH.cons rfl (fun K hK => ?_) AllReadyH.nil
    try simp only [sq]
    go_simp
    (first
        | (go_at_call 47; refine (HX2.out _ (by (repeat (first | with_reducible exact Below.refl _ _ | with_reducible assumption | (with_reducible refine btrans ?_ (by with_reducible assumption)) | with_reducible refine bdrew ?_ | with_reducible refine balloc ?_ _)))).mono ?_; rintro e u2 ⟨rfl, hu2⟩))
    go_wp2_with fail
    refine hK.out _ _ ?_ (fun hHeld => ?_)
    · (repeat' apply And.intro) <;> (repeat (first | with_reducible assumption | with_reducible refine keepdrew ?_ | with_reducible refine keepcell (by with_reducible assumption) ?_ | with_reducible refine keepalloc ?_ _))
    clear hK K
    try simp only [sq]
    refine wpAnyH_ready (rs := [4]) (by kernel_rfl) (by simp) ?_
    refine AllReadyH.cons rfl (fun K hK => ?_) AllReadyH.nil
    try simp only [sq]
    go_simp
    (first
        | (go_at_call 46; refine (HM.out _).mono ?_; rintro e u3 ⟨rfl, hu3⟩))
    go_wp2_with fail
    refine hK.out _ _ ?_ (fun hHeld => ?_)
    · (repeat' apply And.intro) <;> (repeat (first | with_reducible assumption | with_reducible refine keepdrew ?_ | with_reducible refine keepcell (by with_reducible assumption) ?_ | with_reducible refine keepalloc ?_ _))
    clear hK K
    try simp only [sq]
    refine wpAnyH_take (i := 5) (v := ?_) rfl (by kernel_rfl) (by kernel_rfl) (by kernel_rfl) (fun _ _ _ h => h) (Or.inl ⟨by rfl, ?_⟩) hHeld ?_
    rotate_left
    · intro w hSw; (try dsimp only at hSw); go_simp; try (with_reducible rfl)
    try simp only [sq]
    refine wpAnyH_take (i := 6) (v := ?_) rfl (by kernel_rfl) (by kernel_rfl) (by kernel_rfl) (fun _ _ _ h => h) (Or.inl ⟨by rfl, ?_⟩) hHeld ?_
    rotate_left
    · intro w hSw; (try dsimp only at hSw); go_simp; try (with_reducible rfl)
    try simp only [sq]
    refine wpAnyH_take (i := 7) (v := ?_) rfl (by kernel_rfl) (by kernel_rfl) (by kernel_rfl) (fun _ _ _ h => h) (Or.inl ⟨by rfl, ?_⟩) hHeld ?_
    rotate_left
    · intro w hSw; (try dsimp only at hSw); go_simp; try (with_reducible rfl)
    try simp only [sq]
    refine wpAnyH_take (i := 9) (v := ?_) rfl (by kernel_rfl) (by kernel_rfl) (by kernel_rfl) (fun _ _ _ h => h) (Or.inl ⟨by rfl, ?_⟩) hHeld ?_
    rotate_left
    · intro w hSw; (try dsimp only at hSw); go_simp; try (with_reducible rfl)
    try simp only [sq]
    refine wpAnyH_take (i := 10) (v := ?_) rfl (by kernel_rfl) (by kernel_rfl) (by kernel_rfl) (fun _ _ _ h => h) (Or.inl ⟨by rfl, ?_⟩) hHeld ?_
    rotate_left
    · intro w hSw; (try dsimp only at hSw); go_simp; try (with_reducible rfl)
    try simp only [sq]
    refine wpAnyH_ready (rs := [8]) (by kernel_rfl) (by simp) ?_
    refine AllReadyH.cons rfl (fun K hK => ?_) AllReadyH.nil
    try simp only [sq]
    go_simp
    (first
        | (go_at_call 49; refine (HF1.out _).mono ?_; rintro e u4 ⟨rfl, hu4⟩))
    go_wp2_with fail
    refine hK.out _ _ ?_ (fun hHeld => ?_)
    · (repeat' apply And.intro) <;> (repeat (first | with_reducible assumption | with_reducible refine keepdrew ?_ | with_reducible refine keepcell (by with_reducible assumption) ?_ | with_reducible refine keepalloc ?_ _))
    clear hK K
    try simp only [sq]
    refine wpAnyH_ready (rs := [11]) (by kernel_rfl) (by simp) ?_
    refine AllReadyH.cons rfl (fun K hK => ?_) AllReadyH.nil
    try simp only [sq]
    go_simp
    (first
        | (go_at_call 49; refine (HF2.out _).mono ?_; rintro e u5 ⟨rfl, hu5⟩))
    go_wp2_with fail
    refine hK.out _ _ ?_ (fun hHeld => ?_)
    · (repeat' apply And.intro) <;> (repeat (first | with_reducible assumption | with_reducible refine keepdrew ?_ | with_reducible refine keepcell (by with_reducible assumption) ?_ | with_reducible refine keepalloc ?_ _))
    clear hK K
    try simp only [sq]
    refine wpAnyH_ready (rs := [12]) (by kernel_rfl) (by simp) ?_
    refine AllReadyH.cons rfl (fun K hK => ?_) AllReadyH.nil
    try simp only [sq]
    go_simp
    (first
        | (go_at_call 48; refine (HG.out _ (by (repeat (first | with_reducible exact Below.refl _ _ | with_reducible assumption | (with_reducible refine btrans ?_ (by with_reducible assumption)) | with_reducible refine bdrew ?_ | with_reducible refine balloc ?_ _)))).mono ?_; rintro e u6 ⟨rfl, hu6⟩))
    go_wp2_with fail
    refine hK.out _ _ ?_ (fun hHeld => ?_)
    · (repeat' apply And.intro) <;> (repeat (first | with_reducible assumption | with_reducible refine keepdrew ?_ | with_reducible refine keepcell (by with_reducible assumption) ?_ | with_reducible refine keepalloc ?_ _))
    clear hK K
    try simp only [sq]
    refine wpAnyH_take (i := 13) (v := ?_) rfl (by kernel_rfl) (by kernel_rfl) (by kernel_rfl) (fun _ _ _ h => h) (Or.inl ⟨by rfl, ?_⟩) hHeld ?_
    rotate_left
    · intro w hSw; (try dsimp only at hSw); go_simp; try (with_reducible rfl)
    try simp only [sq]
    refine wpAnyH_take (i := 14) (v := ?_) rfl (by kernel_rfl) (by kernel_rfl) (by kernel_rfl) (fun _ _ _ h => h) (Or.inl ⟨by rfl, ?_⟩) hHeld ?_
    rotate_left
    · intro w hSw; (try dsimp only at hSw); go_simp; try (with_reducible rfl)
    try simp only [sq]
    refine wpAnyH_done (by kernel_rfl) ?_ _
    go_wp2_with fail
    go_ret
    exact ⟨rfl, (by (repeat (first | with_reducible exact Below.refl _ _ | with_reducible assumption | (with_reducible refine btrans ?_ (by with_reducible assumption)) | with_reducible refine bdrew ?_ | with_reducible refine balloc ?_ _)))⟩
end Go.Proofs.YtpgcnadmhbjlgaaGreat
