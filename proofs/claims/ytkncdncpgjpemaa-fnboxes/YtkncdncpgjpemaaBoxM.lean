/- What boxes have of themselves: the join has both, one that has another is their join, and what is around points has each. -/
import Derived.Test.YtkncdncpgjpemaaSym
import Derived.Test.YtkncdncpgjpemaaGeo9
import Derived.Test.YtkncdncpgjpemaaGeo11
namespace Go.Proofs.Ytkncdncpgjpemaa
open Go.RowKit
def hv (a b c d e f g h : Int) : Bool := bok a b c d && bok e f g h && hasbx a b c d e f g h
def mv (a b c d e f g h : Int) : Bool := bok a b c d && bok e f g h && meetb a b c d e f g h
theorem hv_impl (a b c d e f g h : Int) : (bok a b c d && bok e f g h && (hasb a b c d e f && hasb a b c d g h)) = hv a b c d e f g h := by
  unfold hv
  cases h2 : bok e f g h
  · simp
  · obtain ⟨_, _, _, _, l1, l2⟩ := bok_le h2
    rw [has_same l1 l2]
theorem impl_BH (a b c d e f g h : Int) (w : World) : Calls Try.prog 29 #[.agg #[.int .i64 a, .int .i64 b, .int .i64 c, .int .i64 d], .agg #[.int .i64 e, .int .i64 f, .int .i64 g, .int .i64 h]] w fun e' w' => e' = .returned (.bool (hv a b c d e f g h)) ∧ Below w.heap.size w w' := by
  rw [← hv_impl]; exact impl_BoxHas a b c d e f g h w
theorem spec_BH (a b c d e f g h : Int) (w : World) : Calls Try.prog 30 #[.agg #[.int .i64 a, .int .i64 b, .int .i64 c, .int .i64 d], .agg #[.int .i64 e, .int .i64 f, .int .i64 g, .int .i64 h]] w fun e' w' => e' = .returned (.bool (hv a b c d e f g h)) ∧ Below w.heap.size w w' := spec_BoxHas a b c d e f g h w
theorem impl_BM (a b c d e f g h : Int) (w : World) : Calls Try.prog 27 #[.agg #[.int .i64 a, .int .i64 b, .int .i64 c, .int .i64 d], .agg #[.int .i64 e, .int .i64 f, .int .i64 g, .int .i64 h]] w fun e' w' => e' = .returned (.bool (mv a b c d e f g h)) ∧ Below w.heap.size w w' := impl_BoxMeets a b c d e f g h w
theorem spec_BM (a b c d e f g h : Int) (w : World) : Calls Try.prog 28 #[.agg #[.int .i64 a, .int .i64 b, .int .i64 c, .int .i64 d], .agg #[.int .i64 e, .int .i64 f, .int .i64 g, .int .i64 h]] w fun e' w' => e' = .returned (.bool (mv a b c d e f g h)) ∧ Below w.heap.size w w' := spec_BoxMeets a b c d e f g h w
theorem mv_comm (a b c d e f g h : Int) : mv e f g h a b c d = mv a b c d e f g h := by
  unfold mv; rw [meetb_comm, Bool.and_comm (bok e f g h)]
theorem mulle {x y u v : Int} (h1 : 0 ≤ x) (h2 : x ≤ u) (h3 : 0 ≤ y) (h4 : y ≤ v) : x * y ≤ u * v :=
  Int.le_trans (Int.mul_le_mul_of_nonneg_right h2 h3) (Int.mul_le_mul_of_nonneg_left h4 (by omega))
/-- The join: what both functions answer, and what the law asks of it. -/
theorem join_c (a b c d e f g h : Int) : ∃ (j0 j1 j2 j3 : Int) (ok : Bool),
    (∀ w, Calls Try.prog 22 #[.agg #[.int .i64 a, .int .i64 b, .int .i64 c, .int .i64 d], .agg #[.int .i64 e, .int .i64 f, .int .i64 g, .int .i64 h]] w fun e' w' => e' = .returned (.tuple #[.agg #[.int .i64 j0, .int .i64 j1, .int .i64 j2, .int .i64 j3], .bool ok]) ∧ Below w.heap.size w w') ∧
    (∀ w, Calls Try.prog 23 #[.agg #[.int .i64 a, .int .i64 b, .int .i64 c, .int .i64 d], .agg #[.int .i64 e, .int .i64 f, .int .i64 g, .int .i64 h]] w fun e' w' => e' = .returned (.tuple #[.agg #[.int .i64 j0, .int .i64 j1, .int .i64 j2, .int .i64 j3], .bool ok]) ∧ Below w.heap.size w w') ∧
    (ok = false → mv a b c d e f g h = false ∧ hv a b c d e f g h = false) ∧
    (ok = true → hv j0 j1 j2 j3 a b c d = true ∧ hv j0 j1 j2 j3 e f g h = true ∧ areav a b c d ≤ areav j0 j1 j2 j3 ∧ (hv a b c d e f g h = true → (j0 = a ∧ j1 = b ∧ j2 = c ∧ j3 = d) ∧ mv a b c d e f g h = true)) := by
  cases hk : (bok a b c d && bok e f g h)
  · refine ⟨0, 0, 0, 0, false, fun w => ?_, fun w => ?_, fun _ => ?_, fun h => by cases h⟩
    · have := impl_BoxJoin a b c d e f g h w
      rw [hk] at this; exact this
    · have := spec_BoxJoin a b c d e f g h w
      rw [hk] at this; exact this
    · unfold mv hv; rw [hk]; exact ⟨rfl, rfl⟩
  · refine ⟨min a e, min b f, max c g, max d h, true, fun w => ?_, fun w => ?_, (fun h => by cases h), fun _ => ?_⟩
    · have := impl_BoxJoin a b c d e f g h w
      rw [hk] at this; exact this
    · have := spec_BoxJoin a b c d e f g h w
      rw [hk] at this; exact this
    · rw [Bool.and_eq_true] at hk
      obtain ⟨⟨p1, p2⟩, ⟨p3, p4⟩, ⟨p5, p6⟩, ⟨p7, p8⟩, l1, l2⟩ := bok_le hk.1
      obtain ⟨⟨q1, q2⟩, ⟨q3, q4⟩, ⟨q5, q6⟩, ⟨q7, q8⟩, m1, m2⟩ := bok_le hk.2
      have hj : bok (min a e) (min b f) (max c g) (max d h) = true := by
        unfold bok cok; simp only [Bool.and_eq_true, decide_eq_true_eq]; omega
      unfold hv mv
      rw [hj, hk.1, hk.2]
      refine ⟨?_, ?_, ?_, ?_⟩
      · unfold hasbx; simp only [Bool.true_and, Bool.and_eq_true, decide_eq_true_eq]; omega
      · unfold hasbx; simp only [Bool.true_and, Bool.and_eq_true, decide_eq_true_eq]; omega
      · unfold areav; rw [if_pos hj, if_pos hk.1]
        exact mulle (by omega) (by omega) (by omega) (by omega)
      · unfold hasbx meetb; simp only [Bool.true_and, Bool.and_eq_true, decide_eq_true_eq]; omega
theorem foldmin_le (f : Int × Int → Int) : ∀ (ps : List (Int × Int)) (x : Int), ps.foldl (fun m p => min m (f p)) x ≤ x ∧ ∀ p ∈ ps, ps.foldl (fun m p => min m (f p)) x ≤ f p
  | [], x => ⟨Int.le_refl _, fun p hp => by cases hp⟩
  | q :: r, x => by
    obtain ⟨h1, h2⟩ := foldmin_le f r (min x (f q))
    refine ⟨by simp only [List.foldl_cons]; omega, fun p hp => ?_⟩
    simp only [List.foldl_cons]
    rcases List.mem_cons.1 hp with rfl | hp
    · omega
    · exact h2 p hp
theorem foldmax_le (f : Int × Int → Int) : ∀ (ps : List (Int × Int)) (x : Int), x ≤ ps.foldl (fun m p => max m (f p)) x ∧ ∀ p ∈ ps, f p ≤ ps.foldl (fun m p => max m (f p)) x
  | [], x => ⟨Int.le_refl _, fun p hp => by cases hp⟩
  | q :: r, x => by
    obtain ⟨h1, h2⟩ := foldmax_le f r (max x (f q))
    refine ⟨by simp only [List.foldl_cons]; omega, fun p hp => ?_⟩
    simp only [List.foldl_cons]
    rcases List.mem_cons.1 hp with rfl | hp
    · omega
    · exact h2 p hp
theorem foldmin_in (f : Int × Int → Int) : ∀ (ps : List (Int × Int)) (x : Int), In x → (∀ p ∈ ps, In (f p)) → In (ps.foldl (fun m p => min m (f p)) x)
  | [], x, h, _ => h
  | q :: r, x, h, hp => foldmin_in f r (min x (f q)) (by have := hp q (by simp); unfold In at *; omega) (fun p hp' => hp p (List.mem_cons_of_mem _ hp'))
theorem foldmax_in (f : Int × Int → Int) : ∀ (ps : List (Int × Int)) (x : Int), In x → (∀ p ∈ ps, In (f p)) → In (ps.foldl (fun m p => max m (f p)) x)
  | [], x, h, _ => h
  | q :: r, x, h, hp => foldmax_in f r (max x (f q)) (by have := hp q (by simp); unfold In at *; omega) (fun p hp' => hp p (List.mem_cons_of_mem _ hp'))
theorem around_has {ps : List (Int × Int)} (h : aok ps = true) (k : Nat) (hk : k < ps.length) : hv (aX ps) (aY ps) (bX ps) (bY' ps) (ps.getD k (0, 0)).1 (ps.getD k (0, 0)).2 (ps.getD k (0, 0)).1 (ps.getD k (0, 0)).2 = true := by
  cases ps with
  | nil => simp at hk
  | cons q r =>
    have hall : allok (q :: r) = true := by simpa [aok] using h
    have hin : ∀ p ∈ q :: r, In p.1 ∧ In p.2 := by
      intro p hp
      unfold allok at hall
      exact in_of_pok (List.all_eq_true.1 hall p hp)
    have hm : (q :: r).getD k (0, 0) ∈ q :: r := by
      rw [List.getD_eq_getElem?_getD, List.getElem?_eq_getElem hk]; exact List.getElem_mem hk
    generalize (q :: r).getD k (0, 0) = p at *
    unfold aX aY bX bY'
    rw [if_pos h, if_pos h, if_pos h, if_pos h]
    simp only [List.tail_cons, List.getD_cons_zero]
    obtain ⟨i1, i2⟩ := hin q (by simp)
    have a1 := foldmin_le (·.1) r q.1
    have a2 := foldmin_le (·.2) r q.2
    have a3 := foldmax_le (·.1) r q.1
    have a4 := foldmax_le (·.2) r q.2
    have b1 := foldmin_in (·.1) r q.1 i1 (fun p hp => (hin p (List.mem_cons_of_mem _ hp)).1)
    have b2 := foldmin_in (·.2) r q.2 i2 (fun p hp => (hin p (List.mem_cons_of_mem _ hp)).2)
    have b3 := foldmax_in (·.1) r q.1 i1 (fun p hp => (hin p (List.mem_cons_of_mem _ hp)).1)
    have b4 := foldmax_in (·.2) r q.2 i2 (fun p hp => (hin p (List.mem_cons_of_mem _ hp)).2)
    have hp' : (r.foldl (fun m p => min m p.1) q.1 ≤ p.1 ∧ r.foldl (fun m p => min m p.2) q.2 ≤ p.2) ∧ p.1 ≤ r.foldl (fun m p => max m p.1) q.1 ∧ p.2 ≤ r.foldl (fun m p => max m p.2) q.2 := by
      rcases List.mem_cons.1 hm with rfl | hm
      · exact ⟨⟨a1.1, a2.1⟩, a3.1, a4.1⟩
      · exact ⟨⟨a1.2 p hm, a2.2 p hm⟩, a3.2 p hm, a4.2 p hm⟩
    obtain ⟨j1, j2⟩ := hin p hm
    generalize r.foldl (fun m p => min m p.1) q.1 = A at *
    generalize r.foldl (fun m p => min m p.2) q.2 = B at *
    generalize r.foldl (fun m p => max m p.1) q.1 = C at *
    generalize r.foldl (fun m p => max m p.2) q.2 = D at *
    unfold In at *
    unfold hv bok cok hasbx
    simp only [Bool.and_eq_true, decide_eq_true_eq]
    omega
end Go.Proofs.Ytkncdncpgjpemaa
