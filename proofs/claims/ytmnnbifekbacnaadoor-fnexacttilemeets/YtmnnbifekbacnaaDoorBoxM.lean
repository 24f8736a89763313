/- What boxes have of themselves: the join has both, one that has another is their join, and what is around points has each. -/
import Derived.Test.YtmnnbifekbacnaaDoorSym
import Derived.Test.YtmnnbifekbacnaaDoorGeo9
import Derived.Test.YtmnnbifekbacnaaDoorGeo11
namespace Go.Proofs.YtmnnbifekbacnaaDoor
open Go.RowKit
def hv (a b c d e f g h : Int) : Bool := bok a b c d && bok e f g h && hasbx a b c d e f g h
def mv (a b c d e f g h : Int) : Bool := bok a b c d && bok e f g h && meetb a b c d e f g h
theorem hv_impl (a b c d e f g h : Int) : (bok a b c d && bok e f g h && (hasb a b c d e f && hasb a b c d g h)) = hv a b c d e f g h := by
  unfold hv
  cases h2 : bok e f g h
  · simp
  · obtain ⟨_, _, _, _, l1, l2⟩ := bok_le h2
    rw [has_same l1 l2]
theorem impl_BM (a b c d e f g h : Int) (w : World) : Calls Tryd.prog 52 #[.agg #[.int .i64 a, .int .i64 b, .int .i64 c, .int .i64 d], .agg #[.int .i64 e, .int .i64 f, .int .i64 g, .int .i64 h]] w fun e' w' => e' = .returned (.bool (mv a b c d e f g h)) ∧ Below w.heap.size w w' := impl_BoxMeets a b c d e f g h w
theorem mv_comm (a b c d e f g h : Int) : mv e f g h a b c d = mv a b c d e f g h := by
  unfold mv; rw [meetb_comm, Bool.and_comm (bok e f g h)]
theorem mulle {x y u v : Int} (h1 : 0 ≤ x) (h2 : x ≤ u) (h3 : 0 ≤ y) (h4 : y ≤ v) : x * y ≤ u * v :=
  Int.le_trans (Int.mul_le_mul_of_nonneg_right h2 h3) (Int.mul_le_mul_of_nonneg_left h4 (by omega))
theorem foldmin_le (f : Int × Int → Int) : ∀ (ps : List (Int × Int)) (x : Int), ps.foldl (fun m p => min m (f p)) x ≤ x ∧ ∀ p ∈ ps, ps.foldl (fun m p => min m (f p)) x ≤ f p
  | [], x => ⟨Int.le_refl _, fun p hp => by cases hp⟩
  | q :: r, x => by
    obtain ⟨h1, h2⟩ := foldmin_le f r (min x (f q))
    refine ⟨by simp only [List.foldl_cons]; omega, fun p hp => ?_⟩
    simp only [List.foldl_cons]
    rcases List.mem_cons.1 hp with rfl | hp
    · omega
    · exact h2 p hp
theorem foldmax_le (f : Int × Int → Int) : ∀ (ps : List (Int × Int)) (x : Int), x ≤ ps.foldl (fun m p => max m (f p)) x ∧ ∀ p ∈ ps, f p ≤ ps.foldl (fun m p => max m (f p)) x
  | [], x => ⟨Int.le_refl _, fun p hp => by cases hp⟩
  | q :: r, x => by
    obtain ⟨h1, h2⟩ := foldmax_le f r (max x (f q))
    refine ⟨by simp only [List.foldl_cons]; omega, fun p hp => ?_⟩
    simp only [List.foldl_cons]
    rcases List.mem_cons.1 hp with rfl | hp
    · omega
    · exact h2 p hp
theorem foldmin_in (f : Int × Int → Int) : ∀ (ps : List (Int × Int)) (x : Int), In x → (∀ p ∈ ps, In (f p)) → In (ps.foldl (fun m p => min m (f p)) x)
  | [], x, h, _ => h
  | q :: r, x, h, hp => foldmin_in f r (min x (f q)) (by have := hp q (by simp); unfold In at *; omega) (fun p hp' => hp p (List.mem_cons_of_mem _ hp'))
theorem foldmax_in (f : Int × Int → Int) : ∀ (ps : List (Int × Int)) (x : Int), In x → (∀ p ∈ ps, In (f p)) → In (ps.foldl (fun m p => max m (f p)) x)
  | [], x, h, _ => h
  | q :: r, x, h, hp => foldmax_in f r (max x (f q)) (by have := hp q (by simp); unfold In at *; omega) (fun p hp' => hp p (List.mem_cons_of_mem _ hp'))
theorem around_has {ps : List (Int × Int)} (h : aok ps = true) (k : Nat) (hk : k < ps.length) : hv (aX ps) (aY ps) (bX ps) (bY' ps) (ps.getD k (0, 0)).1 (ps.getD k (0, 0)).2 (ps.getD k (0, 0)).1 (ps.getD k (0, 0)).2 = true := by
  cases ps with
  | nil => simp at hk
  | cons q r =>
    have hall : allok (q :: r) = true := by simpa [aok] using h
    have hin : ∀ p ∈ q :: r, In p.1 ∧ In p.2 := by
      intro p hp
      unfold allok at hall
      exact in_of_pok (List.all_eq_true.1 hall p hp)
    have hm : (q :: r).getD k (0, 0) ∈ q :: r := by
      rw [List.getD_eq_getElem?_getD, List.getElem?_eq_getElem hk]; exact List.getElem_mem hk
    generalize (q :: r).getD k (0, 0) = p at *
    unfold aX aY bX bY'
    rw [if_pos h, if_pos h, if_pos h, if_pos h]
    simp only [List.tail_cons, List.getD_cons_zero]
    obtain ⟨i1, i2⟩ := hin q (by simp)
    have a1 := foldmin_le (·.1) r q.1
    have a2 := foldmin_le (·.2) r q.2
    have a3 := foldmax_le (·.1) r q.1
    have a4 := foldmax_le (·.2) r q.2
    have b1 := foldmin_in (·.1) r q.1 i1 (fun p hp => (hin p (List.mem_cons_of_mem _ hp)).1)
    have b2 := foldmin_in (·.2) r q.2 i2 (fun p hp => (hin p (List.mem_cons_of_mem _ hp)).2)
    have b3 := foldmax_in (·.1) r q.1 i1 (fun p hp => (hin p (List.mem_cons_of_mem _ hp)).1)
    have b4 := foldmax_in (·.2) r q.2 i2 (fun p hp => (hin p (List.mem_cons_of_mem _ hp)).2)
    have hp' : (r.foldl (fun m p => min m p.1) q.1 ≤ p.1 ∧ r.foldl (fun m p => min m p.2) q.2 ≤ p.2) ∧ p.1 ≤ r.foldl (fun m p => max m p.1) q.1 ∧ p.2 ≤ r.foldl (fun m p => max m p.2) q.2 := by
      rcases List.mem_cons.1 hm with rfl | hm
      · exact ⟨⟨a1.1, a2.1⟩, a3.1, a4.1⟩
      · exact ⟨⟨a1.2 p hm, a2.2 p hm⟩, a3.2 p hm, a4.2 p hm⟩
    obtain ⟨j1, j2⟩ := hin p hm
    generalize r.foldl (fun m p => min m p.1) q.1 = A at *
    generalize r.foldl (fun m p => min m p.2) q.2 = B at *
    generalize r.foldl (fun m p => max m p.1) q.1 = C at *
    generalize r.foldl (fun m p => max m p.2) q.2 = D at *
    unfold In at *
    unfold hv bok cok hasbx
    simp only [Bool.and_eq_true, decide_eq_true_eq]
    omega
end Go.Proofs.YtmnnbifekbacnaaDoor
