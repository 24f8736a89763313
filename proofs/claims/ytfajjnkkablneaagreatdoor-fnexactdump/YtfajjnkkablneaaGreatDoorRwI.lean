/- Whether rows are right: the landed side. -/
import Derived.Test.YtfajjnkkablneaaGreatDoorRwP
import Derived.Test.YtfajjnkkablneaaGreatDoorRwS
import Derived.Test.YtfajjnkkablneaaGreatDoorShapeOk
namespace Go.Proofs.YtfajjnkkablneaaGreatDoor
open Go.RowKit
set_option linter.unusedSimpArgs false
set_option linter.unusedVariables false
theorem nbrs_take : ∀ (l : List Tr), (∀ k (h : k + 1 < l.length), nbr l[k] l[k + 1] = false) → nbrs l = true
  | [], _ => rfl
  | [_], _ => rfl
  | x :: y :: r, h => by
    simp only [nbrs, Bool.and_eq_true, Bool.not_eq_true']
    refine ⟨h 0 (by simp), nbrs_take (y :: r) (fun k hk => ?_)⟩
    exact h (k + 1) (by simp at hk ⊢; omega)
theorem nbrs_no : ∀ (l : List Tr) (k : Nat) (h : k + 1 < l.length), nbr l[k] l[k + 1] = true → nbrs l = false
  | [], k, h, _ => by simp at h
  | [_], k, h, _ => by simp at h
  | x :: y :: r, 0, h, hn => by
    have hn' : nbr x y = true := hn
    simp [nbrs, hn']
  | x :: y :: r, k + 1, h, hn => by
    have ih := nbrs_no (y :: r) k (by simp at h ⊢; omega) hn
    simp [nbrs, ih]
set_option maxRecDepth 100000 in
set_option maxHeartbeats 4000000 in
theorem rows_apart0 (a : Option Addr) (cap : Nat) (w : World) : Calls Tryz.prog 48 #[.slice a 0 cap] w fun e w' => e = .returned (.bool true) ∧ Below w.heap.size w w' := by
  go_enter Tryz.func48, Tryz.ntmps48
  go_wp2_with fail
  refine (values_c _ _ _ _).mono ?_
  rintro e z ⟨rfl, rfl⟩
  go_wp2_with fail
  have hB0 : Below w.heap.size w (w.alloc (.cells #[.slice a 0 cap] 27)) := balloc (Below.refl _ _) _
  refine (sorted_0 w.heap.size cap a _ (by simp)).mono ?_
  rintro e w1 ⟨a', cp, rfl, hB1⟩
  have hB := btrans hB0 hB1
  clear hB0 hB1
  go_wp2_with fail
  go_loopw [4] (fun ti wr => ti = .int .i64 1 ∧ Hid (Below w.heap.size w wr)) (fun ti _ => 0)
  case atStart => exact ⟨rfl, hid hB⟩
  case round =>
    clear hB
    obtain ⟨rfl, HB⟩ := hrel
    go_wp2_with fail
    go_ret
    exact ⟨rfl, HB.out⟩
set_option maxRecDepth 100000 in
set_option maxHeartbeats 4000000 in
theorem rows_apart (b off cap : Nat) (xs : List El) (w : World) (hlen : xs.length ≤ 300) (h0 : ¬ xs.length = 0) (hb : b < w.heap.size) (hc : ElsAt w b off xs) (ht : ∀ x ∈ xs, tmb (trE x)) : Calls Tryz.prog 48 #[.slice (some ⟨b, off, none⟩) xs.length cap] w fun e w' => e = .returned (.bool (apartR (xs.map trE))) ∧ Below w.heap.size w w' := by
  have h0' : 0 < xs.length := by omega
  have HSF := hid (fun (W : World) (Bs : Nat) (hb0 : Below w.heap.size w W) (hBs : W.cell? ⟨Bs, 0, none⟩ = some (.slice (some ⟨b, off, none⟩) xs.length cap)) => sorted_c Bs b off cap xs h0' (by omega) W (Nat.lt_of_lt_of_le hb hb0.size) hBs (hc.below hb hb0))
  clear hc
  obtain ⟨n, hn⟩ : ∃ n, n = xs.length := ⟨_, rfl⟩
  have HN := hid hn
  rw [← hn] at HSF h0' hlen ⊢
  clear hn h0
  go_enter Tryz.func48, Tryz.ntmps48
  go_wp2_with fail
  refine (values_c _ _ _ _).mono ?_
  rintro e z ⟨rfl, rfl⟩
  go_wp2_with fail
  have hB0 : Below w.heap.size w (w.alloc (.cells #[.slice (some ⟨b, off, none⟩) n cap] 27)) := balloc (Below.refl _ _) _
  refine (HSF.out _ _ hB0 (by simp)).mono ?_
  rintro e w1 ⟨g, cp, ys, rfl, hyl, hgl, hE, hP, hL, hB1⟩
  have hap : apartR (xs.map trE) = nbrs (ys.map trE) := apartR_sorted (hP.map trE) (fun x hx => by
    obtain ⟨y, hy, rfl⟩ := List.mem_map.1 hx
    exact ht y hy) (List.pairwise_map.2 (hL.imp (fun h => h)))
  have HAP := hid hap
  have hB := btrans hB0 hB1
  have HYL := hid hyl
  have HE := hid hE
  clear hap hP hL hB1 hB0 hE hyl HSF ht
  go_wp2_with fail
  go_loopw [4] (fun ti wr => ∃ k : Nat, ti = .int .i64 ((k + 1 : Nat) : Int) ∧ k + 1 ≤ n ∧ Hid (∀ m (h : m + 1 < ys.length), m < k → nbr (trE ys[m]) (trE ys[m + 1]) = false) ∧ Hid (g < wr.heap.size ∧ ElsAt wr g 0 ys) ∧ Hid (Below w.heap.size w wr)) (fun ti _ => n - (intOf ti).toNat)
  case atStart => exact ⟨0, rfl, by omega, hid (fun m h hh => absurd hh (by omega)), hid ⟨hgl, HE.out⟩, hid hB⟩
  case round =>
    clear hB hgl HE
    obtain ⟨k, rfl, hk, HC, HE, HB⟩ := hrel
    by_cases hlt : k + 1 < n
    · have c1 : ((k + 1 : Nat) : Int) < (n : Int) := by omega
      have hk1 : k + 1 < ys.length := by rw [HYL.out]; exact hlt
      obtain ⟨x0, x1, x2, x3, x4⟩ := HE.out.2 k (by omega)
      obtain ⟨y0, y1, y2, y3, y4⟩ := HE.out.2 (k + 1) hk1
      have HT := hid (fun (t : Int) (W : World) => impl_there ((ys[k]'(by omega)).1, (ys[k]'(by omega)).2.1, (ys[k]'(by omega)).2.2.1, (ys[k]'(by omega)).2.2.2.1, List.replicate (ys[k]'(by omega)).2.2.2.2.2.1 (0, 0)) (ys[k]'(by omega)).2.2.2.2.1 (ys[k]'(by omega)).2.2.2.2.2.2 t W)
      have HNB := hid (show nbr (trE (ys[k]'(by omega))) (trE ys[k + 1]) = (decide ((ys[k]'(by omega)).1 = ys[k + 1].1) && thr ((ys[k]'(by omega)).1, (ys[k]'(by omega)).2.1, (ys[k]'(by omega)).2.2.1) ys[k + 1].2.1) from rfl)
      have HNO := hid (fun (h : nbr (trE (ys[k]'(by omega))) (trE ys[k + 1]) = true) => nbrs_no (ys.map trE) k (by simpa using hk1) (by simpa using h))
      have HCA : Hid (nbr (trE (ys[k]'(by omega))) (trE ys[k + 1]) = false → ∀ m (h : m + 1 < ys.length), m < k + 1 → nbr (trE ys[m]) (trE ys[m + 1]) = false) := hid (fun hf m hm hmk => by
        by_cases e : m = k
        · subst e; exact hf
        · exact HC.out m hm (by omega))
      unfold rwv tr at HT
      simp only [List.length_replicate, Nat.zero_add] at HT x0 x1 x2 x3 x4 y0 y1 y2 y3 y4
      generalize nbr (trE (ys[k]'(by omega))) (trE ys[k + 1]) = nb at HNB HNO HCA
      generalize (ys[k]'(by omega)).1 = i1 at *
      generalize (ys[k]'(by omega)).2.1 = f1 at *
      generalize (ys[k]'(by omega)).2.2.1 = t1 at *
      generalize (ys[k]'(by omega)).2.2.2.1 = k1 at *
      generalize (ys[k]'(by omega)).2.2.2.2.1 = a1 at *
      generalize (ys[k]'(by omega)).2.2.2.2.2.1 = n1 at *
      generalize (ys[k]'(by omega)).2.2.2.2.2.2 = p1 at *
      generalize ys[k + 1].1 = i2 at *
      generalize ys[k + 1].2.1 = f2 at *
      generalize ys[k + 1].2.2.1 = t2 at *
      generalize ys[k + 1].2.2.2.1 = k2 at *
      generalize ys[k + 1].2.2.2.2.1 = a2 at *
      generalize ys[k + 1].2.2.2.2.2.1 = n2 at *
      generalize ys[k + 1].2.2.2.2.2.2 = p2 at *
      obtain ⟨j, hj⟩ : ∃ j : Nat, j = k + 1 := ⟨_, rfl⟩
      have HJ := hid hj
      rw [← hj] at y0 y1 y2 y3 y4 c1 ⊢
      have hj0 : (0 : Int) ≤ (j : Int) := by omega
      have hw1 : IntKind.i64.wrap ((j : Int) - 1) = (k : Int) := by rw [IntWalk.i64_in _ ⟨by omega, by omega⟩]; omega
      have hk0 : (0 : Int) ≤ (k : Int) := by omega
      have ck : (k : Int) < (n : Int) := by omega
      have hjn : j < n := by omega
      have hkn : k < n := by omega
      clear hj hk hlt hk1
      have HB2 := HB
      have HE2 := HE
      go_wp2_with fail
      go_cut [5, 6] (fun t5 t6 wx => ∃ ba bb : Nat, t5 = .pointer (some ⟨ba, 0, none⟩) ∧ t6 = .pointer (some ⟨bb, 0, none⟩) ∧ Below wr.heap.size wr wx ∧ wx.heap[ba]? = some (.cells #[.int .i64 i1, .int .i64 f1, .int .i64 t1, .int .i64 k1, .slice a1 n1 p1] 50 (0, 0)) ∧ wx.heap[bb]? = some (.cells #[.int .i64 i2, .int .i64 f2, .int .i64 t2, .int .i64 k2, .slice a2 n2 p2] 50 (0, 0)))
      case first =>
        go_region_held3 (fun w' => w'.cell? ⟨g, k * 5, none⟩ = some (.int .i64 i1) ∧ w'.cell? ⟨g, k * 5 + 1, none⟩ = some (.int .i64 f1) ∧ w'.cell? ⟨g, k * 5 + 2, none⟩ = some (.int .i64 t1) ∧ w'.cell? ⟨g, k * 5 + 3, none⟩ = some (.int .i64 k1) ∧ w'.cell? ⟨g, k * 5 + 4, none⟩ = some (.slice a1 n1 p1) ∧ w'.cell? ⟨g, j * 5, none⟩ = some (.int .i64 i2) ∧ w'.cell? ⟨g, j * 5 + 1, none⟩ = some (.int .i64 f2) ∧ w'.cell? ⟨g, j * 5 + 2, none⟩ = some (.int .i64 t2) ∧ w'.cell? ⟨g, j * 5 + 3, none⟩ = some (.int .i64 k2) ∧ w'.cell? ⟨g, j * 5 + 4, none⟩ = some (.slice a2 n2 p2)) ((go_split_ands; (repeat' apply And.intro) <;> (repeat (first | with_reducible assumption | with_reducible refine keepset ?_ (by dsimp only; omega) | with_reducible refine keepdrew ?_ | with_reducible refine keepalloc ?_ _))))
          (first
            | (fail))
        all_goals
          go_wp2_with fail
          go_meet
          first
            | exact ⟨_, _, rfl, rfl, by (repeat (first | exact Below.refl _ _ | (refine btrans ?_ (by with_reducible assumption)) | refine bdrew ?_ | refine balloc ?_ _)), old_alloc (new_alloc _ _ _ (by simp)), new_alloc _ _ _ (by simp)⟩
            | exact ⟨_, _, rfl, rfl, by (repeat (first | exact Below.refl _ _ | (refine btrans ?_ (by with_reducible assumption)) | refine bdrew ?_ | refine balloc ?_ _)), new_alloc _ _ _ (by simp), old_alloc (new_alloc _ _ _ (by simp))⟩
      case rest =>
        clear x0 x1 x2 x3 x4 y0 y1 y2 y3 y4
        obtain ⟨ba, bb, rfl, rfl, hbx, ga, gb⟩ := hcut
        obtain ⟨⟨x0, x1, x2, x3, x4⟩, _⟩ := cell5g ga
        obtain ⟨⟨y0, y1, y2, y3, y4⟩, _⟩ := cell5g gb
        clear ga gb
        have HB3 := hid (btrans HB2.out hbx)
        have HE3 := hid (And.intro (Nat.lt_of_lt_of_le HE2.out.1 hbx.size) (HE2.out.2.below HE2.out.1 hbx))
        have hadd : IntKind.i64.wrap ((j : Int) + 1) = ((j + 1 : Nat) : Int) := by rw [IntWalk.i64_in _ ⟨by omega, by omega⟩]; omega
        clear hbx HB2 HB HE HE2
        have HT2 := hid (fun W => HT.out f2 W)
        clear HT
        generalize hth : thr (i1, f1, t1) f2 = th at *
        cases qi : (i1 == i2)
        · have nbf : nb = false := by rw [HNB.out, show decide (i1 = i2) = false by simpa using qi]; rfl
          have HQ := hid (HCA.out nbf)
          clear nbf
          go_wp2_with fail
          go_roundw
          case rel => exact ⟨j, by go_num, by omega, by rw [HJ.out]; exact HQ, HE3, HB3⟩
          case measure => simp [intOf]; omega
        · have HN2 : Hid (nb = th) := hid (by rw [HNB.out, show decide (i1 = i2) = true by simpa using qi]; rfl)
          cases th
          · go_wp2_with fail
            refine (HT2.out _).mono ?_
            rintro e z ⟨rfl, hz⟩
            have HQ := hid (HCA.out HN2.out)
            have HB4 := hid (btrans HB3.out hz)
            have HE4 := hid (And.intro (Nat.lt_of_lt_of_le HE3.out.1 hz.size) (HE3.out.2.below HE3.out.1 hz))
            clear hz HE3 HB3
            go_wp2_with fail
            go_roundw
            case rel => exact ⟨j, by go_num, by omega, by rw [HJ.out]; exact HQ, HE4, HB4⟩
            case measure => simp [intOf]; omega
          · go_wp2_with fail
            refine (HT2.out _).mono ?_
            rintro e z ⟨rfl, hz⟩
            have HQ := hid (HNO.out HN2.out)
            have HB4 := hid (btrans HB3.out hz)
            clear hz HE3 HB3
            go_wp2_with fail
            go_ret
            exact ⟨by rw [HAP.out, HQ.out]; rfl, HB4.out⟩
    · have hall := nbrs_take (ys.map trE) (fun m hm => by
        simp only [List.length_map] at hm
        simpa using HC.out m hm (by rw [HYL.out] at hm; omega))
      have HALL := hid hall
      have c1 : (n : Int) ≤ ((k + 1 : Nat) : Int) := by omega
      clear hall
      go_wp2_with fail
      go_ret
      exact ⟨by rw [HAP.out, HALL.out]; rfl, HB.out⟩
end Go.Proofs.YtfajjnkkablneaaGreatDoor
