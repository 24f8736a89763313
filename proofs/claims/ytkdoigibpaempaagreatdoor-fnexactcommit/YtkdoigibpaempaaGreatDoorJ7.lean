/- Texts of stores, joined: RwE, RwM, RwB, RwC. -/
import Derived.Test.YtkdoigibpaempaaGreatDoorJ6
import Derived.Deep.RegionHeld3
import Derived.Test.YtkdoigibpaempaaGreatDoorRows
import Derived.Sort.Grow
import Derived.WalkLawsBesides
set_option linter.unusedSimpArgs false
set_option linter.unusedVariables false
namespace Go.Proofs.YtkdoigibpaempaaGreatDoor
open Go.RowKit
set_option maxHeartbeats 2000000 in
theorem to_rows {N : Nat → Prop} (now : Int) (a : Option Addr) (cap : Nat) (rs : List Rw) (w : World) (hm : rs.length ≤ 1099511627776) (h : Rws N w a rs) : Calls Tryz.prog 18 #[.agg #[.int .i64 now, .slice a rs.length cap]] w fun e w' => ∃ B, e = .returned (.agg #[.int .i64 now, .slice (some ⟨B, 0, none⟩) rs.length rs.length]) ∧ w.heap.size ≤ B ∧ B < w'.heap.size ∧ RwsAt (fun c => B < c) w' B 0 rs ∧ Below w.heap.size w w' := by
  have TS := hid (fun (W : World) (hb : Below w.heap.size w W) => to_rowS a cap rs W hm (h.below hb))
  clear h
  obtain ⟨n, hn⟩ : ∃ n, n = rs.length := ⟨_, rfl⟩
  rw [← hn] at TS ⊢
  clear hn
  go_enter Tryz.func18, Tryz.ntmps18
  go_wp2_with fail
  have hB0 : Below w.heap.size w (((w.alloc (.cells #[.int .i64 now, .slice a n cap] 24)).alloc (.cells #[.int .i64 0, .slice none 0 0] 31)).alloc (.cells #[.int .i64 now, .slice none 0 0] 31)) := balloc (balloc (balloc (Below.refl _ _) _) _) _
  have g2 := old_alloc (o' := .cells #[.int .i64 now, .slice none 0 0] 31) (new_alloc (w.alloc (.cells #[.int .i64 now, .slice a n cap] 24)) (w.heap.size + 1) (.cells #[.int .i64 0, .slice none 0 0] 31) (by simp))
  have g3 := new_alloc ((w.alloc (.cells #[.int .i64 now, .slice a n cap] 24)).alloc (.cells #[.int .i64 0, .slice none 0 0] 31)) (w.heap.size + 1 + 1) (.cells #[.int .i64 now, .slice none 0 0] 31) (by simp)
  generalize (((w.alloc (.cells #[.int .i64 now, .slice a n cap] 24)).alloc (.cells #[.int .i64 0, .slice none 0 0] 31)).alloc (.cells #[.int .i64 now, .slice none 0 0] 31)) = W at *
  have hlW := lt_of_block g3
  refine (TS.out _ hB0).mono ?_
  rintro e w1 ⟨B, rfl, hbb, hbl, ho, ht, hb1⟩
  replace g2 := keepheap2 hb1 g2
  replace g3 := keepheap2 hb1 g3
  have hB := btrans hB0 hb1
  have HO := hid ho
  clear hb1 hB0 ho ht
  obtain ⟨a0, a1, f0, f1⟩ := cell2f g2
  obtain ⟨b0, b1, e0, e1⟩ := cell2f g3
  go_wp2_with fail
  have gF := set2r (set_far (q := w.heap.size + 1 + 1) (k := 1) (u := .slice (some ⟨B, 0, none⟩) n n) g2 (by omega)) (.int .i64 now) (.slice (some ⟨B, 0, none⟩) n n)
  have bF := bset (bset (bset hB (q := w.heap.size + 1 + 1) (k := 1) (by omega) (.slice (some ⟨B, 0, none⟩) n n)) (q := w.heap.size + 1) (k := 0) (by omega) (.int .i64 now)) (q := w.heap.size + 1) (k := 1) (by omega) (.slice (some ⟨B, 0, none⟩) n n)
  have oF := ((HO.out.setR (q := w.heap.size + 1 + 1) (k := 1) (u := .slice (some ⟨B, 0, none⟩) n n) (by omega) (by omega)).setR (q := w.heap.size + 1) (k := 0) (u := .int .i64 now) (by omega) (by omega)).setR (q := w.heap.size + 1) (k := 1) (u := .slice (some ⟨B, 0, none⟩) n n) (by omega) (by omega)
  have lF : B < (((w1.setCell ⟨w.heap.size + 1 + 1, 1, none⟩ (.slice (some ⟨B, 0, none⟩) n n)).setCell ⟨w.heap.size + 1, 0, none⟩ (.int .i64 now)).setCell ⟨w.heap.size + 1, 1, none⟩ (.slice (some ⟨B, 0, none⟩) n n)).heap.size := by simpa using hbl
  generalize ((w1.setCell ⟨w.heap.size + 1 + 1, 1, none⟩ (.slice (some ⟨B, 0, none⟩) n n)).setCell ⟨w.heap.size + 1, 0, none⟩ (.int .i64 now)).setCell ⟨w.heap.size + 1, 1, none⟩ (.slice (some ⟨B, 0, none⟩) n n) = wf at *
  obtain ⟨z0, z1, _, _⟩ := cell2f gF
  exact bodyPost_ret (v := .agg #[.int .i64 now, .slice (some ⟨B, 0, none⟩) n n]) (by simp [results, Tryz.results18, go_sem, z0, z1]) rfl ⟨B, rfl, by omega, lF, oF, bF⟩
set_option maxHeartbeats 2000000 in
theorem eq_row (r : Rw) (a1 a2 : Option Addr) (c1 c2 : Nat) (w : World) (hm : r.2.2.2.2.length ≤ 1099511627776) (h1 : r.2.2.2.2.length ≤ c1) (h2 : r.2.2.2.2.length ≤ c2) (p1 : Pts w a1 r.2.2.2.2) (p2 : Pts w a2 r.2.2.2.2) : Calls Tryz.prog 73 #[rwv r a1 c1, rwv r a2 c2] w fun e w' => e = .returned (.bool true) ∧ Below w.heap.size w w' := by
  obtain ⟨id, fr, te, kd, ps⟩ := r
  unfold rwv
  simp only at *
  have EQ := hid (fun (W : World) (hb : Below w.heap.size w W) => eq_shape kd a1 a2 c1 c2 ps W hm h1 h2 (p1.below hb) (p2.below hb))
  unfold shv at EQ
  clear p1 p2
  generalize ps.length = n at *
  go_enter Tryz.func73, Tryz.ntmps73
  go_wp2_with fail
  refine (EQ.out _ (balloc (balloc (Below.refl _ _) _) _)).mono ?_
  rintro e w1 ⟨rfl, hb⟩
  go_wp2_with fail
  go_ret
  exact ⟨rfl, btrans (balloc (balloc (Below.refl _ _) _) _) hb⟩
set_option maxHeartbeats 2000000 in
theorem eq_rowS {N1 N2 : Nat → Prop} (a b : Option Addr) (cap cap' : Nat) (rs : List Rw) (w : World) (hm : rs.length ≤ 1099511627776) (p1 : Rws N1 w a rs) (p2 : Rws N2 w b rs) : Calls Tryz.prog 45 #[.slice a rs.length cap, .slice b rs.length cap'] w fun e w' => e = .returned (.bool true) ∧ Below w.heap.size w w' := by
  have H1 := hid p1
  have H2 := hid p2
  clear p1 p2
  obtain ⟨n, hn⟩ : ∃ n, n = rs.length := ⟨_, rfl⟩
  have HN := hid hn.symm
  rw [← hn] at hm ⊢
  clear hn
  go_enter Tryz.func45, Tryz.ntmps45
  go_wp2_with fail
  go_loopw [5] (fun ti wr => ∃ j : Nat, ti = .int .i64 j ∧ j ≤ n ∧ Hid (Below w.heap.size w wr)) (fun ti _ => n - (intOf ti).toNat)
  case atStart => exact ⟨0, rfl, Nat.zero_le _, hid (Below.refl _ _)⟩
  case round =>
    obtain ⟨j, rfl, hj, HBW⟩ := hrel
    by_cases hlt : j < n
    · have c1 : (j : Int) < (n : Int) := by omega
      have hjr : j < rs.length := by rw [HN.out]; exact hlt
      obtain ⟨b1, o1, rfl, hb1, a1, c1', k0, k1, k2, k3, k4, k5, k6, k7, _⟩ := (H1.out.below HBW.out).at j hjr
      obtain ⟨b2, o2, rfl, hb2, a2, c2', l0, l1, l2, l3, l4, l5, l6, l7, _⟩ := (H2.out.below HBW.out).at j hjr
      have EQ := hid (fun (W : World) (hb : Below wr.heap.size wr W) => eq_row rs[j] a1 a2 c1' c2' W k6 k5 l5 (k7.below hb) (l7.below hb))
      unfold rwv at EQ
      clear k5 k6 k7 l5 l6 l7
      generalize rs[j].1 = id at *
      generalize rs[j].2.1 = fr at *
      generalize rs[j].2.2.1 = te at *
      generalize rs[j].2.2.2.1 = kd at *
      generalize rs[j].2.2.2.2 = ps at *
      have HB0 : Hid (Below wr.heap.size wr wr.drew) := hid (bdrew (Below.refl _ _))
      go_wp2_with fail
      refine wp_region_held_drew (S := (fun w' => w'.cell? ⟨b1, o1 + j * 5, none⟩ = some (.int .i64 id) ∧ w'.cell? ⟨b1, o1 + j * 5 + 1, none⟩ = some (.int .i64 fr) ∧ w'.cell? ⟨b1, o1 + j * 5 + 2, none⟩ = some (.int .i64 te) ∧ w'.cell? ⟨b1, o1 + j * 5 + 3, none⟩ = some (.int .i64 kd) ∧ w'.cell? ⟨b1, o1 + j * 5 + 4, none⟩ = some (.slice a1 ps.length c1') ∧ w'.cell? ⟨b2, o2 + j * 5, none⟩ = some (.int .i64 id) ∧ w'.cell? ⟨b2, o2 + j * 5 + 1, none⟩ = some (.int .i64 fr) ∧ w'.cell? ⟨b2, o2 + j * 5 + 2, none⟩ = some (.int .i64 te) ∧ w'.cell? ⟨b2, o2 + j * 5 + 3, none⟩ = some (.int .i64 kd) ∧ w'.cell? ⟨b2, o2 + j * 5 + 4, none⟩ = some (.slice a2 ps.length c2'))) (by kernel_rfl) ?_ (fun hHeld => ?_)
      · (repeat' apply And.intro) <;> (with_reducible repeat (first | assumption | refine keepdrew ?_ | refine keepcell (by assumption) ?_))
      refine wpAnyH_take (i := 0) (v := ?_) rfl (by kernel_rfl) (by kernel_rfl) (by kernel_rfl) (fun _ _ _ h => h) (Or.inl ⟨by rfl, ?_⟩) hHeld ?_
      rotate_left
      · intro w hSw; (try dsimp only at hSw); go_simp; try (with_reducible rfl)
      try simp only [sq]
      refine wpAnyH_take (i := 1) (v := ?_) rfl (by kernel_rfl) (by kernel_rfl) (by kernel_rfl) (fun _ _ _ h => h) (Or.inl ⟨by rfl, ?_⟩) hHeld ?_
      rotate_left
      · intro w hSw; (try dsimp only at hSw); go_simp; try (with_reducible rfl)
      try simp only [sq]
      refine wpAnyH_take (i := 2) (v := ?_) rfl (by kernel_rfl) (by kernel_rfl) (by kernel_rfl) (fun _ _ _ h => h) (Or.inl ⟨by rfl, ?_⟩) hHeld ?_
      rotate_left
      · intro w hSw; (try dsimp only at hSw); go_simp; try (with_reducible rfl)
      try simp only [sq]
      refine wpAnyH_take (i := 3) (v := ?_) rfl (by kernel_rfl) (by kernel_rfl) (by kernel_rfl) (fun _ _ _ h => h) (Or.inl ⟨by rfl, ?_⟩) hHeld ?_
      rotate_left
      · intro w hSw; (try dsimp only at hSw); go_simp; try (with_reducible rfl)
      try simp only [sq]
      refine wpAnyH_take (i := 4) (v := ?_) rfl (by kernel_rfl) (by kernel_rfl) (by kernel_rfl) (fun _ _ _ h => h) (Or.inl ⟨by rfl, ?_⟩) hHeld ?_
      rotate_left
      · intro w hSw; (try dsimp only at hSw); go_simp; try (with_reducible rfl)
      try simp only [sq]
      refine wpAnyH_take (i := 5) (v := ?_) rfl (by kernel_rfl) (by kernel_rfl) (by kernel_rfl) (fun _ _ _ h => h) (Or.inl ⟨by rfl, ?_⟩) hHeld ?_
      rotate_left
      · intro w hSw; (try dsimp only at hSw); go_simp; try (with_reducible rfl)
      try simp only [sq]
      refine wpAnyH_take (i := 6) (v := ?_) rfl (by kernel_rfl) (by kernel_rfl) (by kernel_rfl) (fun _ _ _ h => h) (Or.inl ⟨by rfl, ?_⟩) hHeld ?_
      rotate_left
      · intro w hSw; (try dsimp only at hSw); go_simp; try (with_reducible rfl)
      try simp only [sq]
      refine wpAnyH_take (i := 7) (v := ?_) rfl (by kernel_rfl) (by kernel_rfl) (by kernel_rfl) (fun _ _ _ h => h) (Or.inl ⟨by rfl, ?_⟩) hHeld ?_
      rotate_left
      · intro w hSw; (try dsimp only at hSw); go_simp; try (with_reducible rfl)
      try simp only [sq]
      refine wpAnyH_ready (rs := [8]) (by kernel_rfl) (by simp) ?_
      refine AllReadyH.cons rfl (fun K hK => ?_) AllReadyH.nil
      try simp only [sq]
      go_simp
      (first
          | (go_at_call 73; refine (EQ.out _ HB0.out).mono ?_; rintro e z1 ⟨rfl, hz⟩))
      go_wp2_with fail
      refine hK.out _ _ ?_ (fun hHeld => ?_)
      · (repeat' apply And.intro) <;> (with_reducible repeat (first | assumption | refine keepdrew ?_ | refine keepcell (by assumption) ?_))
      clear hK K
      try simp only [sq]
      refine wpAnyH_take (i := 9) (v := ?_) rfl (by kernel_rfl) (by kernel_rfl) (by kernel_rfl) (fun _ _ _ h => h) (Or.inl ⟨by rfl, ?_⟩) hHeld ?_
      rotate_left
      · intro w hSw; (try dsimp only at hSw); go_simp; try (with_reducible rfl)
      try simp only [sq]
      refine wpAnyH_done (by kernel_rfl) ?_ _
      go_wp2_with fail
      go_roundw
      case rel => exact ⟨j + 1, by go_num, by omega, hid (btrans (bdrew HBW.out) hz)⟩
      case measure => simp [intOf]; omega
    · have c1 : (n : Int) ≤ (j : Int) := by omega
      go_wp2_with fail
      go_ret
      exact ⟨rfl, HBW.out⟩
set_option maxHeartbeats 1000000 in
theorem eq_rows {N1 N2 : Nat → Prop} (now : Int) (a b : Option Addr) (cap cap' : Nat) (rs : List Rw) (w : World) (hm : rs.length ≤ 1099511627776) (p1 : Rws N1 w a rs) (p2 : Rws N2 w b rs) : Calls Tryz.prog 22 #[.agg #[.int .i64 now, .slice a rs.length cap], .agg #[.int .i64 now, .slice b rs.length cap']] w fun e w' => e = .returned (.bool true) ∧ Below w.heap.size w w' := by
  have EQ := hid (fun (W : World) (hb : Below w.heap.size w W) => eq_rowS a b cap cap' rs W hm (p1.below hb) (p2.below hb))
  clear p1 p2
  generalize rs.length = n at *
  go_enter Tryz.func22, Tryz.ntmps22
  go_wp2_with fail
  refine (EQ.out _ (balloc (balloc (Below.refl _ _) _) _)).mono ?_
  rintro e w1 ⟨rfl, hb⟩
  go_wp2_with fail
  go_ret
  exact ⟨rfl, btrans (balloc (balloc (Below.refl _ _) _) _) hb⟩
end Go.Proofs.YtkdoigibpaempaaGreatDoor
namespace Go.Proofs.YtkdoigibpaempaaGreatDoor
abbrev Tr : Type := Int × Int × Int
def thr (r : Tr) (at_ : Int) : Bool := decide (r.2.1 ≤ at_) && (decide (r.2.2 = 0) || decide (at_ < r.2.2))
def clash (x y : Tr) : Bool := decide (y.1 = x.1) && (thr x y.2.1 || thr y x.2.1)
theorem clash_comm (x y : Tr) : clash x y = clash y x := by
  unfold clash
  rw [Bool.or_comm]
  congr 1
  exact decide_eq_decide.2 ⟨fun h => h.symm, fun h => h.symm⟩
def tmb (r : Tr) : Prop := 1 ≤ r.2.1 ∧ (r.2.2 = 0 ∨ r.2.1 < r.2.2)
def lex (x y : Tr) : Prop := x.1 < y.1 ∨ (x.1 = y.1 ∧ x.2.1 ≤ y.2.1)
def nbr (x y : Tr) : Bool := decide (x.1 = y.1) && thr x y.2.1
theorem nbr_clash {x y : Tr} (h : clash x y = false) : nbr x y = false := by
  unfold nbr
  unfold clash at h
  by_cases he : x.1 = y.1
  · simp only [he, decide_true, Bool.true_and, Bool.or_eq_false_iff] at h ⊢
    exact h.1
  · simp [he]
theorem far_clash {x y z : Tr} (hx : tmb x) (h1 : nbr x y = false) (l1 : lex x y) (l2 : lex y z) : clash x z = false := by
  unfold clash
  by_cases he : z.1 = x.1
  · have hid : x.1 = y.1 := by unfold lex at l1 l2; omega
    have hfr : y.2.1 ≤ z.2.1 := by unfold lex at l1 l2; omega
    have hxy : x.2.1 ≤ y.2.1 := by unfold lex at l1 l2; omega
    unfold nbr at h1
    simp only [hid, decide_true, Bool.true_and] at h1
    unfold thr at h1 ⊢
    unfold tmb at hx
    simp only [Bool.and_eq_false_iff, Bool.or_eq_false_iff, decide_eq_false_iff_not] at h1 ⊢
    right
    constructor
    · right
      omega
    · left
      omega
  · simp [he]
theorem near_clash {x y : Tr} (hx : tmb x) (h1 : nbr x y = false) (l1 : lex x y) : clash x y = false := far_clash hx h1 l1 (.inr ⟨rfl, Int.le_refl _⟩)
def nbrs : List Tr → Bool
  | [] => true
  | [_] => true
  | x :: y :: r => !nbr x y && nbrs (y :: r)
theorem nbrs_of : ∀ (l : List Tr), l.Pairwise (fun x y => clash x y = false) → nbrs l = true
  | [], _ => rfl
  | [_], _ => rfl
  | x :: y :: r, h => by
    have h' := List.pairwise_cons.1 h
    simp only [nbrs, Bool.and_eq_true, Bool.not_eq_true']
    exact ⟨nbr_clash (h'.1 y (List.mem_cons_self ..)), nbrs_of (y :: r) h'.2⟩
theorem of_nbrs : ∀ (l : List Tr), (∀ x ∈ l, tmb x) → l.Pairwise lex → nbrs l = true → l.Pairwise (fun x y => clash x y = false)
  | [], _, _, _ => List.Pairwise.nil
  | [_], _, _, _ => List.pairwise_singleton _ _
  | x :: y :: r, ht, hl, hn => by
    simp only [nbrs, Bool.and_eq_true, Bool.not_eq_true'] at hn
    have hl' := List.pairwise_cons.1 hl
    refine List.pairwise_cons.2 ⟨fun z hz => ?_, of_nbrs (y :: r) (fun x hx => ht x (List.mem_cons_of_mem _ hx)) hl'.2 hn.2⟩
    rcases List.mem_cons.1 hz with rfl | hz
    · exact near_clash (ht x (List.mem_cons_self ..)) hn.1 (hl'.1 z (List.mem_cons_self ..))
    · exact far_clash (ht x (List.mem_cons_self ..)) hn.1 (hl'.1 y (List.mem_cons_self ..)) ((List.pairwise_cons.1 hl'.2).1 z hz)
def apartR : List Tr → Bool
  | [] => true
  | x :: r => r.all (fun y => !clash x y) && apartR r
theorem apartR_iff : ∀ (l : List Tr), apartR l = true ↔ l.Pairwise (fun x y => clash x y = false)
  | [] => by simp [apartR]
  | x :: r => by
    rw [apartR, Bool.and_eq_true, List.pairwise_cons, apartR_iff r, List.all_eq_true]
    simp
theorem apartR_sorted {l s : List Tr} (hp : s.Perm l) (ht : ∀ x ∈ l, tmb x) (hs : s.Pairwise lex) : apartR l = nbrs s := by
  have hsym : ∀ {x y : Tr}, clash x y = false → clash y x = false := fun {x y} h => by rw [clash_comm]; exact h
  have e : l.Pairwise (fun x y => clash x y = false) ↔ s.Pairwise (fun x y => clash x y = false) := (hp.pairwise_iff (fun h => hsym h)).symm
  have hts : ∀ x ∈ s, tmb x := fun x hx => ht x (hp.mem_iff.1 hx)
  cases hn : nbrs s
  · cases ha : apartR l
    · rfl
    · rw [nbrs_of s (e.1 ((apartR_iff l).1 ha))] at hn; cases hn
  · exact (apartR_iff l).2 (e.2 (of_nbrs s hts hs hn))
theorem apartR_snoc : ∀ (l : List Tr) (x : Tr), apartR (l ++ [x]) = (apartR l && l.all (fun y => !clash y x))
  | [], x => by simp [apartR]
  | y :: r, x => by
    rw [List.cons_append, apartR, apartR_snoc r x, apartR, List.all_append, List.all_cons]
    simp only [List.all_cons, List.all_nil, Bool.and_true]
    cases r.all (fun z => !clash y z) <;> cases apartR r <;> cases r.all (fun z => !clash z x) <;> cases clash y x <;> rfl
end Go.Proofs.YtkdoigibpaempaaGreatDoor
namespace Go.Proofs.YtkdoigibpaempaaGreatDoor
open Go.RowKit
def tr (r : Rw) : Tr := (r.1, r.2.1, r.2.2.1)
theorem thr_def (r : Rw) (t : Int) : thr (tr r) t = (decide (r.2.1 ≤ t) && (decide (r.2.2.1 = 0) || decide (t < r.2.2.1))) := rfl
set_option maxHeartbeats 1000000 in
theorem spec_there (r : Rw) (a : Option Addr) (cap : Nat) (t : Int) (w : World) : Calls Tryz.prog 56 #[rwv r a cap, .int .i64 t] w fun e w' => e = .returned (.bool (thr (tr r) t)) ∧ Below w.heap.size w w' := by
  rw [thr_def]
  obtain ⟨id, fr, te, kd, ps⟩ := r
  unfold rwv
  simp only
  generalize ps.length = n
  by_cases h1 : fr ≤ t
  · by_cases h2 : te = 0
    · go_enter Tryz.func56, Tryz.ntmps56
      go_wp2
      go_ret
      exact ⟨by simp [h1, h2], balloc (Below.refl _ _) _⟩
    · have h3 : (te == 0) = false := by simpa using h2
      go_enter Tryz.func56, Tryz.ntmps56
      go_wp2
      go_ret
      exact ⟨by simp [h1, h2], balloc (Below.refl _ _) _⟩
  · have h3 : decide (fr ≤ t) = false := by simpa using h1
    go_enter Tryz.func56, Tryz.ntmps56
    go_wp2
    go_ret
    exact ⟨by simp [h1], balloc (Below.refl _ _) _⟩
set_option maxHeartbeats 1000000 in
theorem impl_ended (r : Rw) (a : Option Addr) (cap : Nat) (t : Int) (w : World) : Calls Tryz.prog 149 #[rwv r a cap, .int .i64 t] w fun e w' => e = .returned (.bool (decide (r.2.2.1 ≠ 0) && decide (r.2.2.1 ≤ t))) ∧ Below w.heap.size w w' := by
  obtain ⟨id, fr, te, kd, ps⟩ := r
  unfold rwv
  simp only
  generalize ps.length = n
  by_cases h2 : te = 0
  · go_enter Tryz.func149, Tryz.ntmps149
    go_wp2
    go_ret
    exact ⟨by simp [h2], balloc (Below.refl _ _) _⟩
  · have h3 : (te != 0) = true := by simpa using h2
    go_enter Tryz.func149, Tryz.ntmps149
    go_wp2
    go_ret
    exact ⟨by simp [h2], balloc (Below.refl _ _) _⟩
set_option maxHeartbeats 1000000 in
theorem impl_there (r : Rw) (a : Option Addr) (cap : Nat) (t : Int) (w : World) : Calls Tryz.prog 137 #[rwv r a cap, .int .i64 t] w fun e w' => e = .returned (.bool (thr (tr r) t)) ∧ Below w.heap.size w w' := by
  have HE := hid (fun w => impl_ended r a cap t w)
  rw [thr_def]
  obtain ⟨id, fr, te, kd, ps⟩ := r
  unfold rwv at *
  simp only at *
  generalize ps.length = n at *
  by_cases h1 : fr ≤ t
  · have e : (decide (fr ≤ t) && (decide (te = 0) || decide (t < te))) = !(decide (te ≠ 0) && decide (te ≤ t)) := by
      by_cases h2 : te = 0
      · simp [h1, h2]
      · by_cases h3 : te ≤ t
        · have : ¬ t < te := by omega
          simp [h1, h2, h3, this]
        · have : t < te := by omega
          simp [h1, h2, h3, this]
    rw [e]
    generalize (decide (te ≠ 0) && decide (te ≤ t)) = q at *
    clear e
    go_enter Tryz.func137, Tryz.ntmps137
    go_wp2_with fail
    refine (HE.out _).mono ?_
    rintro e w1 ⟨rfl, hb⟩
    go_wp2_with fail
    go_ret
    exact ⟨rfl, btrans (balloc (Below.refl _ _) _) hb⟩
  · have h3 : decide (fr ≤ t) = false := by simpa using h1
    clear HE
    go_enter Tryz.func137, Tryz.ntmps137
    go_wp2_with fail
    go_ret
    exact ⟨by simp [h1], balloc (Below.refl _ _) _⟩
def idb (x : Int) : Bool := decide (1 ≤ x) && decide (x ≤ 999999999)
def rwb (now : Int) (r : Rw) : Bool := idb r.1 && (decide (1 ≤ r.2.1) && decide (r.2.1 ≤ now)) && (decide (r.2.2.1 = 0) || (decide (r.2.1 < r.2.2.1) && decide (r.2.2.1 ≤ now)))
theorem rwb_tmb {now : Int} {r : Rw} (h : rwb now r = true) : tmb (tr r) := by
  unfold rwb at h
  simp only [Bool.and_eq_true, Bool.or_eq_true, decide_eq_true_eq] at h
  refine ⟨h.1.2.1, ?_⟩
  rcases h.2 with h | h
  · exact .inl h
  · exact .inr h.1
theorem in_r (x a b : Int) (w : World) : Calls Tryz.prog 32 #[.int .i64 x, .int .i64 a, .int .i64 b] w fun e w' => e = .returned (.bool (decide (a ≤ x) && decide (x ≤ b))) ∧ w' = w := by
  by_cases h : a ≤ x
  · go_enter Tryz.func32, Tryz.ntmps32
    go_wp2
    go_ret
    exact ⟨by simp [h], rfl⟩
  · have hd : decide (a ≤ x) = false := by simpa using h
    go_enter Tryz.func32, Tryz.ntmps32
    go_wp2
    go_ret
    exact ⟨by simp [hd], rfl⟩
theorem spec_id (x : Int) (w : World) : Calls Tryz.prog 54 #[.int .i64 x] w fun e w' => e = .returned (.bool (idb x)) ∧ w' = w := by
  go_enter Tryz.func54, Tryz.ntmps54
  go_wp2_with fail
  refine (in_r x 1 999999999 _).mono ?_
  rintro e w1 ⟨rfl, rfl⟩
  go_wp2_with fail
  go_ret
  exact ⟨rfl, rfl⟩
theorem impl_id (x : Int) (w : World) : Calls Tryz.prog 132 #[.int .i64 x] w fun e w' => e = .returned (.bool (idb x)) ∧ w' = w := by
  by_cases h : 1 ≤ x
  · go_enter Tryz.func132, Tryz.ntmps132
    go_wp2
    go_ret
    exact ⟨by simp [idb, h], rfl⟩
  · have hd : decide (1 ≤ x) = false := by simpa using h
    go_enter Tryz.func132, Tryz.ntmps132
    go_wp2
    go_ret
    exact ⟨by unfold idb; rw [hd]; rfl, rfl⟩
end Go.Proofs.YtkdoigibpaempaaGreatDoor
namespace Go.Proofs.YtkdoigibpaempaaGreatDoor
open Go.RowKit
def cmi (a b : Int) : Int := if a < b then -1 else if b < a then 1 else 0
def cmr (x y : Tr) : Int := if cmi x.1 y.1 ≠ 0 then cmi x.1 y.1 else cmi x.2.1 y.2.1
set_option maxHeartbeats 1000000 in
theorem compare_c (a b : Int) (w : World) : Calls Tryz.prog 148 #[.int .i64 a, .int .i64 b] w fun e w' => e = .returned (.int .i64 (cmi a b)) ∧ w' = w := by
  by_cases h1 : a < b
  · go_enter Tryz.func148, Tryz.ntmps148
    go_wp2
    go_ret
    exact ⟨by simp [cmi, h1], rfl⟩
  · by_cases h2 : b < a
    · go_enter Tryz.func148, Tryz.ntmps148
      go_wp2
      go_ret
      exact ⟨by simp [cmi, h1, h2], rfl⟩
    · have e0 : cmi a b = 0 := by unfold cmi; rw [if_neg h1, if_neg h2]
      rw [e0]
      go_enter Tryz.func148, Tryz.ntmps148
      go_wp2
      go_ret
      exact ⟨rfl, rfl⟩
set_option maxHeartbeats 1000000 in
theorem or_c (g : Nat) (p q : Int) (w : World) (c0 : w.cell? ⟨g, 0, none⟩ = some (.int .i64 p)) (c1 : w.cell? ⟨g, 1, none⟩ = some (.int .i64 q)) : Calls Tryz.prog 147 #[.slice (some ⟨g, 0, none⟩) 2 2] w fun e w' => e = .returned (.int .i64 (if p ≠ 0 then p else q)) ∧ w' = w := by
  by_cases hp : p = 0
  · by_cases hq : q = 0
    · subst hp hq
      go_enter Tryz.func147, Tryz.ntmps147
      go_wp2_with fail
      refine wp_loop_rounds 3 ?_
      rw [rounds_succ]
      go_wp2_with fail
      rw [rounds_succ]
      go_wp2_with fail
      rw [rounds_succ]
      go_wp2_with fail
      go_ret
      exact ⟨rfl, rfl⟩
    · have hq' : (q != 0) = true := by simpa using hq
      subst hp
      go_enter Tryz.func147, Tryz.ntmps147
      go_wp2_with fail
      refine wp_loop_rounds 2 ?_
      rw [rounds_succ]
      go_wp2_with fail
      rw [rounds_succ]
      go_wp2_with fail
      go_ret
      exact ⟨by simp, rfl⟩
  · have hp' : (p != 0) = true := by simpa using hp
    go_enter Tryz.func147, Tryz.ntmps147
    go_wp2_with fail
    refine wp_loop_rounds 1 ?_
    rw [rounds_succ]
    go_wp2_with fail
    go_ret
    exact ⟨by simp [hp], rfl⟩
theorem grown3 (w : World) (A B C : Obj) : (((w.alloc A).alloc B).alloc C).drew = Sort.grow (w.drewN 1) #[A, B, C] := by
  rw [Sort.alloc_eq_grow, Sort.alloc_eq_grow, Sort.alloc_eq_grow, Sort.grow_grow, Sort.grow_grow]
  rfl
set_option maxHeartbeats 2000000 in
theorem compare_rows (i1 f1 t1 k1 i2 f2 t2 k2 : Int) (v1 v2 : Value) (w : World) : Calls Tryz.prog 136 #[.agg #[.int .i64 i1, .int .i64 f1, .int .i64 t1, .int .i64 k1, v1], .agg #[.int .i64 i2, .int .i64 f2, .int .i64 t2, .int .i64 k2, v2]] w fun e w' => e = .returned (.int .i64 (cmr (i1, f1, t1) (i2, f2, t2))) ∧ ∃ q os, w' = Sort.grow (w.drewN q) os := by
  have C1 := hid (fun w => compare_c i1 i2 w)
  have C2 := hid (fun w => compare_c f1 f2 w)
  have hcm : cmr (i1, f1, t1) (i2, f2, t2) = if cmi i1 i2 ≠ 0 then cmi i1 i2 else cmi f1 f2 := rfl
  rw [hcm]
  clear hcm
  generalize cmi i1 i2 = p at *
  generalize cmi f1 f2 = q at *
  have OR := hid (fun (W : World) (g : Nat) (c0 : W.cell? ⟨g, 0, none⟩ = some (.int .i64 p)) (c1 : W.cell? ⟨g, 1, none⟩ = some (.int .i64 q)) => or_c g p q W c0 c1)
  generalize (if p ≠ 0 then p else q) = r at *
  go_enter Tryz.func136, Tryz.ntmps136
  go_wp2_with fail
  refine wp_region_held_drew (S := (fun w' => w'.cell? ⟨w.heap.size, 0, none⟩ = some (.int .i64 i1) ∧ w'.cell? ⟨w.heap.size, 1, none⟩ = some (.int .i64 f1) ∧ w'.cell? ⟨w.heap.size + 1, 0, none⟩ = some (.int .i64 i2) ∧ w'.cell? ⟨w.heap.size + 1, 1, none⟩ = some (.int .i64 f2))) (by kernel_rfl) ?_ (fun hHeld => ?_)
  · (repeat' apply And.intro) <;> (repeat (first | with_reducible assumption | (refine newcell _ _ _ _ _ _ ?_ rfl; simp; done) | refine keepcell (by with_reducible assumption) ?_ | refine keepdrew ?_ | refine keepalloc ?_ _))
  refine wpAnyH_take (i := 0) (v := ?_) rfl (by kernel_rfl) (by kernel_rfl) (by kernel_rfl) (fun _ _ _ h => h) (Or.inl ⟨by rfl, ?_⟩) hHeld ?_
  rotate_left
  · intro w hSw; (try dsimp only at hSw); go_simp; try (with_reducible rfl)
  try simp only [sq]
  refine wpAnyH_take (i := 1) (v := ?_) rfl (by kernel_rfl) (by kernel_rfl) (by kernel_rfl) (fun _ _ _ h => h) (Or.inl ⟨by rfl, ?_⟩) hHeld ?_
  rotate_left
  · intro w hSw; (try dsimp only at hSw); go_simp; try (with_reducible rfl)
  try simp only [sq]
  refine wpAnyH_take (i := 2) (v := ?_) rfl (by kernel_rfl) (by kernel_rfl) (by kernel_rfl) (fun _ _ _ h => h) (Or.inl ⟨by rfl, ?_⟩) hHeld ?_
  rotate_left
  · intro w hSw; (try dsimp only at hSw); go_simp; try (with_reducible rfl)
  try simp only [sq]
  refine wpAnyH_take (i := 3) (v := ?_) rfl (by kernel_rfl) (by kernel_rfl) (by kernel_rfl) (fun _ _ _ h => h) (Or.inl ⟨by rfl, ?_⟩) hHeld ?_
  rotate_left
  · intro w hSw; (try dsimp only at hSw); go_simp; try (with_reducible rfl)
  try simp only [sq]
  refine wpAnyH_take (i := 5) (v := ?_) rfl (by kernel_rfl) (by kernel_rfl) (by kernel_rfl) (fun _ _ _ h => h) (Or.inl ⟨by rfl, ?_⟩) hHeld ?_
  rotate_left
  · intro w hSw; (try dsimp only at hSw); go_simp; try (with_reducible rfl)
  try simp only [sq]
  refine wpAnyH_take (i := 6) (v := ?_) rfl (by kernel_rfl) (by kernel_rfl) (by kernel_rfl) (fun _ _ _ h => h) (Or.inl ⟨by rfl, ?_⟩) hHeld ?_
  rotate_left
  · intro w hSw; (try dsimp only at hSw); go_simp; try (with_reducible rfl)
  try simp only [sq]
  refine wpAnyH_take (i := 7) (v := ?_) rfl (by kernel_rfl) (by kernel_rfl) (by kernel_rfl) (fun _ _ _ h => h) (Or.inl ⟨by rfl, ?_⟩) hHeld ?_
  rotate_left
  · intro w hSw; (try dsimp only at hSw); go_simp; try (with_reducible rfl)
  try simp only [sq]
  refine wpAnyH_take (i := 8) (v := ?_) rfl (by kernel_rfl) (by kernel_rfl) (by kernel_rfl) (fun _ _ _ h => h) (Or.inl ⟨by rfl, ?_⟩) hHeld ?_
  rotate_left
  · intro w hSw; (try dsimp only at hSw); go_simp; try (with_reducible rfl)
  try simp only [sq]
  refine wpAnyH_ready (rs := [4]) (by kernel_rfl) (by simp) ?_
  refine AllReadyH.cons rfl (fun K hK => ?_) AllReadyH.nil
  try simp only [sq]
  go_simp
  (first
      | (go_at_call 148; refine (C1.out _).mono ?_; rintro e z ⟨rfl, rfl⟩))
  go_wp2_with fail
  refine hK.out _ _ ?_ (fun hHeld => ?_)
  · (repeat' apply And.intro) <;> (repeat (first | with_reducible assumption | (refine newcell _ _ _ _ _ _ ?_ rfl; simp; done) | refine keepcell (by with_reducible assumption) ?_ | refine keepdrew ?_ | refine keepalloc ?_ _))
  clear hK K
  try simp only [sq]
  refine wpAnyH_ready (rs := [9]) (by kernel_rfl) (by simp) ?_
  refine AllReadyH.cons rfl (fun K hK => ?_) AllReadyH.nil
  try simp only [sq]
  go_simp
  (first
      | (go_at_call 148; refine (C2.out _).mono ?_; rintro e z ⟨rfl, rfl⟩))
  go_wp2_with fail
  refine hK.out _ _ ?_ (fun hHeld => ?_)
  · (repeat' apply And.intro) <;> (repeat (first | with_reducible assumption | (refine newcell _ _ _ _ _ _ ?_ rfl; simp; done) | refine keepcell (by with_reducible assumption) ?_ | refine keepdrew ?_ | refine keepalloc ?_ _))
  clear hK K
  try simp only [sq]
  refine wpAnyH_ready (rs := [10]) (by kernel_rfl) (by simp) ?_
  refine AllReadyH.cons rfl (fun K hK => ?_) AllReadyH.nil
  try simp only [sq]
  go_simp
  refine hK.out _ _ ?_ (fun hHeld => ?_)
  · (repeat' apply And.intro) <;> (repeat (first | with_reducible assumption | (refine newcell _ _ _ _ _ _ ?_ rfl; simp; done) | refine keepcell (by with_reducible assumption) ?_ | refine keepdrew ?_ | refine keepalloc ?_ _))
  clear hK K
  try simp only [sq]
  refine wpAnyH_ready (rs := [11]) (by kernel_rfl) (by simp) ?_
  refine AllReadyH.cons rfl (fun K hK => ?_) AllReadyH.nil
  try simp only [sq]
  go_simp
  (first
      | (go_at_call 147; refine (OR.out _ _ (keepdrew (newcell _ _ _ _ _ _ (by simp) rfl)) (keepdrew (newcell _ _ _ _ _ _ (by simp) rfl))).mono ?_; rintro e z ⟨rfl, rfl⟩))
  go_wp2_with fail
  refine hK.out _ _ ?_ (fun hHeld => ?_)
  · (repeat' apply And.intro) <;> (repeat (first | with_reducible assumption | (refine newcell _ _ _ _ _ _ ?_ rfl; simp; done) | refine keepcell (by with_reducible assumption) ?_ | refine keepdrew ?_ | refine keepalloc ?_ _))
  clear hK K
  try simp only [sq]
  refine wpAnyH_take (i := 12) (v := ?_) rfl (by kernel_rfl) (by kernel_rfl) (by kernel_rfl) (fun _ _ _ h => h) (Or.inl ⟨by rfl, ?_⟩) hHeld ?_
  rotate_left
  · intro w hSw; (try dsimp only at hSw); go_simp; try (with_reducible rfl)
  try simp only [sq]
  refine wpAnyH_done (by kernel_rfl) ?_ _
  go_wp2_with fail
  go_ret
  exact ⟨rfl, 1, _, grown3 _ _ _ _⟩
end Go.Proofs.YtkdoigibpaempaaGreatDoor
