/- Texts of stores, joined: RwA2, Vi, Vj. -/
import Derived.Test.YtfjmbbjcghopgaaGreatDoorJ19
import Derived.Test.YtfjmbbjcghopgaaGreatDoorJ31
import Derived.Test.YtfjmbbjcghopgaaGreatDoorJ35
import Derived.Test.YtfjmbbjcghopgaaGreatDoorJ42
import Derived.Test.YtfjmbbjcghopgaaGreatDoorJ16
import Derived.Lib.SliceRun
import Derived.Test.YtfjmbbjcghopgaaGreatDoorJ44
namespace Go.Proofs.YtfjmbbjcghopgaaGreatDoor
open Go.RowKit
set_option linter.unusedSimpArgs false
set_option linter.unusedVariables false
theorem shok_pos {k : Int} {ps : List (Int × Int)} (h : shok k ps = true) : 0 < ps.length := by
  unfold shok at h
  split at h
  · simp only [Bool.and_eq_true, decide_eq_true_eq] at h; omega
  split at h
  · simp only [lineb, Bool.and_eq_true, decide_eq_true_eq] at h; omega
  split at h
  · simp only [rectb, Bool.and_eq_true, decide_eq_true_eq] at h; omega
  split at h
  · simp only [ringOk, Bool.and_eq_true, decide_eq_true_eq] at h; omega
  · cases h
theorem rowsb_pos {now : Int} {rs : List Rw} (h : rowsb now rs = true) : ∀ m (h : m < rs.length), 0 < rs[m].2.2.2.2.length := by
  intro m hm
  unfold rowsb at h
  simp only [Bool.and_eq_true, List.all_eq_true] at h
  have := h.2.1 rs[m] (List.getElem_mem hm)
  unfold rowb at this
  simp only [Bool.and_eq_true] at this
  exact shok_pos this.2
end Go.Proofs.YtfjmbbjcghopgaaGreatDoor
namespace Go.Proofs.YtfjmbbjcghopgaaGreatDoor
open Go.RowKit
set_option linter.unusedSimpArgs false
set_option linter.unusedVariables false
/-- Ended by t. -/
def eend (t : Int) (x : El) : Bool := decide (x.2.2.1 ≠ 0) && decide (x.2.2.1 ≤ t)
theorem ended_1 (id fr te kd : Int) (a : Option Addr) (n cap : Nat) (t : Int) (p : Nat) (w : World) (c1 : w.cell? ⟨p, 0, none⟩ = some (.int .i64 t)) : Calls Tryz.prog 46 #[.agg #[.int .i64 id, .int .i64 fr, .int .i64 te, .int .i64 kd, .slice a n cap], .pointer (some ⟨p, 0, none⟩)] w fun e w' => e = .returned (.bool (decide (te ≠ 0) && decide (te ≤ t))) ∧ Below w.heap.size w w' := by
  have HE := hid (fun W => impl_ended (id, fr, te, kd, List.replicate n (0, 0)) a cap t W)
  unfold rwv at HE
  simp only [List.length_replicate] at HE
  have hB : Below w.heap.size w (w.alloc (.cells #[.int .i64 id, .int .i64 fr, .int .i64 te, .int .i64 kd, .slice a n cap] 54)) := balloc (Below.refl _ _) _
  have g0 := new_alloc w w.heap.size (.cells #[.int .i64 id, .int .i64 fr, .int .i64 te, .int .i64 kd, .slice a n cap] 54) rfl
  replace c1 := keepcell hB c1
  go_enter Tryz.func46, Tryz.ntmps46
  go_upto_region 1 with fail
  generalize w.alloc (.cells #[.int .i64 id, .int .i64 fr, .int .i64 te, .int .i64 kd, .slice a n cap] 54) = W at *
  obtain ⟨⟨x0, x1, x2, x3, x4⟩, _⟩ := cell5g g0
  go_wp2_with fail
  refine (HE.out _).mono ?_
  rintro e z ⟨rfl, hz⟩
  go_wp2_with fail
  go_ret
  exact ⟨by simp, btrans hB hz⟩
theorem fnd_yes {xs : List El} {q : El → Bool} {i : Nat} (hi : i < xs.length) (hb : ∀ m (h : m < xs.length), m < i → q xs[m] = false) (h : q xs[i] = true) : xs.findIdx q = i := by
  rw [List.findIdx_eq hi]
  exact ⟨h, fun j hj => by simp [hb j (by omega) hj]⟩
theorem fnd_no {xs : List El} {q : El → Bool} (hb : ∀ m (h : m < xs.length), q xs[m] = false) : xs.findIdx q = xs.length := by
  rw [List.findIdx_eq_length]
  intro x hx
  obtain ⟨m, hm, rfl⟩ := List.getElem_of_mem hx
  simp [hb m hm]
set_option maxRecDepth 100000 in
set_option maxHeartbeats 2000000 in
theorem index_ended (g cap : Nat) (xs : List El) (t : Int) (p : Nat) (w : World) (hm : xs.length ≤ 1099511627776) (hg : g < w.heap.size) (h : ElsAt w g 0 xs) (c1 : w.cell? ⟨p, 0, none⟩ = some (.int .i64 t)) : Calls Tryz.prog 59 #[.slice (some ⟨g, 0, none⟩) xs.length cap, .func (.func 46) #[] #[.pointer (some ⟨p, 0, none⟩)]] w fun e w' => e = .returned (.int .i64 (if xs.findIdx (eend t) < xs.length then (xs.findIdx (eend t) : Int) else -1)) ∧ Below w.heap.size w w' := by
  have HR := hid h
  have HC := hid c1
  clear h c1
  have HNO : Hid ((∀ m (h : m < xs.length), eend t xs[m] = false) → (if xs.findIdx (eend t) < xs.length then (xs.findIdx (eend t) : Int) else -1) = -1) := hid (fun hb => by rw [fnd_no hb]; simp)
  have HYE : Hid (∀ i (hi : i < xs.length), (∀ m (h : m < xs.length), m < i → eend t xs[m] = false) → eend t xs[i] = true → (if xs.findIdx (eend t) < xs.length then (xs.findIdx (eend t) : Int) else -1) = (i : Int)) := hid (fun i hi hb h => by rw [fnd_yes hi hb h, if_pos hi])
  generalize (if xs.findIdx (eend t) < xs.length then (xs.findIdx (eend t) : Int) else -1) = q at *
  obtain ⟨n, hn⟩ : ∃ n, n = xs.length := ⟨_, rfl⟩
  have HN := hid hn.symm
  rw [← hn] at hm ⊢
  clear hn
  go_enter Tryz.func59, Tryz.ntmps59
  go_wp2_with fail
  go_loopw [8] (fun ti wr => ∃ i : Nat, ti = .int .i64 i ∧ i ≤ n ∧ Hid (∀ m (h : m < xs.length), m < i → eend t xs[m] = false) ∧ Hid (Below w.heap.size w wr)) (fun ti _ => n - (intOf ti).toNat)
  case atStart => exact ⟨0, rfl, Nat.zero_le _, hid (fun m h hh => absurd hh (by omega)), hid (Below.refl _ _)⟩
  case round =>
    obtain ⟨i, rfl, hi, HA, HBW⟩ := hrel
    by_cases hlt : i < n
    · have d1 : (i : Int) < (n : Int) := by omega
      have hir : i < xs.length := by rw [HN.out]; exact hlt
      obtain ⟨k0, k1, k2, k3, k4⟩ := HR.out i hir
      replace k0 := keepcell HBW.out k0
      replace k1 := keepcell HBW.out k1
      replace k2 := keepcell HBW.out k2
      replace k3 := keepcell HBW.out k3
      replace k4 := keepcell HBW.out k4
      rw [Nat.zero_add] at k0 k1 k2 k3 k4
      have c1 := keepcell HBW.out HC.out
      have HY := hid (HYE.out i hir HA.out)
      have HX : Hid (eend t xs[i] = false → ∀ m (h : m < xs.length), m < i + 1 → eend t xs[m] = false) := hid (fun e m h hm => by
        by_cases e2 : m = i
        · subst e2; exact e
        · exact HA.out m h (by omega))
      have HQ : Hid (eend t xs[i] = (decide (xs[i].2.2.1 ≠ 0) && decide (xs[i].2.2.1 ≤ t))) := hid rfl
      generalize eend t xs[i] = eb at *
      generalize xs[i].2.2.2.2.2.2 = v6 at *
      generalize xs[i].2.2.2.2.2.1 = v5 at *
      generalize xs[i].2.2.2.2.1 = v4 at *
      generalize xs[i].2.2.2.1 = v3 at *
      generalize xs[i].2.2.1 = v2 at *
      generalize xs[i].2.1 = v1 at *
      generalize xs[i].1 = v0 at *
      have HE := hid (fun W c1 => ended_1 v0 v1 v2 v3 v4 v5 v6 t p W c1)
      rw [← HQ.out] at HE
      clear HQ
      go_wp2_with fail
      refine (HE.out _ c1).mono ?_
      rintro e z ⟨rfl, hz⟩
      have HBz := hid (btrans HBW.out hz)
      clear hz k0 k1 k2 k3 k4 c1
      cases eb
      · have HF := hid (HX.out rfl)
        go_wp2_with fail
        go_roundw
        case rel => exact ⟨i + 1, by go_num, by omega, HF, HBz⟩
        case measure => simp [intOf]; omega
      · have HF := hid (HY.out rfl)
        go_wp2_with fail
        go_ret
        exact ⟨by rw [HF.out]; rfl, HBz.out⟩
    · have d1 : (n : Int) ≤ (i : Int) := by omega
      have HF := hid (HNO.out (fun m h => HA.out m h (by have := HN.out; omega)))
      go_wp2_with fail
      go_ret
      exact ⟨by rw [HF.out]; rfl, HBW.out⟩
theorem own_frameV {w w' : World} {B : Nat} {e : TypeId} {sz : Nat} {v : Value} {n : Nat} {xs : List Value} (h : w.ownsRow B e sz v n xs) (hb : ∀ g, v.ownBlock = some g → w'.heap[g]? = w.heap[g]?) : w'.ownsRow B e sz v n xs := by
  refine ⟨h.1, ?_⟩
  rcases h.2 with q | ⟨g, c, cur, e1, q1, q2, q3⟩
  · exact .inl q
  · refine .inr ⟨g, c, cur, e1, q1, ?_, q3⟩
    rw [hb g (by rw [e1]; rfl)]; exact q2
/-- But for one block, nothing that was there is changed. -/
def But (g : Nat) (w w' : World) : Prop := w.heap.size ≤ w'.heap.size ∧ (∀ b, b < w.heap.size → b ≠ g → w'.heap[b]? = w.heap[b]?) ∧ (w'.os = w.os ∧ w'.tape = w.tape ∧ w'.output = w.output)
theorem But.below {g : Nat} {w y z : World} (h : But g w y) (H : Below y.heap.size y z) : But g w z :=
  ⟨Nat.le_trans h.1 H.size, fun b h1 h2 => (H.block b (Nat.lt_of_lt_of_le h1 h.1)).trans (h.2.1 b h1 h2), H.os.trans h.2.2.1, H.tape.trans h.2.2.2.1, H.output.trans h.2.2.2.2⟩
theorem But.set {g k : Nat} {w y : World} (h : But g w y) (u : Value) : But g w (y.setCell ⟨g, k, none⟩ u) :=
  ⟨by have := h.1; simpa using this, fun b h1 h2 => by rw [Below.heap_setCell _ _ _ _ (by dsimp only; omega)]; exact h.2.1 b h1 h2, h.2.2⟩
theorem But.sets {g : Nat} {w : World} : ∀ (vs : List Value) (k : Nat) (y : World), But g w y → But g w (y.setCells g k vs)
  | [], _, _, h => h
  | v :: r, k, y, h => But.sets r (k + 1) _ (h.set v)
theorem set5L {α : Type} (L : List α) (k : Nat) (a b c d e : α) (h : k + 5 ≤ L.length) : ((((L.set k a).set (k + 1) b).set (k + 2) c).set (k + 3) d).set (k + 4) e = L.take k ++ [a, b, c, d, e] ++ L.drop (k + 5) := by
  obtain ⟨A, o0, o1, o2, o3, o4, R, rfl, hA⟩ : ∃ A o0 o1 o2 o3 o4 R, L = A ++ o0 :: o1 :: o2 :: o3 :: o4 :: R ∧ A.length = k := by
    have e := (List.take_append_drop k L).symm
    have hl : (L.drop k).length = L.length - k := by simp
    match hd : L.drop k, hl with
    | [], hl => simp at hl; omega
    | [_], hl => simp at hl; omega
    | [_, _], hl => simp at hl; omega
    | [_, _, _], hl => simp at hl; omega
    | [_, _, _, _], hl => simp at hl; omega
    | o0 :: o1 :: o2 :: o3 :: o4 :: R, _ => exact ⟨L.take k, o0, o1, o2, o3, o4, R, by rw [← hd]; exact e, by simp; omega⟩
  subst hA
  simp [List.set_append, List.take_append, List.drop_append]
theorem flat5_take (xs : List El) : ∀ i, (flat5 xs).take (i * 5) = flat5 (xs.take i) := by
  induction xs with
  | nil => intro i; simp [flat5]
  | cons x r ih =>
    intro i
    cases i with
    | zero => simp [flat5]
    | succ i =>
      show ((ev x) ++ flat5 r).take _ = ev x ++ flat5 (r.take i)
      rw [List.take_append, List.take_of_length_le (by simp [ev]; omega), ← ih i]
      congr 2
      simp [ev]; omega
theorem flat5_drop (xs : List El) : ∀ i, (flat5 xs).drop (i * 5) = flat5 (xs.drop i) := by
  induction xs with
  | nil => intro i; simp [flat5]
  | cons x r ih =>
    intro i
    cases i with
    | zero => simp [flat5]
    | succ i =>
      show ((ev x) ++ flat5 r).drop _ = flat5 (r.drop i)
      rw [List.drop_append, List.drop_of_length_le (by simp [ev]; omega), ← ih i, List.nil_append]
      congr 1
      simp [ev]; omega
theorem flat5_set (xs : List El) (i : Nat) (x : El) (h : i < xs.length) : flat5 (xs.set i x) = (flat5 xs).take (i * 5) ++ ev x ++ (flat5 xs).drop (i * 5 + 5) := by
  rw [show i * 5 + 5 = (i + 1) * 5 by omega, flat5_take, flat5_drop, List.set_eq_take_append_cons_drop, if_pos h]
  simp [flat5]
theorem own_set5 {w : World} {base g c n i : Nat} {t : TypeId} {xs : List Value} (h : w.ownsRow base t 5 (.slice (some ⟨g, 0, none⟩) n c) n xs) (hi : i < n) (x0 x1 x2 x3 x4 : Value) : (((((w.setCell ⟨g, i * 5, none⟩ x0).setCell ⟨g, i * 5 + 1, none⟩ x1).setCell ⟨g, i * 5 + 2, none⟩ x2).setCell ⟨g, i * 5 + 3, none⟩ x3).setCell ⟨g, i * 5 + 4, none⟩ x4).ownsRow base t 5 (.slice (some ⟨g, 0, none⟩) n c) n (xs.take (i * 5) ++ [x0, x1, x2, x3, x4] ++ xs.drop (i * 5 + 5)) := by
  have hxl := h.1
  refine ⟨by simp; omega, ?_⟩
  rcases h.2 with ⟨q, _⟩ | ⟨g', c', cur, e, q1, q2, q3, q4, q5, q6⟩
  · cases q
  · cases e
    refine .inr ⟨g, c, _, rfl, q1, set_at (set_at (set_at (set_at (set_at q2)))), q3, q4, by simp; omega, ?_⟩
    have hcl : cur.toList.length = c * 5 := by simpa using q5
    have e1 : (((((cur.setIfInBounds (i * 5) x0).setIfInBounds (i * 5 + 1) x1).setIfInBounds (i * 5 + 2) x2).setIfInBounds (i * 5 + 3) x3).setIfInBounds (i * 5 + 4) x4).toList = cur.toList.take (i * 5) ++ [x0, x1, x2, x3, x4] ++ cur.toList.drop (i * 5 + 5) := by
      simp only [Array.toList_setIfInBounds]
      exact set5L _ _ _ _ _ _ _ (by omega)
    rw [e1]
    obtain ⟨r, hr⟩ : ∃ r, cur.toList = xs ++ r := ⟨cur.toList.drop (n * 5), by rw [← q6]; exact (List.take_append_drop _ _).symm⟩
    have f1 : cur.toList.take (i * 5) = xs.take (i * 5) := by rw [hr, List.take_append_of_le_length (by omega)]
    have f2 : cur.toList.drop (i * 5 + 5) = xs.drop (i * 5 + 5) ++ r := by rw [hr, List.drop_append_of_le_length (by omega)]
    rw [f1, f2, ← List.append_assoc, List.take_append_of_le_length (by simp; omega)]
    exact List.take_of_length_le (by simp; omega)
theorem own_cells5 {w : World} {base g c n : Nat} {t : TypeId} {xs : List Value} (h : w.ownsRow base t 5 (.slice (some ⟨g, 0, none⟩) n c) n xs) : ∀ k, k < c * 5 → (w.cell? ⟨g, k, none⟩).isSome = true ∧ w.frozen? ⟨g, k, none⟩ = false := by
  rcases h.2 with ⟨q, _⟩ | ⟨g', c', cur, e, q1, q2, q3, q4, q5, q6⟩
  · cases q
  · cases e
    intro k hk
    refine ⟨?_, by simp [World.frozen?, q2]⟩
    simp [World.cell?, q2, Array.getElem?_eq_getElem (show k < cur.size by omega)]
theorem own_els {w : World} {base g c n : Nat} {t : TypeId} {xs : List El} (h : w.ownsRow base t 5 (.slice (some ⟨g, 0, none⟩) n c) n (flat5 xs)) : ElsAt w g 0 xs := by
  intro j hj
  obtain ⟨h0, h1, h2, h3, h4⟩ := flat5_at xs j hj
  have hc := h.cells (g := g) rfl
  have hc : ∀ j u, (flat5 xs)[j]? = some u → w.cell? ⟨g, j, none⟩ = some u := fun j u e => by
    have := hc j u e
    have ha : (⟨g, 0, none⟩ : Addr).add j = ⟨g, j, none⟩ := by unfold Addr.add; split <;> simp_all
    rwa [ha] at this
  simp only [Nat.zero_add]
  exact ⟨hc _ _ h0, hc _ _ h1, hc _ _ h2, hc _ _ h3, hc _ _ h4⟩
theorem set_at' {w : World} {p : Nat} {cs : Array Value} {t : TypeId} {fr : Nat × Nat} : ∀ (vs : List Value) (k : Nat), w.heap[p]? = some (.cells cs t fr) → ∃ cs', (w.setCells p k vs).heap[p]? = some (.cells cs' t fr) ∧ cs'.size = cs.size ∧ cs'.toList.take k = cs.toList.take k := by
  intro vs
  induction vs generalizing w cs with
  | nil => intro k h; exact ⟨cs, h, rfl, rfl⟩
  | cons v r ih =>
    intro k h
    obtain ⟨cs', e1, e2, e3⟩ := ih (w := w.setCell ⟨p, k, none⟩ v) (cs := cs.setIfInBounds k v) (k + 1) (set_at h)
    refine ⟨cs', e1, by simpa using e2, ?_⟩
    have := congrArg (List.take k) e3
    rw [List.take_take, List.take_take, Nat.min_eq_left (by omega)] at this
    rw [this, Array.toList_setIfInBounds]
    apply List.ext_getElem?
    intro m
    rw [List.getElem?_take, List.getElem?_take, List.getElem?_set]
    by_cases hm : m < k
    · rw [if_pos hm, if_pos hm, if_neg (by omega)]
    · rw [if_neg hm, if_neg hm]
/-- What is left behind the end is put away. -/
theorem own_cut {w : World} {base g c n i : Nat} {t : TypeId} {ys : List El} (h : w.ownsRow base t 5 (.slice (some ⟨g, 0, none⟩) n c) n (flat5 ys)) (hy : ys.length = n) (hi : i ≤ n) (vs : List Value) : (w.setCells g (i * 5) vs).ownsRow base t 5 (.slice (some ⟨g, 0, none⟩) i c) i (flat5 (ys.take i)) := by
  refine ⟨by rw [flat5_len]; simp; omega, ?_⟩
  rcases h.2 with ⟨q, _⟩ | ⟨g', c', cur, e, q1, q2, q3, q4, q5, q6⟩
  · cases q
  · cases e
    obtain ⟨cs, e1, e2, e3⟩ := set_at' vs (i * 5) q2
    refine .inr ⟨g, c, cs, rfl, q1, e1, by omega, q4, by omega, ?_⟩
    rw [e3, ← flat5_take, ← q6, List.take_take, Nat.min_eq_left (by omega)]
theorem run_clear_rows (w : World) (base g c n i : Nat) (xs : List Value) (h : w.ownsRow base 54 5 (.slice (some ⟨g, 0, none⟩) n c) n xs) (hi : i < n) (cc : Nat) : ∃ vs, ∀ ty, (Builtin.clear_ #[22] ty #[.slice (some ⟨g, i * 5, none⟩) (n - i) cc]).run Tryz.prog w = .ok (.tuple #[]) (w.setCells g (i * 5) vs) := by
  obtain ⟨i0, hi0, hz0, hz1, hz2⟩ := info_parts Tryz.infoRw
  have hc := own_cells5 h
  have hnc : n ≤ c := by
    rcases h.2 with ⟨q, _⟩ | ⟨g', c', cur, e, q1, q2, q3, q4, q5, q6⟩
    · cases q
    · cases e; exact q3
  refine ⟨(Builtin.zeroCells #[.int .i64 0, .int .i64 0, .int .i64 0, .int .i64 0, .slice none 0 0] (n - i)).toList, fun ty => ?_⟩
  have hl : (Builtin.zeroCells #[.int .i64 0, .int .i64 0, .int .i64 0, .int .i64 0, .slice none 0 0] (n - i)).toList.length = (n - i) * 5 := by simp [Builtin.zeroCells]
  have h1 : ∀ v ∈ (Builtin.zeroCells #[.int .i64 0, .int .i64 0, .int .i64 0, .int .i64 0, .slice none 0 0] (n - i)).toList, v.oneCell' = true := by
    intro v hv
    simp [Builtin.zeroCells] at hv
    obtain ⟨k, hk, rfl⟩ := hv
    obtain e | e | e | e | e : k % 5 = 0 ∨ k % 5 = 1 ∨ k % 5 = 2 ∨ k % 5 = 3 ∨ k % 5 = 4 := by omega
    all_goals (rw [e]; rfl)
  have hst := run_storeCells_cells (P := Tryz.prog) g (i * 5) _ 0 w (fun j hj => by rw [hl] at hj; exact (hc _ (by omega)).1) (fun j hj => by rw [hl] at hj; exact (hc _ (by omega)).2) h1
  rw [Nat.add_zero] at hst
  have hzv : (zeroValue 54).run Tryz.prog w = .ok (.agg #[.int .i64 0, .int .i64 0, .int .i64 0, .int .i64 0, .slice none 0 0]) w := by
    have key : ∀ (P : Program) (i : TypeInfo) (z : Value), P.info? 54 = some i → i.zero = some z → (zeroValue 54).run P w = .ok z w := by intro P i z h1 h2; simp [zeroValue, typeInfo, h1, h2]
    exact key _ _ _ hi0 hz0
  obtain ⟨m, hm⟩ : ∃ m, n - i = m + 1 := ⟨n - i - 1, by omega⟩
  rw [hm] at hst ⊢
  simp [Builtin.clear_, run_underlying Tryz.underlying22, hzv, Value.cells, hst]
theorem keep_next {xs : List El} {q : El → Bool} {j : Nat} (h : j < xs.length) : (xs.take (j + 1)).filter q = if q xs[j] = true then (xs.take j).filter q ++ [xs[j]] else (xs.take j).filter q := by
  rw [List.take_succ_eq_append_getElem h, List.filter_append]
  by_cases e : q xs[j] = true
  · simp [e]
  · simp [e]
set_option maxRecDepth 100000 in
set_option maxHeartbeats 4000000 in
theorem del_ended (base g cap n : Nat) (xs : List El) (t : Int) (p : Nat) (w : World) (hn : xs.length = n) (hm : n ≤ 1099511627776) (h : w.ownsRow base 54 5 (.slice (some ⟨g, 0, none⟩) n cap) n (flat5 xs)) (hp : p ≠ g) (hpw : p < w.heap.size) (c1 : w.cell? ⟨p, 0, none⟩ = some (.int .i64 t)) : Calls Tryz.prog 45 #[.slice (some ⟨g, 0, none⟩) n cap, .func (.func 46) #[] #[.pointer (some ⟨p, 0, none⟩)]] w fun e w' => ∃ m, m = (xs.filter (fun x => !eend t x)).length ∧ e = .returned (.slice (some ⟨g, 0, none⟩) m cap) ∧ w'.ownsRow base 54 5 (.slice (some ⟨g, 0, none⟩) m cap) m (flat5 (xs.filter (fun x => !eend t x))) ∧ But g w w' := by
  have hgw : g < w.heap.size := (h.lt g rfl).2
  have hnc : n ≤ cap := by
    rcases h.2 with ⟨q, _⟩ | ⟨g', c', cur, e, q1, q2, q3, q4, q5, q6⟩
    · cases q
    · cases e; exact q3
  have HIX := hid (index_ended g cap xs t p w (by omega) hgw (own_els h) c1)
  rw [hn] at HIX
  have HO := hid h
  have HC := hid c1
  have HN := hid hn
  clear h c1
  have hle := List.findIdx_le_length (xs := xs) (p := eend t)
  have HNO : Hid (xs.findIdx (eend t) = n → xs.filter (fun x => !eend t x) = xs) := hid (fun e => by
    rw [← hn, List.findIdx_eq_length] at e
    exact List.filter_eq_self.2 (fun x hx => by simp [e x hx]))
  have HYE : Hid (xs.findIdx (eend t) < n → xs.take (xs.findIdx (eend t)) = (xs.take (xs.findIdx (eend t) + 1)).filter (fun x => !eend t x)) := hid (fun e => by
    rw [← hn] at e
    rw [keep_next e, if_neg (by simp [List.findIdx_getElem (p := eend t) (w := e)])]
    refine (List.filter_eq_self.2 (fun x hx => ?_)).symm
    obtain ⟨m, hm, rfl⟩ := List.getElem_of_mem hx
    have hm1 : m < xs.findIdx (eend t) := by simp at hm; omega
    have := List.not_of_lt_findIdx hm1
    simpa using this)
  rw [hn] at hle
  clear hn
  generalize xs.findIdx (eend t) = f at *
  go_enter Tryz.func45, Tryz.ntmps45
  go_wp2_with fail
  refine HIX.out.mono ?_
  rintro e z ⟨rfl, hz⟩
  clear HIX
  by_cases hf : f < n
  · rw [if_pos hf]
    have hf1 : ((f : Int) == -1) = false := by simp
    have HO1 := hid (own_frameV (w' := z) HO.out (fun k e => hz.block k (by simp [Value.ownBlock] at e; omega)))
    have HB1 : Hid (But g w z) := hid ⟨hz.size, fun b h1 _ => hz.block b h1, hz.os, hz.tape, hz.output⟩
    clear hz HO HNO
    have HS := hid (HYE.out hf)
    clear HYE
    go_wp2_with fail
    go_loopw [5, 6] (fun t5 t6 wr => ∃ i j : Nat, ∃ ys : List El, t5 = .int .i64 i ∧ t6 = .int .i64 j ∧ i < j ∧ j ≤ n ∧ ys.length = n ∧ Hid (ys.take i = (xs.take j).filter (fun x => !eend t x)) ∧ Hid (ys.drop j = xs.drop j) ∧ Hid (wr.ownsRow base 54 5 (.slice (some ⟨g, 0, none⟩) n cap) n (flat5 ys)) ∧ Hid (But g w wr)) (fun _ t6 _ => n - (intOf t6).toNat)
    case atStart => exact ⟨f, f + 1, xs, rfl, by go_num, by omega, by omega, HN.out, HS, hid rfl, HO1, HB1⟩
    case round =>
      clear HS HO1 HB1
      obtain ⟨i, j, ys, rfl, rfl, hij, hj, hyl, HT, HD, HO, HB⟩ := hrel
      by_cases hlt : j < n
      · have d1 : (j : Int) < (n : Int) := by omega
        have hjy : j < ys.length := by omega
        obtain ⟨k0, k1, k2, k3, k4⟩ := own_els HO.out j hjy
        rw [Nat.zero_add] at k0 k1 k2 k3 k4
        have hxj : xs[j]'(by rw [HN.out]; exact hlt) = ys[j] := by
          have e := HD.out
          rw [List.drop_eq_getElem_cons hjy, List.drop_eq_getElem_cons (l := xs) (by rw [HN.out]; exact hlt)] at e
          exact (List.cons.inj e).1.symm
        have HD2 : Hid (ys.drop (j + 1) = xs.drop (j + 1)) := hid (by
          have e := HD.out
          rw [List.drop_eq_getElem_cons hjy, List.drop_eq_getElem_cons (l := xs) (by rw [HN.out]; exact hlt)] at e
          exact (List.cons.inj e).2)
        have HK := hid (keep_next (xs := xs) (q := fun x => !eend t x) (j := j) (by rw [HN.out]; exact hlt))
        rw [hxj] at HK
        clear hxj HD
        have HQ : Hid (eend t ys[j] = (decide (ys[j].2.2.1 ≠ 0) && decide (ys[j].2.2.1 ≤ t))) := hid rfl
        have HX : Hid (∀ y, ys[j] = y → y = ys[j]) := hid (fun y e => e.symm)
        generalize ys[j] = y at *
        clear HX
        generalize eend t y = eb at *
        obtain ⟨v0, v1, v2, v3, v4, v5, v6⟩ := y
        simp only at k0 k1 k2 k3 k4 HQ
        have HE := hid (fun W c1 => ended_1 v0 v1 v2 v3 v4 v5 v6 t p W c1)
        rw [← HQ.out] at HE
        clear HQ
        have c1 : wr.cell? ⟨p, 0, none⟩ = some (.int .i64 t) := by rw [World.cell?_of_block (a := ⟨p, 0, none⟩) (HB.out.2.1 p hpw hp)]; exact HC.out
        have hgr : g < wr.heap.size := Nat.lt_of_lt_of_le hgw HB.out.1
        go_upto_region 8 with fail
        have hbx : Below wr.heap.size wr (wr.alloc (.cells #[.int .i64 v0, .int .i64 v1, .int .i64 v2, .int .i64 v3, .slice v4 v5 v6] 54)) := balloc (Below.refl _ _) _
        have gx := new_alloc wr wr.heap.size (.cells #[.int .i64 v0, .int .i64 v1, .int .i64 v2, .int .i64 v3, .slice v4 v5 v6] 54) rfl
        have hal : wr.heap.size ≠ g := by omega
        have HB2 := hid (HB.out.below hbx)
        have HO2 := hid (own_frameV (w' := wr.alloc (.cells #[.int .i64 v0, .int .i64 v1, .int .i64 v2, .int .i64 v3, .slice v4 v5 v6] 54)) HO.out (fun k e => hbx.block k (by simp [Value.ownBlock] at e; omega)))
        replace c1 := keepcell hbx c1
        have hgr2 : g < (wr.alloc (.cells #[.int .i64 v0, .int .i64 v1, .int .i64 v2, .int .i64 v3, .slice v4 v5 v6] 54)).heap.size := by simp; omega
        clear hbx HB HO k0 k1 k2 k3 k4
        generalize wr.alloc (.cells #[.int .i64 v0, .int .i64 v1, .int .i64 v2, .int .i64 v3, .slice v4 v5 v6] 54) = W at *
        generalize wr.heap.size = X at *
        obtain ⟨⟨x0, x1, x2, x3, x4⟩, _⟩ := cell5g gx
        cases eb
        · have HK2 : Hid ((xs.take (j + 1)).filter (fun x => !eend t x) = (xs.take j).filter (fun x => !eend t x) ++ [(v0, v1, v2, v3, v4, v5, v6)]) := hid (by rw [HK.out]; rfl)
          clear HK
          go_upto_region 9 with (refine (HE.out _ c1).mono ?_; rintro e z2 ⟨rfl, hz⟩)
          have HB3 := hid (HB2.out.below hz)
          have HO3 := hid (own_frameV (w' := z2) HO2.out (fun k e => hz.block k (by simp [Value.ownBlock] at e; omega)))
          replace gx := (hz.block X (by rcases Nat.lt_or_ge X W.heap.size with h' | h'; exact h'; simp [Array.getElem?_eq_none h'] at gx)).trans gx
          clear hz HB2 HO2 c1 x0 x1 x2 x3 x4 HE
          obtain ⟨⟨x0, x1, x2, x3, x4⟩, _⟩ := cell5g gx
          obtain ⟨⟨u0, k0⟩, ⟨u1, k1⟩, ⟨u2, k2⟩, ⟨u3, k3⟩, ⟨u4, k4⟩⟩ : (∃ u, z2.cell? ⟨g, i * 5, none⟩ = some u) ∧ (∃ u, z2.cell? ⟨g, i * 5 + 1, none⟩ = some u) ∧ (∃ u, z2.cell? ⟨g, i * 5 + 2, none⟩ = some u) ∧ (∃ u, z2.cell? ⟨g, i * 5 + 3, none⟩ = some u) ∧ (∃ u, z2.cell? ⟨g, i * 5 + 4, none⟩ = some u) := by
            have hh := own_cells5 HO3.out
            exact ⟨Option.isSome_iff_exists.1 (hh _ (by omega)).1, Option.isSome_iff_exists.1 (hh _ (by omega)).1, Option.isSome_iff_exists.1 (hh _ (by omega)).1, Option.isSome_iff_exists.1 (hh _ (by omega)).1, Option.isSome_iff_exists.1 (hh _ (by omega)).1⟩
          have f0 := (own_cells5 HO3.out (i * 5) (by omega)).2
          have f1 := (own_cells5 HO3.out (i * 5 + 1) (by omega)).2
          have f2 := (own_cells5 HO3.out (i * 5 + 2) (by omega)).2
          have f3 := (own_cells5 HO3.out (i * 5 + 3) (by omega)).2
          have f4 := (own_cells5 HO3.out (i * 5 + 4) (by omega)).2
          have e1 : (i : Int) < (n : Int) := by omega
          have HO4 := hid (own_set5 HO3.out (show i < n by omega) (.int .i64 v0) (.int .i64 v1) (.int .i64 v2) (.int .i64 v3) (.slice v4 v5 v6))
          have HB4 := hid (((((HB3.out.set (k := i * 5) (.int .i64 v0)).set (k := i * 5 + 1) (.int .i64 v1)).set (k := i * 5 + 2) (.int .i64 v2)).set (k := i * 5 + 3) (.int .i64 v3)).set (k := i * 5 + 4) (.slice v4 v5 v6))
          have HFS := hid (flat5_set ys i (v0, v1, v2, v3, v4, v5, v6) (by omega))
          rw [show ([.int .i64 v0, .int .i64 v1, .int .i64 v2, .int .i64 v3, .slice v4 v5 v6] : List Value) = ev (v0, v1, v2, v3, v4, v5, v6) from rfl, ← HFS.out] at HO4
          clear HFS HO3 HB3
          have HT2 : Hid ((ys.set i (v0, v1, v2, v3, v4, v5, v6)).take (i + 1) = (xs.take (j + 1)).filter (fun x => !eend t x)) := hid (by
            rw [HK2.out, ← HT.out, List.take_succ_eq_append_getElem (by simp; omega)]
            simp [List.take_set_of_le])
          have HD3 : Hid ((ys.set i (v0, v1, v2, v3, v4, v5, v6)).drop (j + 1) = xs.drop (j + 1)) := hid (by
            rw [← HD2.out, List.drop_set_of_lt (by omega)])
          have hsl : (ys.set i (v0, v1, v2, v3, v4, v5, v6)).length = n := by simp; exact hyl
          go_wp2_with fail
          go_roundw
          case rel => exact ⟨i + 1, j + 1, _, by go_num, by go_num, by omega, by omega, hsl, HT2, HD3, HO4, HB4⟩
          case measure => simp [intOf]; omega
        · have HK2 : Hid ((xs.take (j + 1)).filter (fun x => !eend t x) = (xs.take j).filter (fun x => !eend t x)) := hid (by rw [HK.out]; rfl)
          clear HK
          go_wp2_with fail
          refine (HE.out _ c1).mono ?_
          rintro e z2 ⟨rfl, hz⟩
          have HB3 := hid (HB2.out.below hz)
          have HO3 := hid (own_frameV (w' := z2) HO2.out (fun k e => hz.block k (by simp [Value.ownBlock] at e; omega)))
          have HT2 : Hid (ys.take i = (xs.take (j + 1)).filter (fun x => !eend t x)) := hid (by rw [HK2.out]; exact HT.out)
          clear hz HB2 HO2 c1 x0 x1 x2 x3 x4 HE
          go_wp2_with fail
          go_roundw
          case rel => exact ⟨i, j + 1, ys, by go_num, by go_num, by omega, by omega, hyl, HT2, HD2, HO3, HB3⟩
          case measure => simp [intOf]; omega
      · have d1 : (n : Int) ≤ (j : Int) := by omega
        have d2 : (i : Int) ≤ (cap : Int) := by omega
        have d3 : (i : Int) ≤ (n : Int) := by omega
        have hjn : j = n := by omega
        subst hjn
        have hnei : cap ≠ i := by omega
        obtain ⟨vs, hcl⟩ := run_clear_rows wr base g cap j i (flat5 ys) HO.out (by omega) (cap - i)
        have HOF := hid (own_cut (i := i) HO.out hyl (by omega) vs)
        have HBF := hid (But.sets (g := g) vs (i * 5) wr HB.out)
        rw [HT.out, List.take_of_length_le (l := xs) (by have := HN.out; omega)] at HOF
        have hil : Hid (i = (xs.filter (fun x => !eend t x)).length) := hid (by
          have := congrArg List.length HT.out
          rw [List.take_of_length_le (l := xs) (by have := HN.out; omega), List.length_take] at this
          omega)
        go_wp2_with fail
        go_ret
        exact ⟨i, hil.out, rfl, HOF.out, HBF.out⟩
  · rw [if_neg hf]
    have HF := hid (HNO.out (by omega))
    go_wp2_with fail
    go_ret
    rw [HF.out]
    exact ⟨_, HN.out.symm, rfl, own_frameV HO.out (fun k e => hz.block k (by simp [Value.ownBlock] at e; omega)), ⟨hz.size, fun b h1 _ => hz.block b h1, hz.os, hz.tape, hz.output⟩⟩
end Go.Proofs.YtfjmbbjcghopgaaGreatDoor
namespace Go.Proofs.YtfjmbbjcghopgaaGreatDoor
open Go.RowKit
set_option linter.unusedSimpArgs false
set_option linter.unusedVariables false
theorem flt_map (p : Rw → Bool) (q : El → Bool) : ∀ (rs : List Rw) (xs : List El), xs.length = rs.length → (∀ j (h : j < rs.length) (h2 : j < xs.length), q xs[j] = p rs[j]) → ∃ σ : Nat → Nat, (xs.filter q).length = (rs.filter p).length ∧ (∀ k (h : k < (rs.filter p).length), ∃ h2 : σ k < rs.length, (rs.filter p)[k] = rs[σ k] ∧ (xs.filter q)[k]? = xs[σ k]?) ∧ ∀ i j, i < j → j < (rs.filter p).length → σ i < σ j
  | [], xs, hl, _ => by
    have : xs = [] := List.length_eq_zero_iff.1 (by simpa using hl)
    subst this
    exact ⟨id, rfl, fun k h => by simp at h, fun i j _ h => by simp at h⟩
  | r :: rs, [], hl, _ => by simp at hl
  | r :: rs, x :: xs, hl, hq => by
    have h0 : q x = p r := hq 0 (by simp) (by simp)
    obtain ⟨σ, e1, e2, e3⟩ := flt_map p q rs xs (by simpa using hl) (fun j h h2 => hq (j + 1) (by simpa using h) (by simpa using h2))
    by_cases hp : p r = true
    · have hx : q x = true := by rw [h0]; exact hp
      rw [List.filter_cons_of_pos hp, List.filter_cons_of_pos hx]
      refine ⟨fun k => match k with | 0 => 0 | k + 1 => σ k + 1, by simp [e1], ?_, ?_⟩
      · intro k hk
        cases k with
        | zero => exact ⟨by simp, by simp, by simp⟩
        | succ k =>
          obtain ⟨h2, a1, a2⟩ := e2 k (by simpa using hk)
          exact ⟨by simpa using h2, by simpa using a1, by simpa using a2⟩
      · intro i j hij hj
        cases j with
        | zero => omega
        | succ j =>
          cases i with
          | zero => simp
          | succ i => have := e3 i j (by omega) (by simpa using hj); simp only; omega
    · have hx : ¬ q x = true := by rw [h0]; exact hp
      rw [List.filter_cons_of_neg hp, List.filter_cons_of_neg hx]
      refine ⟨fun k => σ k + 1, e1, ?_, fun i j hij hj => by have := e3 i j hij hj; simp only; omega⟩
      intro k hk
      obtain ⟨h2, a1, a2⟩ := e2 k hk
      exact ⟨by simpa using h2, by simpa using a1, by simpa using a2⟩
theorem RowsX.flt {base hi : Nat} {w w' : World} {g cap : Nat} {rs : List Rw} {xs : List El} {t : Int} (h : RowsX base hi w (.slice (some ⟨g, 0, none⟩) rs.length cap) rs xs) (ho : w'.ownsRow base 54 5 (.slice (some ⟨g, 0, none⟩) (xs.filter (fun x => !eend t x)).length cap) (xs.filter (fun x => !eend t x)).length (flat5 (xs.filter (fun x => !eend t x)))) (hb : But g w w') : RowsX base hi w' (.slice (some ⟨g, 0, none⟩) (rs.filter (vkeep t)).length cap) (rs.filter (vkeep t)) (xs.filter (fun x => !eend t x)) := by
  obtain ⟨h1, h2, h3, h4, c, cp, h5, h6⟩ := h
  obtain ⟨σ, e1, e2, e3⟩ := flt_map (vkeep t) (fun x => !eend t x) rs xs h1 (fun j hj h2 => by
    have := (h5 j hj).1
    rw [List.getElem?_eq_getElem h2] at this
    rw [Option.some.inj this]; rfl)
  rw [e1] at ho
  refine ⟨e1, ho, h3, Nat.le_trans h4 hb.1, fun k => c (σ k), fun k => cp (σ k), fun k hk => ?_, fun i j hij hj => ?_⟩
  · obtain ⟨s1, s2, s3⟩ := e2 k hk
    obtain ⟨a1, a2, a3, a4, a5, a6, a7⟩ := h5 (σ k) s1
    rw [s2]
    refine ⟨s3.trans a1, a2, a3, a4, a5, a6, ?_⟩
    have hcw : c (σ k) < w.heap.size := Nat.lt_of_lt_of_le a5 h4
    have hcg : c (σ k) ≠ g := fun e => a6 (by rw [e]; rfl)
    exact own_blk a7 (hb.2.1 _ hcw hcg) (Nat.lt_of_lt_of_le hcw hb.1)
  · obtain ⟨s1, _⟩ := e2 j hj
    exact h6 _ _ (e3 i j hij hj) s1
set_option maxRecDepth 100000 in
set_option maxHeartbeats 2000000 in
theorem index_nil (a : Option Addr) (cap : Nat) (fv : Value) (w : World) : Calls Tryz.prog 59 #[.slice a 0 cap, fv] w fun e w' => e = .returned (.int .i64 (-1)) ∧ w' = w := by
  go_enter Tryz.func59, Tryz.ntmps59
  go_wp2_with fail
  go_loopw [8] (fun ti wr => ti = .int .i64 0 ∧ wr = w) (fun ti _ => 0)
  case atStart => exact ⟨rfl, rfl⟩
  case round =>
    obtain ⟨rfl, rfl⟩ := hrel
    go_wp2_with fail
    go_ret
    exact ⟨rfl, rfl⟩
set_option maxRecDepth 100000 in
set_option maxHeartbeats 2000000 in
theorem del_nil (a : Option Addr) (cap : Nat) (fv : Value) (w : World) : Calls Tryz.prog 45 #[.slice a 0 cap, fv] w fun e w' => e = .returned (.slice a 0 cap) ∧ w' = w := by
  go_enter Tryz.func45, Tryz.ntmps45
  go_wp2_with fail
  refine (index_nil a cap fv w).mono ?_
  rintro e z ⟨rfl, rfl⟩
  go_wp2_with fail
  go_ret
  exact ⟨rfl, rfl⟩
theorem cell_of {w : World} {p : Nat} {v : Value} {t : TypeId} (h : w.heap[p]? = some (.cells #[v] t (0, 0))) : w.cell? ⟨p, 0, none⟩ = some v := by simp [World.cell?, h]
end Go.Proofs.YtfjmbbjcghopgaaGreatDoor
