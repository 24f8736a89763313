/- The specification's walk down a tree for what meets a box. -/
import Derived.Test.YtmdnelgnpponpaaFt
import Derived.Test.YtmdnelgnpponpaaCi
import Derived.Test.YtmdnelgnpponpaaFo
namespace Go.Proofs.Ytmdnelgnpponpaa
open Go.RowKit Go.Shelf
set_option linter.unusedSimpArgs false
set_option linter.unusedVariables false
theorem ins_perm (zs : List Int) (x : Int) (j : Nat) : (zs.take j ++ x :: zs.drop j).Perm (x :: zs) := by
  have := List.perm_middle (a := x) (l₁ := zs.take j) (l₂ := zs.drop j)
  rw [List.take_append_drop] at this
  exact this
theorem ins_sorted {zs : List Int} {x : Int} {j : Nat} (hs : zs.Pairwise (· ≤ ·)) (h1 : ∀ k, k < j → zs.getD k 0 < x) (h2 : j < zs.length → x ≤ zs.getD j 0) : (zs.take j ++ x :: zs.drop j).Pairwise (· ≤ ·) := by
  have hx : ∀ y ∈ zs.drop j, x ≤ y := by
    intro y hy
    obtain ⟨m, hm, rfl⟩ := List.mem_iff_getElem.1 hy
    simp only [List.length_drop] at hm
    have hj : j < zs.length := by omega
    have h3 := h2 hj
    rw [List.getD_eq_getElem?_getD, List.getElem?_eq_getElem hj] at h3
    simp only [Option.getD_some] at h3
    rw [List.getElem_drop]
    by_cases e : m = 0
    · subst e; simpa using h3
    · have := List.pairwise_iff_getElem.1 hs j (j + m) hj (by omega) (by omega)
      omega
  have hl : ∀ y ∈ zs.take j, y < x := by
    intro y hy
    obtain ⟨m, hm, rfl⟩ := List.mem_iff_getElem.1 hy
    simp only [List.length_take] at hm
    have := h1 m (by omega)
    rw [List.getD_eq_getElem?_getD, List.getElem?_eq_getElem (by omega)] at this
    simp only [Option.getD_some] at this
    rw [List.getElem_take]; exact this
  rw [List.pairwise_append]
  refine ⟨hs.sublist (List.take_sublist _ _), ?_, ?_⟩
  · rw [List.pairwise_cons]
    exact ⟨hx, hs.sublist (List.drop_sublist _ _)⟩
  · intro y hy z hz
    have a1 := hl y hy
    simp at hz
    rcases hz with rfl | hz
    · omega
    · have := hx z hz; omega
/-- A knot's items that meet a box; those of knots one behind the other. -/
def met (b : Bx) (s : KT) : List It := s.its.filter (fun x => btb x.2 b)
def fnd (b : Bx) (L : List KT) : List It := L.flatMap (met b)
def pw (b : Bx) (s : KT) : Bool := btb s.box b
/-- Sorted, and just these. -/
def SPx (zs ids : List Int) : Prop := zs.Pairwise (· ≤ ·) ∧ zs.Perm ids
theorem SPx.add {zs ids : List Int} {x : Int} {j : Nat} (h : SPx zs ids) (h1 : ∀ k, k < j → zs.getD k 0 < x) (h2 : j < zs.length → x ≤ zs.getD j 0) : SPx (zs.take j ++ x :: zs.drop j) (ids ++ [x]) := by
  refine ⟨ins_sorted h.1 h1 h2, (ins_perm zs x j).trans ?_⟩
  have := (List.perm_append_comm (l₁ := [x]) (l₂ := ids))
  exact ((h.2.cons x).trans this)
theorem SPx.srt {zs ids : List Int} (h : SPx zs ids) : zs = srt ids :=
  List.Perm.eq_of_pairwise (le := (· ≤ ·)) (fun a b _ _ h k => by omega) h.1 (srt_sorted ids) (h.2.trans (srt_perm ids).symm)
def prt (b : Bx) (d : Nat) (t : KT) (k : Nat) : List Int := (met b t ++ fnd b (((t.kids.take k).filter (pw b)).flatMap (kns (pw b) d))).map Prod.fst
theorem prt_zero (b : Bx) (d : Nat) (t : KT) : prt b d t 0 = (met b t).map Prod.fst := by
  unfold prt fnd; simp
theorem prt_next (b : Bx) (d : Nat) (t : KT) (k : Nat) (h : k < t.kids.length) : prt b d t (k + 1) = prt b d t k ++ (if pw b t.kids[k] = true then (fnd b (kns (pw b) d t.kids[k])).map Prod.fst else []) := by
  unfold prt fnd
  rw [List.take_add_one, List.getElem?_eq_getElem h, Option.toList_some, List.filter_append, List.flatMap_append, List.flatMap_append]
  by_cases hp : pw b t.kids[k] = true
  · rw [if_pos hp, List.filter_cons_of_pos hp]; simp
  · rw [if_neg hp, List.filter_cons_of_neg hp]; simp
theorem prt_all (b : Bx) (d : Nat) (t : KT) : prt b d t t.kids.length = (fnd b (kns (pw b) (d + 1) t)).map Prod.fst := by
  unfold prt fnd
  rw [List.take_length]
  show _ = (List.flatMap (met b) (t :: (t.kids.filter (pw b)).flatMap (kns (pw b) d))).map Prod.fst
  rw [List.flatMap_cons]
theorem prt_le (b : Bx) (d : Nat) (t : KT) (k : Nat) : (prt b d t k).length ≤ (prt b d t t.kids.length).length := by
  unfold prt fnd
  rw [List.take_length]
  conv => rhs; rw [← List.take_append_drop k t.kids]
  rw [List.filter_append, List.flatMap_append, List.flatMap_append]
  simp only [List.length_map, List.length_append]
  omega
theorem kof_le (p : KT → Bool) (d : Nat) (t : KT) (k : Nat) : kof p d t k ≤ kof p d t t.kids.length := by
  unfold kof
  rw [List.take_length]
  conv => rhs; rw [← List.take_append_drop k t.kids]
  rw [List.filter_append, List.flatMap_append]
  simp only [List.length_append]
  omega
theorem sum_filter_le (f g : KT → Nat) (p : KT → Bool) : ∀ l : List KT, (∀ x ∈ l, f x ≤ g x) → ((l.filter p).map f).sum ≤ (l.map g).sum
  | [], _ => Nat.le_refl _
  | x :: r, h => by
    have ih := sum_filter_le f g p r (fun y hy => h y (by simp [hy]))
    have h0 := h x (by simp)
    by_cases hp : p x = true
    · rw [List.filter_cons_of_pos hp]; simp only [List.map_cons, List.sum_cons]; omega
    · rw [List.filter_cons_of_neg hp]; simp only [List.map_cons, List.sum_cons]; omega
/-- How many knots are looked at, and items found, is bounded by the tree's size. -/
theorem kns_len (b : Bx) {lo : Nat} : ∀ (m n : Nat) {w : World} {ia ka : Option Addr} {t : KT}, Kn lo m w ia ka t → (kns (pw b) n t).length ≤ 1 + ksz m t ∧ (fnd b (kns (pw b) n t)).length ≤ ksz m t
  | 0, n, _, _, _, _, h => h.elim
  | m + 1, n, w, ia, ka, t, h => by
    obtain ⟨bi, bk, h1, h2, h3, h4, h5, h6, h7, h8⟩ := h
    have hm : (met b t).length ≤ t.its.length := List.length_filter_le _ _
    cases n with
    | zero =>
      refine ⟨by show 1 ≤ _; omega, ?_⟩
      show (List.flatMap (met b) [t]).length ≤ t.its.length + t.kids.length + (t.kids.map (ksz m)).sum
      simp; omega
    | succ n =>
      have hk : ∀ k ∈ t.kids, (kns (pw b) n k).length ≤ 1 + ksz m k ∧ (fnd b (kns (pw b) n k)).length ≤ ksz m k := by
        intro k hk
        obtain ⟨j, hj, rfl⟩ := List.getElem_of_mem hk
        obtain ⟨ia', ka', _, k2⟩ := h8 j hj
        exact kns_len b m n k2
      have e1 : ksz (m + 1) t = t.its.length + (t.kids.map (fun k => 1 + ksz m k)).sum := by
        show t.its.length + t.kids.length + (t.kids.map (ksz m)).sum = _
        have : ∀ l : List KT, (l.map (fun k => 1 + ksz m k)).sum = l.length + (l.map (ksz m)).sum := by
          intro l
          induction l with
          | nil => rfl
          | cons x r ih => simp only [List.map_cons, List.sum_cons, List.length_cons]; rw [ih]; omega
        rw [this]; omega
      have s1 := sum_filter_le (fun k => (kns (pw b) n k).length) (fun k => 1 + ksz m k) (pw b) t.kids (fun k hk' => (hk k hk').1)
      have s2 := sum_filter_le (fun k => (fnd b (kns (pw b) n k)).length) (fun k => 1 + ksz m k) (pw b) t.kids (fun k hk' => Nat.le_trans (hk k hk').2 (by omega))
      have l1 : (kns (pw b) (n + 1) t).length = 1 + ((t.kids.filter (pw b)).map (fun k => (kns (pw b) n k).length)).sum := by
        show (t :: (t.kids.filter (pw b)).flatMap (kns (pw b) n)).length = _
        rw [List.length_cons, List.length_flatMap]; omega
      have l2 : (fnd b (kns (pw b) (n + 1) t)).length = (met b t).length + ((t.kids.filter (pw b)).map (fun k => (fnd b (kns (pw b) n k)).length)).sum := by
        show (List.flatMap (met b) (t :: (t.kids.filter (pw b)).flatMap (kns (pw b) n))).length = _
        rw [List.flatMap_cons, List.length_append, List.flatMap_assoc, List.length_flatMap]
        rfl
      rw [l1, l2, e1]
      omega
/-- Whole numbers in a row that a call has made. -/
def OwI (w : World) (B g c : Nat) (zs : List Int) : Prop := w.ownsRow B 3 1 (.slice (some ⟨g, 0, none⟩) zs.length c) zs.length (fli zs)
theorem OwI.below {w w' : World} {B g c : Nat} {zs : List Int} (h : OwI w B g c zs) (H : Below w.heap.size w w') : OwI w' B g c zs :=
  World.ownsRow.kept h (row := none) ⟨H.os, H.tape, H.output, H.size, fun k hk _ => H.block k hk⟩ (.inr (by simp [Value.ownBlock]))
theorem OwI.base {w : World} {B B' g c : Nat} {zs : List Int} (h : OwI w B g c zs) (hB : B' ≤ B) : OwI w B' g c zs := own_mono h hB
theorem OwI.lt {w : World} {B g c : Nat} {zs : List Int} (h : OwI w B g c zs) : B ≤ g ∧ g < w.heap.size ∧ zs.length ≤ c := by
  obtain ⟨h1, h2, h3⟩ := own_I h rfl
  exact ⟨h1, h3.lt g 0 rfl, h2⟩
theorem OwI.own {w : World} {B g c : Nat} {zs : List Int} (h : OwI w B g c zs) : OwnI w (some ⟨g, 0, none⟩) zs := (own_I h rfl).2.2
theorem OwI.at {w : World} {B g c : Nat} {zs : List Int} (h : OwI w B g c zs) (i : Nat) (hi : i < zs.length) : w.cell? ⟨g, i, none⟩ = some (.int .i64 zs[i]) := by
  rcases h.own with ⟨e, _⟩ | ⟨b, e, _, h2, _⟩
  · cases e
  · cases e
    have := h2 i hi
    rw [Nat.zero_add, List.getD_eq_getElem?_getD, List.getElem?_eq_getElem hi] at this
    exact this
/-- One number more in a sorted list. -/
theorem add_sp (B g c : Nat) (zs ids : List Int) (x : Int) (w : World) (hm : zs.length ≤ 1099511627776) (h : OwI w B g c zs) (hs : SPx zs ids) : Calls Try.prog 62 #[.slice (some ⟨g, 0, none⟩) zs.length c, .int .i64 x] w fun e w' => ∃ g' c' zs', e = .returned (.slice (some ⟨g', 0, none⟩) zs'.length c') ∧ SPx zs' (ids ++ [x]) ∧ zs'.length = zs.length + 1 ∧ OwI w' w.heap.size g' c' zs' ∧ Below w.heap.size w w' := by
  refine (add_c B g zs.length c zs x w hm rfl h.lt.2.2 h.lt.2.1 h).mono ?_
  rintro e w' ⟨j, g', c', hj, h1, h2, rfl, ho, hb⟩
  have hl : (zs.take j ++ x :: zs.drop j).length = zs.length + 1 := by have := (ins_perm zs x j).length_eq; simpa using this
  refine ⟨g', c', zs.take j ++ x :: zs.drop j, by rw [hl], hs.add h1 h2, hl, ?_, hb⟩
  unfold OwI
  rw [hl]; exact ho
end Go.Proofs.Ytmdnelgnpponpaa
