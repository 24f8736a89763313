/- Lists of whole numbers that a call has made: sorted, and without what comes twice. -/
import Derived.Test.YtmdnelgnpponpaaRwH
import Derived.Test.YtmdnelgnpponpaaShelfI
import Derived.Test.YtmdnelgnpponpaaShelfC
namespace Go.Proofs.Ytmdnelgnpponpaa
open Go.RowKit
set_option linter.unusedSimpArgs false
set_option linter.unusedVariables false
def srt (zs : List Int) : List Int := zs.mergeSort (fun x y => decide (x ≤ y))
theorem srt_len (zs : List Int) : (srt zs).length = zs.length := (List.mergeSort_perm zs _).length_eq
/-- A list of whole numbers that the call has made. -/
def IRow (B : Nat) (w : World) (v : Value) (zs : List Int) : Prop := ∃ g cap, v = .slice (some ⟨g, 0, none⟩) zs.length cap ∧ g < w.heap.size ∧ zs.length ≤ cap ∧ w.ownsRow B 3 1 (.slice (some ⟨g, 0, none⟩) zs.length cap) zs.length (fli zs)
theorem own_mono {B B' : Nat} {w : World} {e : TypeId} {sz : Nat} {v : Value} {n : Nat} {xs : List Value} (h : w.ownsRow B e sz v n xs) (hb : B' ≤ B) : w.ownsRow B' e sz v n xs := by
  refine ⟨h.1, ?_⟩
  rcases h.2 with q | ⟨g, c, cur, e1, q1, q2, q3⟩
  · exact .inl q
  · exact .inr ⟨g, c, cur, e1, by omega, q2, q3⟩
theorem irow_of {B g cap n : Nat} {w : World} {zs : List Int} (h : w.ownsRow B 3 1 (.slice (some ⟨g, 0, none⟩) n cap) n (fli zs)) (hn : zs.length = n) : IRow B w (.slice (some ⟨g, 0, none⟩) n cap) zs := by
  subst hn
  obtain ⟨h1, h2, h3⟩ := own_I h rfl
  exact ⟨g, cap, rfl, h3.lt g 0 rfl, h2, h⟩
theorem IRow.below {B : Nat} {w w' : World} {v : Value} {zs : List Int} (h : IRow B w v zs) (H : Below w.heap.size w w') : IRow B w' v zs := by
  obtain ⟨g, cap, rfl, h1, h2, h3⟩ := h
  refine ⟨g, cap, rfl, Nat.lt_of_lt_of_le h1 H.size, h2, h3.1, ?_⟩
  rcases h3.2 with ⟨q, _⟩ | ⟨g', c', cur, e, q1, q2, q3⟩
  · cases q
  · cases e
    exact .inr ⟨g, cap, cur, rfl, q1, by rw [H.block g h1]; exact q2, q3⟩
theorem make_ints (n : Nat) (hn : n ≤ 1099511627776) (w : World) : (Instr.makeSlice 42 (.int .i64 0) (.int .i64 n)).run Try.prog w = .ok (.slice (some ⟨w.heap.size, 0, none⟩) 0 n) (w.alloc (.cells (madeCells #[.int .i64 0] n) 3)) := by
  obtain ⟨i0, hi, hz0, hz1, hz2⟩ := info_parts Try.infoI
  have := run_make (P := Try.prog) w 42 3 i0 _ Try.underlying42 hi hz0 .i64 .i64 0 n (by omega) (by omega) (by rw [hz2]; omega) (by omega)
  rw [hz1, Nat.mul_one] at this
  exact this
theorem sort_ids (B g c : Nat) (zs : List Int) (w : World) (hm : zs.length ≤ 1099511627776) (hgl : g < w.heap.size) (h : w.ownsRow B 3 1 (.slice (some ⟨g, 0, none⟩) zs.length c) zs.length (fli zs)) : Calls Try.prog 68 #[.slice (some ⟨g, 0, none⟩) zs.length c] w fun e w' => e = .returned (.tuple #[]) ∧ OwnI w' (some ⟨g, 0, none⟩) (srt zs) ∧ w.grownBy w' (some g) := by
  obtain ⟨_, _, hI⟩ := own_I h rfl
  obtain ⟨b, e, h1, h2, h3⟩ : ∃ b, some (⟨g, 0, none⟩ : Addr) = some ⟨b, 0, none⟩ ∧ b < w.heap.size ∧ IAt w b 0 zs ∧ w.there b 0 zs.length := by
    rcases hI with ⟨q, _⟩ | h
    · cases q
    · exact h
  cases e
  have hH : Go.Sort.Holds (Value.int .i64) w g 0 zs.toArray := by
    intro j hj
    simp at hj
    refine ⟨?_, ?_⟩
    · have := h2 j hj
      rw [this]
      simp [List.getD_eq_getElem?_getD, List.getElem?_eq_getElem hj, getElem!_pos, hj]
    · exact (h3 j hj).2
  have hc := AnyM.slices_Sort_int Try.sortInt g 0 c zs w hH hgl (by omega)
  change Calls Try.prog 68 _ _ _ at hc
  refine hc.mono ?_
  rintro e w' ⟨rfl, q, os, rfl⟩
  have hl : (srt zs).toArray.size = zs.toArray.size := by simp [srt_len]
  have hK := Go.Sort.holds_grow (Value.int .i64) _ os g 0 _ (by simpa [Go.Sort.putRow, Go.Sort.mapBlock, Go.Sort.ahead] using hgl) (Go.Sort.holds_putRow (Value.int .i64) (Go.Sort.ahead w q) g 0 zs.toArray (srt zs).toArray (Go.Sort.holds_ahead _ w q g 0 _ hH) hl)
  have hgr : w.grownBy (Go.Sort.grow (Go.Sort.putRow (Value.int .i64) (Go.Sort.ahead w q) g 0 (srt zs).toArray) os) (some g) := by
    refine ⟨rfl, rfl, rfl, by simp [Go.Sort.putRow, Go.Sort.mapBlock, Go.Sort.ahead, Go.Sort.grow], fun k hk hne => ?_⟩
    rw [Go.Sort.heap_grow_old _ _ (by simpa [Go.Sort.putRow, Go.Sort.mapBlock, Go.Sort.ahead] using hk)]
    have : g ≠ k := fun e => hne (by rw [e])
    simp [Go.Sort.putRow, Go.Sort.mapBlock, Go.Sort.ahead, Array.getElem?_modify, this]
  refine ⟨rfl, .inr ⟨g, rfl, Nat.lt_of_lt_of_le hgl hgr.size, fun k hk => ?_, fun j hj => ?_⟩, hgr⟩
  · have := (hK k (by simpa using hk)).1
    rw [show (zs.mergeSort fun x y => decide (x ≤ y)) = srt zs from rfl]
    rw [this]
    simp [List.getD_eq_getElem?_getD, List.getElem?_eq_getElem hk, getElem!_pos, hk]
  · obtain ⟨q1, q2⟩ := hK j (by simpa using hj)
    exact ⟨by rw [show (zs.mergeSort fun x y => decide (x ≤ y)) = srt zs from rfl, q1]; rfl, q2⟩
theorem keeps_len {zs : List Int} : (Go.Lib.compact zs).length = zs.length ↔ ∀ j, j < zs.length → (j = 0 ∨ zs.getD j 0 ≠ zs.getD (j - 1) 0) := by
  unfold Go.Lib.compact Go.Lib.compactUpTo
  rw [List.length_map]
  have hg : ∀ j, j < zs.length → zs.toArray[j]! = zs.getD j 0 := fun j hj => by simp [List.getD_eq_getElem?_getD, List.getElem?_eq_getElem hj, getElem!_pos, hj]
  constructor
  · intro h j hj
    have h2 : ((List.range zs.length).filter (Go.Lib.keeps zs.toArray)).length = (List.range zs.length).length := by rw [h, List.length_range]
    have h3 := List.length_filter_eq_length_iff.1 h2 j (List.mem_range.2 hj)
    unfold Go.Lib.keeps at h3
    rw [decide_eq_true_eq, hg j hj, hg (j - 1) (by omega)] at h3
    exact h3
  · intro h
    have h2 : ∀ j ∈ List.range zs.length, Go.Lib.keeps zs.toArray j = true := fun j hj => by
      have hj' := List.mem_range.1 hj
      unfold Go.Lib.keeps
      rw [decide_eq_true_eq, hg j hj', hg (j - 1) (by omega)]
      exact h j hj'
    have := List.length_filter_eq_length_iff.2 h2
    rw [this, List.length_range]
theorem compact_nodup {zs : List Int} (hs : zs.Pairwise (· ≤ ·)) : (Go.Lib.compact zs).length = zs.length ↔ zs.Nodup := by
  rw [keeps_len]
  have hg : ∀ j (h : j < zs.length), zs.getD j 0 = zs[j] := fun j hj => by simp [List.getD_eq_getElem?_getD, List.getElem?_eq_getElem hj]
  constructor
  · intro h
    rw [List.Nodup, List.pairwise_iff_getElem]
    intro i j hi hj hij
    have h1 : ∀ k, i + k < zs.length → 0 < k → zs[i] < zs.getD (i + k) 0 := by
      intro k
      induction k with
      | zero => intro _ q; omega
      | succ k ih =>
        intro hk _
        have h2 := h (i + (k + 1)) hk
        have h3 : zs.getD (i + (k + 1)) 0 ≠ zs.getD (i + k) 0 := by rcases h2 with h2 | h2; omega; exact h2
        have h4 : zs[i + k]'(by omega) ≤ zs[i + (k + 1)]'hk := by
          have := List.pairwise_iff_getElem.1 hs (i + k) (i + (k + 1)) (by omega) hk (by omega)
          exact this
        rw [hg _ hk]
        rw [hg _ hk, hg (i + k) (by omega)] at h3
        by_cases e : k = 0
        · subst e; simp at h3 h4 ⊢; omega
        · have := ih (by omega) (by omega)
          rw [hg (i + k) (by omega)] at this
          omega
    have := h1 (j - i) (by omega) (by omega)
    rw [hg _ (by omega)] at this
    simp only [show i + (j - i) = j by omega] at this
    omega
  · intro h j hj
    by_cases e : j = 0
    · exact .inl e
    · right
      rw [hg j hj, hg (j - 1) (by omega)]
      have := List.pairwise_iff_getElem.1 h (j - 1) j (by omega) hj (by omega)
      exact fun q => this q.symm
theorem srt_sorted (zs : List Int) : (srt zs).Pairwise (· ≤ ·) := by
  have := List.pairwise_mergeSort (le := fun x y : Int => decide (x ≤ y)) (fun a b c => by simp; omega) (fun a b => by simp; omega) zs
  exact this.imp (fun h => by simpa using h)
theorem srt_perm (zs : List Int) : (srt zs).Perm zs := List.mergeSort_perm zs _
theorem compact_srt (zs : List Int) : (Go.Lib.compact (srt zs)).length = zs.length ↔ zs.Nodup := by
  rw [show zs.length = (srt zs).length from (srt_perm zs).length_eq.symm, compact_nodup (srt_sorted zs)]
  exact (srt_perm zs).nodup_iff
theorem compact_c (g c : Nat) (zs : List Int) (w : World) (hm : zs.length ≤ 1099511627776) (hc : zs.length ≤ c) (h : OwnI w (some ⟨g, 0, none⟩) zs) : Calls Try.prog 56 #[.slice (some ⟨g, 0, none⟩) zs.length c] w fun e w' => e = .returned (.slice (some ⟨g, 0, none⟩) (Go.Lib.compact zs).length c) ∧ w.grownBy w' (some g) := by
  obtain ⟨b, e, h1, h2, h3⟩ : ∃ b, some (⟨g, 0, none⟩ : Addr) = some ⟨b, 0, none⟩ ∧ b < w.heap.size ∧ IAt w b 0 zs ∧ w.there b 0 zs.length := by
    rcases h with ⟨q, _⟩ | h
    · cases q
    · exact h
  cases e
  have hH : Go.Sort.Holds (Value.int .i64) w g 0 zs.toArray := by
    intro j hj
    simp at hj
    refine ⟨?_, ?_⟩
    · have := h2 j hj
      rw [this]
      simp [List.getD_eq_getElem?_getD, List.getElem?_eq_getElem hj, getElem!_pos, hj]
    · exact (h3 j hj).2
  have hcc := Any.slices_Compact_int Try.laysNm220 g 0 c zs w hH (by omega) hc
  change Calls Try.prog 56 _ _ _ at hcc
  refine hcc.mono ?_
  rintro e w' ⟨rfl, q, rfl⟩
  refine ⟨rfl, ⟨rfl, rfl, rfl, by simp [Go.Sort.putRow, Go.Sort.mapBlock, Go.Sort.ahead], fun k hk hne => ?_⟩⟩
  have : g ≠ k := fun e => hne (by rw [e])
  simp [Go.Sort.putRow, Go.Sort.mapBlock, Go.Sort.ahead, Array.getElem?_modify, this]
theorem keepheapO {w w' : World} (hb : Below w.heap.size w w') {b : Nat} {o : Obj} (h : w.heap[b]? = some o) : w'.heap[b]? = some o := (hb.block b (by by_cases q : b < w.heap.size; exact q; rw [Array.getElem?_eq_none (by omega)] at h; cases h)).trans h
theorem compact_le (zs : List Int) : (Go.Lib.compact zs).length ≤ zs.length := by
  unfold Go.Lib.compact Go.Lib.compactUpTo
  rw [List.length_map]
  exact Nat.le_trans (List.length_filter_le _ _) (by rw [List.length_range]; exact Nat.le_refl _)
end Go.Proofs.Ytmdnelgnpponpaa
