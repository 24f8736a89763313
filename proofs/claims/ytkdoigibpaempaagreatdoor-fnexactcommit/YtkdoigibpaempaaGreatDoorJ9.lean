/- Texts of stores, joined: Ci, Mark, RwK. -/
import Derived.Test.YtkdoigibpaempaaGreatDoorJ8
import Derived.Test.YtkdoigibpaempaaGreatDoorShelfI
import Derived.Test.YtkdoigibpaempaaGreatDoorShelfC
import Derived.Test.YtkdoigibpaempaaGreatDoorJ6
import Derived.Test.YtkdoigibpaempaaGreatDoorJ7
set_option linter.unusedSimpArgs false
set_option linter.unusedVariables false
namespace Go.Proofs.YtkdoigibpaempaaGreatDoor
open Go.RowKit
def srt (zs : List Int) : List Int := zs.mergeSort (fun x y => decide (x ≤ y))
theorem srt_len (zs : List Int) : (srt zs).length = zs.length := (List.mergeSort_perm zs _).length_eq
def IRow (B : Nat) (w : World) (v : Value) (zs : List Int) : Prop := ∃ g cap, v = .slice (some ⟨g, 0, none⟩) zs.length cap ∧ g < w.heap.size ∧ zs.length ≤ cap ∧ w.ownsRow B 3 1 (.slice (some ⟨g, 0, none⟩) zs.length cap) zs.length (fli zs)
theorem irow_of {B g cap n : Nat} {w : World} {zs : List Int} (h : w.ownsRow B 3 1 (.slice (some ⟨g, 0, none⟩) n cap) n (fli zs)) (hn : zs.length = n) : IRow B w (.slice (some ⟨g, 0, none⟩) n cap) zs := by
  subst hn
  obtain ⟨h1, h2, h3⟩ := own_I h rfl
  exact ⟨g, cap, rfl, h3.lt g 0 rfl, h2, h⟩
theorem IRow.below {B : Nat} {w w' : World} {v : Value} {zs : List Int} (h : IRow B w v zs) (H : Below w.heap.size w w') : IRow B w' v zs := by
  obtain ⟨g, cap, rfl, h1, h2, h3⟩ := h
  refine ⟨g, cap, rfl, Nat.lt_of_lt_of_le h1 H.size, h2, h3.1, ?_⟩
  rcases h3.2 with ⟨q, _⟩ | ⟨g', c', cur, e, q1, q2, q3⟩
  · cases q
  · cases e
    exact .inr ⟨g, cap, cur, rfl, q1, by rw [H.block g h1]; exact q2, q3⟩
theorem make_ints (n : Nat) (hn : n ≤ 1099511627776) (w : World) : (Instr.makeSlice 190 (.int .i64 0) (.int .i64 n)).run Tryz.prog w = .ok (.slice (some ⟨w.heap.size, 0, none⟩) 0 n) (w.alloc (.cells (madeCells #[.int .i64 0] n) 3)) := by
  obtain ⟨i0, hi, hz0, hz1, hz2⟩ := info_parts Tryz.infoI
  have := run_make (P := Tryz.prog) w 190 3 i0 _ Tryz.underlying190 hi hz0 .i64 .i64 0 n (by omega) (by omega) (by rw [hz2]; omega) (by omega)
  rw [hz1, Nat.mul_one] at this
  exact this
theorem sort_ids (B g c : Nat) (zs : List Int) (w : World) (hm : zs.length ≤ 1099511627776) (hgl : g < w.heap.size) (h : w.ownsRow B 3 1 (.slice (some ⟨g, 0, none⟩) zs.length c) zs.length (fli zs)) : Calls Tryz.prog 122 #[.slice (some ⟨g, 0, none⟩) zs.length c] w fun e w' => e = .returned (.tuple #[]) ∧ OwnI w' (some ⟨g, 0, none⟩) (srt zs) ∧ w.grownBy w' (some g) := by
  obtain ⟨_, _, hI⟩ := own_I h rfl
  obtain ⟨b, e, h1, h2, h3⟩ : ∃ b, some (⟨g, 0, none⟩ : Addr) = some ⟨b, 0, none⟩ ∧ b < w.heap.size ∧ IAt w b 0 zs ∧ w.there b 0 zs.length := by
    rcases hI with ⟨q, _⟩ | h
    · cases q
    · exact h
  cases e
  have hH : Go.Sort.Holds (Value.int .i64) w g 0 zs.toArray := by
    intro j hj
    simp at hj
    refine ⟨?_, ?_⟩
    · have := h2 j hj
      rw [this]
      simp [List.getD_eq_getElem?_getD, List.getElem?_eq_getElem hj, getElem!_pos, hj]
    · exact (h3 j hj).2
  have hc := AnyM.slices_Sort_int Tryz.sortInt g 0 c zs w hH hgl (by omega)
  change Calls Tryz.prog 122 _ _ _ at hc
  refine hc.mono ?_
  rintro e w' ⟨rfl, q, os, rfl⟩
  have hl : (srt zs).toArray.size = zs.toArray.size := by simp [srt_len]
  have hK := Go.Sort.holds_grow (Value.int .i64) _ os g 0 _ (by simpa [Go.Sort.putRow, Go.Sort.mapBlock, Go.Sort.ahead] using hgl) (Go.Sort.holds_putRow (Value.int .i64) (Go.Sort.ahead w q) g 0 zs.toArray (srt zs).toArray (Go.Sort.holds_ahead _ w q g 0 _ hH) hl)
  have hgr : w.grownBy (Go.Sort.grow (Go.Sort.putRow (Value.int .i64) (Go.Sort.ahead w q) g 0 (srt zs).toArray) os) (some g) := by
    refine ⟨rfl, rfl, rfl, by simp [Go.Sort.putRow, Go.Sort.mapBlock, Go.Sort.ahead, Go.Sort.grow], fun k hk hne => ?_⟩
    rw [Go.Sort.heap_grow_old _ _ (by simpa [Go.Sort.putRow, Go.Sort.mapBlock, Go.Sort.ahead] using hk)]
    have : g ≠ k := fun e => hne (by rw [e])
    simp [Go.Sort.putRow, Go.Sort.mapBlock, Go.Sort.ahead, Array.getElem?_modify, this]
  refine ⟨rfl, .inr ⟨g, rfl, Nat.lt_of_lt_of_le hgl hgr.size, fun k hk => ?_, fun j hj => ?_⟩, hgr⟩
  · have := (hK k (by simpa using hk)).1
    rw [show (zs.mergeSort fun x y => decide (x ≤ y)) = srt zs from rfl]
    rw [this]
    simp [List.getD_eq_getElem?_getD, List.getElem?_eq_getElem hk, getElem!_pos, hk]
  · obtain ⟨q1, q2⟩ := hK j (by simpa using hj)
    exact ⟨by rw [show (zs.mergeSort fun x y => decide (x ≤ y)) = srt zs from rfl, q1]; rfl, q2⟩
theorem keeps_len {zs : List Int} : (Go.Lib.compact zs).length = zs.length ↔ ∀ j, j < zs.length → (j = 0 ∨ zs.getD j 0 ≠ zs.getD (j - 1) 0) := by
  unfold Go.Lib.compact Go.Lib.compactUpTo
  rw [List.length_map]
  have hg : ∀ j, j < zs.length → zs.toArray[j]! = zs.getD j 0 := fun j hj => by simp [List.getD_eq_getElem?_getD, List.getElem?_eq_getElem hj, getElem!_pos, hj]
  constructor
  · intro h j hj
    have h2 : ((List.range zs.length).filter (Go.Lib.keeps zs.toArray)).length = (List.range zs.length).length := by rw [h, List.length_range]
    have h3 := List.length_filter_eq_length_iff.1 h2 j (List.mem_range.2 hj)
    unfold Go.Lib.keeps at h3
    rw [decide_eq_true_eq, hg j hj, hg (j - 1) (by omega)] at h3
    exact h3
  · intro h
    have h2 : ∀ j ∈ List.range zs.length, Go.Lib.keeps zs.toArray j = true := fun j hj => by
      have hj' := List.mem_range.1 hj
      unfold Go.Lib.keeps
      rw [decide_eq_true_eq, hg j hj', hg (j - 1) (by omega)]
      exact h j hj'
    have := List.length_filter_eq_length_iff.2 h2
    rw [this, List.length_range]
theorem compact_nodup {zs : List Int} (hs : zs.Pairwise (· ≤ ·)) : (Go.Lib.compact zs).length = zs.length ↔ zs.Nodup := by
  rw [keeps_len]
  have hg : ∀ j (h : j < zs.length), zs.getD j 0 = zs[j] := fun j hj => by simp [List.getD_eq_getElem?_getD, List.getElem?_eq_getElem hj]
  constructor
  · intro h
    rw [List.Nodup, List.pairwise_iff_getElem]
    intro i j hi hj hij
    have h1 : ∀ k, i + k < zs.length → 0 < k → zs[i] < zs.getD (i + k) 0 := by
      intro k
      induction k with
      | zero => intro _ q; omega
      | succ k ih =>
        intro hk _
        have h2 := h (i + (k + 1)) hk
        have h3 : zs.getD (i + (k + 1)) 0 ≠ zs.getD (i + k) 0 := by rcases h2 with h2 | h2; omega; exact h2
        have h4 : zs[i + k]'(by omega) ≤ zs[i + (k + 1)]'hk := by
          have := List.pairwise_iff_getElem.1 hs (i + k) (i + (k + 1)) (by omega) hk (by omega)
          exact this
        rw [hg _ hk]
        rw [hg _ hk, hg (i + k) (by omega)] at h3
        by_cases e : k = 0
        · subst e; simp at h3 h4 ⊢; omega
        · have := ih (by omega) (by omega)
          rw [hg (i + k) (by omega)] at this
          omega
    have := h1 (j - i) (by omega) (by omega)
    rw [hg _ (by omega)] at this
    simp only [show i + (j - i) = j by omega] at this
    omega
  · intro h j hj
    by_cases e : j = 0
    · exact .inl e
    · right
      rw [hg j hj, hg (j - 1) (by omega)]
      have := List.pairwise_iff_getElem.1 h (j - 1) j (by omega) hj (by omega)
      exact fun q => this q.symm
theorem srt_sorted (zs : List Int) : (srt zs).Pairwise (· ≤ ·) := by
  have := List.pairwise_mergeSort (le := fun x y : Int => decide (x ≤ y)) (fun a b c => by simp; omega) (fun a b => by simp; omega) zs
  exact this.imp (fun h => by simpa using h)
theorem srt_perm (zs : List Int) : (srt zs).Perm zs := List.mergeSort_perm zs _
theorem compact_srt (zs : List Int) : (Go.Lib.compact (srt zs)).length = zs.length ↔ zs.Nodup := by
  rw [show zs.length = (srt zs).length from (srt_perm zs).length_eq.symm, compact_nodup (srt_sorted zs)]
  exact (srt_perm zs).nodup_iff
theorem compact_c (g c : Nat) (zs : List Int) (w : World) (hm : zs.length ≤ 1099511627776) (hc : zs.length ≤ c) (h : OwnI w (some ⟨g, 0, none⟩) zs) : Calls Tryz.prog 123 #[.slice (some ⟨g, 0, none⟩) zs.length c] w fun e w' => e = .returned (.slice (some ⟨g, 0, none⟩) (Go.Lib.compact zs).length c) ∧ w.grownBy w' (some g) := by
  obtain ⟨b, e, h1, h2, h3⟩ : ∃ b, some (⟨g, 0, none⟩ : Addr) = some ⟨b, 0, none⟩ ∧ b < w.heap.size ∧ IAt w b 0 zs ∧ w.there b 0 zs.length := by
    rcases h with ⟨q, _⟩ | h
    · cases q
    · exact h
  cases e
  have hH : Go.Sort.Holds (Value.int .i64) w g 0 zs.toArray := by
    intro j hj
    simp at hj
    refine ⟨?_, ?_⟩
    · have := h2 j hj
      rw [this]
      simp [List.getD_eq_getElem?_getD, List.getElem?_eq_getElem hj, getElem!_pos, hj]
    · exact (h3 j hj).2
  have hcc := Any.slices_Compact_int Tryz.laysNm220 g 0 c zs w hH (by omega) hc
  change Calls Tryz.prog 123 _ _ _ at hcc
  refine hcc.mono ?_
  rintro e w' ⟨rfl, q, rfl⟩
  refine ⟨rfl, ⟨rfl, rfl, rfl, by simp [Go.Sort.putRow, Go.Sort.mapBlock, Go.Sort.ahead], fun k hk hne => ?_⟩⟩
  have : g ≠ k := fun e => hne (by rw [e])
  simp [Go.Sort.putRow, Go.Sort.mapBlock, Go.Sort.ahead, Array.getElem?_modify, this]
theorem compact_le (zs : List Int) : (Go.Lib.compact zs).length ≤ zs.length := by
  unfold Go.Lib.compact Go.Lib.compactUpTo
  rw [List.length_map]
  exact Nat.le_trans (List.length_filter_le _ _) (by rw [List.length_range]; exact Nat.le_refl _)
end Go.Proofs.YtkdoigibpaempaaGreatDoor
namespace Go.Proofs.YtkdoigibpaempaaGreatDoor
open Go.RowKit
def mk (j : Nat) : Int × Int := ((1 : Int) + 2 * j, (2 : Int) + 2 * j)
theorem take_of (f : Nat → Int × Int) (n k : Nat) (h : k ≤ n) : (tk f n).take k = tk f k := by
  unfold tk
  rw [← List.map_take, List.take_range, Nat.min_eq_left h]
theorem grown_setb {w w1 : World} {b k : Nat} (h : w.grownBy w1 (some b)) (u : Value) : w.grownBy (w1.setCell ⟨b, k, none⟩ u) (some b) := grown_trans h (grown_set _ _ _ _)
end Go.Proofs.YtkdoigibpaempaaGreatDoor
namespace Go.Proofs.YtkdoigibpaempaaGreatDoor
open Go.RowKit
def Mid (lo hi : Nat) (w w' : World) : Prop := w'.os = w.os ∧ w'.tape = w.tape ∧ w'.output = w.output ∧ w.heap.size ≤ w'.heap.size ∧ ∀ k, k < w.heap.size → (k < lo ∨ hi ≤ k) → w'.heap[k]? = w.heap[k]?
theorem mid_refl (lo hi : Nat) (w : World) : Mid lo hi w w := ⟨rfl, rfl, rfl, Nat.le_refl _, fun _ _ _ => rfl⟩
theorem mid_trans {lo hi : Nat} {a b c : World} (h : Mid lo hi a b) (k : Mid lo hi b c) : Mid lo hi a c := by
  obtain ⟨h1, h2, h3, h4, h5⟩ := h
  obtain ⟨k1, k2, k3, k4, k5⟩ := k
  exact ⟨k1.trans h1, k2.trans h2, k3.trans h3, Nat.le_trans h4 k4, fun i hi' ho => (k5 i (Nat.lt_of_lt_of_le hi' h4) ho).trans (h5 i hi' ho)⟩
theorem mid_below {lo hi : Nat} {w w' : World} (h : Below w.heap.size w w') : Mid lo hi w w' := ⟨h.os, h.tape, h.output, h.size, fun k hk _ => h.block k hk⟩
theorem mid_set {lo hi b k : Nat} {w w1 : World} (h : Mid lo hi w w1) (h1 : lo ≤ b) (h2 : b < hi) (u : Value) : Mid lo hi w (w1.setCell ⟨b, k, none⟩ u) :=
  mid_trans h ⟨rfl, rfl, rfl, by simp [World.setCell], fun i _ ho => Below.heap_setCell _ _ _ _ (by dsimp only; omega)⟩
theorem mid_grown {lo hi b : Nat} {w w1 w2 : World} (h : Mid lo hi w w1) (g : w1.grownBy w2 (some b)) (h1 : lo ≤ b) (h2 : b < hi) : Mid lo hi w w2 :=
  mid_trans h ⟨g.os, g.tape, g.output, g.size, fun i hi' ho => g.block i hi' (fun e => by cases e; omega)⟩
theorem mid_B {n lo hi : Nat} {w0 w w' : World} (h : Below n w0 w) (k : Mid lo hi w w') (h1 : n ≤ lo) (h2 : n ≤ w.heap.size) : Below n w0 w' := by
  obtain ⟨k1, k2, k3, k4, k5⟩ := k
  exact h.trans ⟨k1, k2, k3, k4, fun i hi' => k5 i (by omega) (by omega)⟩
theorem mid_blk {lo hi c : Nat} {w w' : World} (k : Mid lo hi w w') (hc : c < w.heap.size) (h : c < lo ∨ hi ≤ c) : w'.heap[c]? = w.heap[c]? := k.2.2.2.2 c hc h
theorem mid_cell {lo hi c j : Nat} {v : Value} {w w' : World} (k : Mid lo hi w w') (hv : w.cell? ⟨c, j, none⟩ = some v) (h : c < lo ∨ hi ≤ c) : w'.cell? ⟨c, j, none⟩ = some v := by
  have hc : c < w.heap.size := World.block_lt_of_cell? w _ hv
  simp only [World.cell?, mid_blk k hc h] at hv ⊢
  exact hv
def RwO (hi : Nat) (w : World) (B o n : Nat) : Prop := ∃ c, w.cell? ⟨B, o + 4, none⟩ = some (.slice (some ⟨c, 0, none⟩) n n) ∧ B < c ∧ c < hi ∧ w.there c 0 (n * 2)
def RwsO (hi : Nat) (w : World) (B : Nat) (rs : List Rw) : Prop := ∀ j (h : j < rs.length), RwO hi w B (j * 5) rs[j].2.2.2.2.length
theorem RwO.below {hi : Nat} {w w' : World} {B o n : Nat} (h : RwO hi w B o n) (hh : hi ≤ w.heap.size) (H : Below w.heap.size w w') : RwO hi w' B o n := by
  obtain ⟨c, h0, h1, h2, h3⟩ := h
  exact ⟨c, keepcell H h0, h1, h2, there_below h3 (by omega) H⟩
theorem RwO.mono {hi hi' : Nat} {w : World} {B o n : Nat} (h : RwO hi w B o n) (hh : hi ≤ hi') : RwO hi' w B o n := by
  obtain ⟨c, h0, h1, h2, h3⟩ := h
  exact ⟨c, h0, h1, by omega, h3⟩
theorem RwsO.below {hi : Nat} {w w' : World} {B : Nat} {rs : List Rw} (h : RwsO hi w B rs) (hh : hi ≤ w.heap.size) (H : Below w.heap.size w w') : RwsO hi w' B rs := fun j hj => (h j hj).below hh H
theorem there_at {w : World} {b n k : Nat} (h : w.there b 0 n) (hk : k < n) : ∃ v, w.cell? ⟨b, k, none⟩ = some v ∧ w.frozen? ⟨b, k, none⟩ = false := by
  obtain ⟨h1, h2⟩ := h k hk
  obtain ⟨v, hv⟩ := Option.isSome_iff_exists.1 h1
  simp only [Nat.zero_add] at hv h2
  exact ⟨v, hv, h2⟩
theorem there_set {w : World} {b n p k : Nat} (h : w.there b 0 n) (u : Value) : (w.setCell ⟨p, k, none⟩ u).there b 0 n := by
  intro j hj
  obtain ⟨h1, h2⟩ := h j hj
  refine ⟨?_, by rw [World.frozen?_setCell]; exact h2⟩
  obtain ⟨v, hv⟩ := Option.isSome_iff_exists.1 h1
  obtain ⟨v', hv'⟩ := cell?_setCell_some (p := ⟨p, k, none⟩) (x := u) hv
  rw [hv']; rfl
theorem put_own {hi : Nat} {w : World} {B k n b m : Nat} (ht : w.there B 0 (n * 5)) (hk : k < n) (hb : B < b) (hbh : b < hi) (ho : w.there b 0 (m * 2)) (u0 u1 u2 u3 : Value) :
    RwO hi (((((w.setCell ⟨B, k * 5, none⟩ u0).setCell ⟨B, k * 5 + 1, none⟩ u1).setCell ⟨B, k * 5 + 2, none⟩ u2).setCell ⟨B, k * 5 + 3, none⟩ u3).setCell ⟨B, k * 5 + 4, none⟩ (.slice (some ⟨b, 0, none⟩) m m)) B (k * 5) m := by
  obtain ⟨v, hv, _⟩ := there_at (there_set (there_set (there_set (there_set ht u0 (p := B) (k := k * 5)) u1 (p := B) (k := k * 5 + 1)) u2 (p := B) (k := k * 5 + 2)) u3 (p := B) (k := k * 5 + 3)) (show k * 5 + 4 < n * 5 by omega)
  exact ⟨b, World.cell?_setCell_same _ _ _ hv, hb, hbh, there_set (there_set (there_set (there_set (there_set ho _) _) _) _) _⟩
theorem RwO.far {hi : Nat} {w : World} {B o n k : Nat} (h : RwO hi w B o n) (hk : k ≠ o + 4) (u : Value) : RwO hi (w.setCell ⟨B, k, none⟩ u) B o n := by
  obtain ⟨c, h0, h1, h2, h3⟩ := h
  refine ⟨c, ?_, h1, h2, there_set h3 _⟩
  rw [World.cell?_setCell_other _ _ _ _ (by intro q; injection q; omega)]
  exact h0
set_option maxHeartbeats 2000000 in
theorem to_rowSO {N : Nat → Prop} (a : Option Addr) (cap : Nat) (rs : List Rw) (w : World) (hm : rs.length ≤ 1099511627776) (h : Rws N w a rs) : Calls Tryz.prog 36 #[.slice a rs.length cap] w fun e w' => ∃ B, e = .returned (.slice (some ⟨B, 0, none⟩) rs.length rs.length) ∧ w.heap.size ≤ B ∧ B < w'.heap.size ∧ RwsAt (fun c => B < c) w' B 0 rs ∧ w'.there B 0 (rs.length * 5) ∧ RwsO w'.heap.size w' B rs ∧ Below w.heap.size w w' := by
  have HR := hid h
  clear h
  have hmk := make_rows rs.length hm
  obtain ⟨n, hn⟩ : ∃ n, n = rs.length := ⟨_, rfl⟩
  have HN := hid hn.symm
  rw [← hn] at hmk hm ⊢
  clear hn
  go_enter Tryz.func36, Tryz.ntmps36
  go_wp2_with fail
  have hB : Below w.heap.size w (w.alloc (.cells (madeCells #[.int .i64 0, .int .i64 0, .int .i64 0, .int .i64 0, .slice none 0 0] (n * 5)) 78)) := balloc (Below.refl _ _) _
  have hT := made_own5 w n
  have hl : w.heap.size < (w.alloc (.cells (madeCells #[.int .i64 0, .int .i64 0, .int .i64 0, .int .i64 0, .slice none 0 0] (n * 5)) 78)).heap.size := by simp
  generalize w.alloc (.cells (madeCells #[.int .i64 0, .int .i64 0, .int .i64 0, .int .i64 0, .slice none 0 0] (n * 5)) 78) = W at *
  clear hmk
  go_loopw [4] (fun ti wr => ∃ j : Nat, ti = .int .i64 j ∧ j ≤ n ∧ Hid (w.heap.size < wr.heap.size) ∧ Hid (∀ i (hi : i < rs.length), i < j → RwAt (fun c => w.heap.size < c) wr w.heap.size (i * 5) rs[i]) ∧ Hid (wr.there w.heap.size 0 (n * 5)) ∧ Hid (∀ i (hi : i < rs.length), i < j → RwO wr.heap.size wr w.heap.size (i * 5) rs[i].2.2.2.2.length) ∧ Hid (Below w.heap.size w wr)) (fun ti _ => n - (intOf ti).toNat)
  case atStart => exact ⟨0, rfl, Nat.zero_le _, hid hl, hid (fun i hi h => absurd h (by omega)), hid hT, hid (fun i hi h => absurd h (by omega)), hid hB⟩
  case round =>
    clear hB hT hl
    obtain ⟨j, rfl, hj, HL, HP, HT, HOW, HBW⟩ := hrel
    by_cases hlt : j < n
    · have c1 : (j : Int) < (n : Int) := by omega
      have hjr : j < rs.length := by rw [HN.out]; exact hlt
      obtain ⟨b, o, rfl, hbs, hr⟩ := (HR.out.below HBW.out).at j hjr
      obtain ⟨a', cap', k0, k1, k2, k3, k4, k5, k6, k7, k8⟩ := hr
      have TR := hid (to_row rs[j] a' cap' wr k6 k5 k7)
      have HPR := hid (fun (W : World) (bb : Nat) => put_row (N := fun c => w.heap.size < c) (w := W) (B := w.heap.size) (k := j) (n := n) (b := bb) (rs := rs) (fun c hc => by omega) hjr HN.out)
      have HK6 := hid k6
      have HLN : Hid (∀ m, rs[j].2.2.2.2.length = m → ∀ (X : World) (hX : ∀ i (hi : i < rs.length), i < j → RwO X.heap.size X w.heap.size (i * 5) rs[i].2.2.2.2.length) (hY : RwO X.heap.size X w.heap.size (j * 5) m), ∀ i (hi : i < rs.length), i < j + 1 → RwO X.heap.size X w.heap.size (i * 5) rs[i].2.2.2.2.length) := hid (fun m hm X hX hY i hi h => by
        by_cases e : i = j
        · subst e; rw [hm]; exact hY
        · exact hX i hi (by omega))
      unfold rwv at TR
      clear k5 k6 k7 k8
      generalize rs[j].1 = id at *
      generalize rs[j].2.1 = fr at *
      generalize rs[j].2.2.1 = te at *
      generalize rs[j].2.2.2.1 = kd at *
      generalize rs[j].2.2.2.2 = ps at *
      go_wp2_with fail
      refine TR.out.mono ?_
      rintro e w1 ⟨bb, rfl, hbb, ho, hb1⟩
      have hP := fun i (hi : i < rs.length) (h : i < j) => (HP.out i hi h).below hb1
      have hT := there_below HT.out HL.out hb1
      have hB := btrans HBW.out hb1
      have hL : w.heap.size < w1.heap.size := Nat.lt_of_lt_of_le HL.out hb1.size
      have hbl : w.heap.size < bb := Nat.lt_of_lt_of_le HL.out hbb
      have HPUT := hid (HPR.out w1 bb hP hT hbl HK6.out ho)
      have HOLD := hid (fun i (hi : i < rs.length) (h : i < j) => ((HOW.out i hi h).below (Nat.le_refl _) hb1).mono hb1.size)
      have HNEW := hid (fun u0 u1 u2 u3 => put_own (hi := w1.heap.size) hT hlt hbl ho.1 ho.2.2 u0 u1 u2 u3)
      have q := fun i (hi : i < n * 5) => hT i hi
      obtain ⟨x0, y0⟩ := q (j * 5) (by omega)
      obtain ⟨x1, y1⟩ := q (j * 5 + 1) (by omega)
      obtain ⟨x2, y2⟩ := q (j * 5 + 2) (by omega)
      obtain ⟨x3, y3⟩ := q (j * 5 + 3) (by omega)
      obtain ⟨x4, y4⟩ := q (j * 5 + 4) (by omega)
      obtain ⟨v0, z0⟩ := Option.isSome_iff_exists.1 x0
      obtain ⟨v1, z1⟩ := Option.isSome_iff_exists.1 x1
      obtain ⟨v2, z2⟩ := Option.isSome_iff_exists.1 x2
      obtain ⟨v3, z3⟩ := Option.isSome_iff_exists.1 x3
      obtain ⟨v4, z4⟩ := Option.isSome_iff_exists.1 x4
      simp only [Nat.zero_add, ← Nat.add_assoc] at z0 z1 z2 z3 z4 y0 y1 y2 y3 y4
      clear q x0 x1 x2 x3 x4 hP HPR hb1 ho TR
      have HL1 := hid hL
      have HB1 := hid hB
      clear hT
      go_wp2_with fail
      go_roundw
      case rel => exact ⟨j + 1, by go_num, by omega, hid (by simpa using hL), hid HPUT.out.1, hid HPUT.out.2, hid (HLN.out _ rfl _ (fun i hi h => by simpa using ((((((HOLD.out i hi h).far (by omega) _).far (by omega) _).far (by omega) _).far (by omega) _).far (by omega) _)) (by simpa using HNEW.out _ _ _ _)), hid (bset (bset (bset (bset (bset hB (by omega) _) (by omega) _) (by omega) _) (by omega) _) (by omega) _)⟩
      case measure => simp [intOf]; omega
    · obtain rfl : n = j := by omega
      have c1 : (n : Int) ≤ (n : Int) := by omega
      go_wp2_with fail
      go_ret
      exact ⟨w.heap.size, rfl, Nat.le_refl _, HL.out, fun i hi => by have := HP.out i hi (by rw [HN.out] at hi; exact hi); simpa using this, HT.out, fun i hi => HOW.out i hi (by rw [HN.out] at hi; exact hi), HBW.out⟩
theorem RwO.other {hi : Nat} {w : World} {B o n q k : Nat} (h : RwO hi w B o n) (hq : q ≠ B) (u : Value) : RwO hi (w.setCell ⟨q, k, none⟩ u) B o n := by
  obtain ⟨c, h0, h1, h2, h3⟩ := h
  refine ⟨c, ?_, h1, h2, there_set h3 _⟩
  rw [World.cell?_setCell_other _ _ _ _ (by intro e; injection e; omega)]
  exact h0
set_option maxHeartbeats 1000000 in
theorem to_rowsO {N : Nat → Prop} (now : Int) (a : Option Addr) (cap : Nat) (rs : List Rw) (w : World) (hm : rs.length ≤ 1099511627776) (h : Rws N w a rs) : Calls Tryz.prog 18 #[.agg #[.int .i64 now, .slice a rs.length cap]] w fun e w' => ∃ B, e = .returned (.agg #[.int .i64 now, .slice (some ⟨B, 0, none⟩) rs.length rs.length]) ∧ w.heap.size ≤ B ∧ B < w'.heap.size ∧ RwsAt (fun c => B < c) w' B 0 rs ∧ w'.there B 0 (rs.length * 5) ∧ RwsO w'.heap.size w' B rs ∧ Below w.heap.size w w' := by
  have TS := hid (fun (W : World) (hb : Below w.heap.size w W) => to_rowSO a cap rs W hm (h.below hb))
  clear h
  obtain ⟨n, hn⟩ : ∃ n, n = rs.length := ⟨_, rfl⟩
  rw [← hn] at TS ⊢
  clear hn
  go_enter Tryz.func18, Tryz.ntmps18
  go_wp2_with fail
  have hB0 : Below w.heap.size w (((w.alloc (.cells #[.int .i64 now, .slice a n cap] 24)).alloc (.cells #[.int .i64 0, .slice none 0 0] 31)).alloc (.cells #[.int .i64 now, .slice none 0 0] 31)) := balloc (balloc (balloc (Below.refl _ _) _) _) _
  have g2 := old_alloc (o' := .cells #[.int .i64 now, .slice none 0 0] 31) (new_alloc (w.alloc (.cells #[.int .i64 now, .slice a n cap] 24)) (w.heap.size + 1) (.cells #[.int .i64 0, .slice none 0 0] 31) (by simp))
  have g3 := new_alloc ((w.alloc (.cells #[.int .i64 now, .slice a n cap] 24)).alloc (.cells #[.int .i64 0, .slice none 0 0] 31)) (w.heap.size + 1 + 1) (.cells #[.int .i64 now, .slice none 0 0] 31) (by simp)
  generalize (((w.alloc (.cells #[.int .i64 now, .slice a n cap] 24)).alloc (.cells #[.int .i64 0, .slice none 0 0] 31)).alloc (.cells #[.int .i64 now, .slice none 0 0] 31)) = W at *
  have hlW := lt_of_block g3
  refine (TS.out _ hB0).mono ?_
  rintro e w1 ⟨B, rfl, hbb, hbl, ho, ht, hro, hb1⟩
  replace g2 := keepheap2 hb1 g2
  replace g3 := keepheap2 hb1 g3
  have hB := btrans hB0 hb1
  have HO := hid ho
  have HRO := hid hro
  have HTH := hid ht
  clear hb1 hB0 ho ht hro
  obtain ⟨a0, a1, f0, f1⟩ := cell2f g2
  obtain ⟨b0, b1, e0, e1⟩ := cell2f g3
  go_wp2_with fail
  have gF := set2r (set_far (q := w.heap.size + 1 + 1) (k := 1) (u := .slice (some ⟨B, 0, none⟩) n n) g2 (by omega)) (.int .i64 now) (.slice (some ⟨B, 0, none⟩) n n)
  have bF := bset (bset (bset hB (q := w.heap.size + 1 + 1) (k := 1) (by omega) (.slice (some ⟨B, 0, none⟩) n n)) (q := w.heap.size + 1) (k := 0) (by omega) (.int .i64 now)) (q := w.heap.size + 1) (k := 1) (by omega) (.slice (some ⟨B, 0, none⟩) n n)
  have oF := ((HO.out.setR (q := w.heap.size + 1 + 1) (k := 1) (u := .slice (some ⟨B, 0, none⟩) n n) (by omega) (by omega)).setR (q := w.heap.size + 1) (k := 0) (u := .int .i64 now) (by omega) (by omega)).setR (q := w.heap.size + 1) (k := 1) (u := .slice (some ⟨B, 0, none⟩) n n) (by omega) (by omega)
  have lF : B < (((w1.setCell ⟨w.heap.size + 1 + 1, 1, none⟩ (.slice (some ⟨B, 0, none⟩) n n)).setCell ⟨w.heap.size + 1, 0, none⟩ (.int .i64 now)).setCell ⟨w.heap.size + 1, 1, none⟩ (.slice (some ⟨B, 0, none⟩) n n)).heap.size := by simpa using hbl
  have tF : (((w1.setCell ⟨w.heap.size + 1 + 1, 1, none⟩ (.slice (some ⟨B, 0, none⟩) n n)).setCell ⟨w.heap.size + 1, 0, none⟩ (.int .i64 now)).setCell ⟨w.heap.size + 1, 1, none⟩ (.slice (some ⟨B, 0, none⟩) n n)).there B 0 (n * 5) := there_set (there_set (there_set HTH.out _) _) _
  have rF : RwsO (((w1.setCell ⟨w.heap.size + 1 + 1, 1, none⟩ (.slice (some ⟨B, 0, none⟩) n n)).setCell ⟨w.heap.size + 1, 0, none⟩ (.int .i64 now)).setCell ⟨w.heap.size + 1, 1, none⟩ (.slice (some ⟨B, 0, none⟩) n n)).heap.size (((w1.setCell ⟨w.heap.size + 1 + 1, 1, none⟩ (.slice (some ⟨B, 0, none⟩) n n)).setCell ⟨w.heap.size + 1, 0, none⟩ (.int .i64 now)).setCell ⟨w.heap.size + 1, 1, none⟩ (.slice (some ⟨B, 0, none⟩) n n)) B rs := fun j hj => by simpa using (((HRO.out j hj).other (q := w.heap.size + 1 + 1) (k := 1) (by omega) (.slice (some ⟨B, 0, none⟩) n n)).other (q := w.heap.size + 1) (k := 0) (by omega) (.int .i64 now)).other (q := w.heap.size + 1) (k := 1) (by omega) (.slice (some ⟨B, 0, none⟩) n n)
  generalize ((w1.setCell ⟨w.heap.size + 1 + 1, 1, none⟩ (.slice (some ⟨B, 0, none⟩) n n)).setCell ⟨w.heap.size + 1, 0, none⟩ (.int .i64 now)).setCell ⟨w.heap.size + 1, 1, none⟩ (.slice (some ⟨B, 0, none⟩) n n) = wf at *
  obtain ⟨z0, z1, _, _⟩ := cell2f gF
  exact bodyPost_ret (v := .agg #[.int .i64 now, .slice (some ⟨B, 0, none⟩) n n]) (by simp [results, Tryz.results18, go_sem, z0, z1]) rfl ⟨B, rfl, by omega, lF, oF, tF, rF, bF⟩
set_option maxRecDepth 100000 in
set_option maxHeartbeats 1000000 in
theorem mark_ptsN (w : World) (c n : Nat) (k0 : Int) (h0 : 0 ≤ k0) (h1 : k0 ≤ 4611686018427387904) (hn : n ≤ 1048576) (hc : c < w.heap.size) (ht : w.there c 0 (n * 2)) : Calls Tryz.prog 75 #[.slice (some ⟨c, 0, none⟩) n n, .int .i64 k0] w fun e w' => e = .returned (.int .i64 (k0 + 2 * (n : Int))) ∧ w.grownBy w' (some c) ∧ (∀ d m, w.there d 0 m → w'.there d 0 m) := by
  go_enter Tryz.func75, Tryz.ntmps75
  go_wp2_with fail
  go_loopw [1, 5] (fun tk' ti wr => ∃ k : Nat, ti = .int .i64 k ∧ tk' = .int .i64 (k0 + 2 * (k : Int)) ∧ k ≤ n ∧ Hid (w.grownBy wr (some c)) ∧ Hid (∀ d m, w.there d 0 m → wr.there d 0 m)) (fun _ ti _ => n - (intOf ti).toNat)
  case atStart => exact ⟨0, rfl, by simp, Nat.zero_le _, hid (grown_same _ _), hid (fun _ _ h => h)⟩
  case round =>
    obtain ⟨k, rfl, rfl, hk, HG, HT⟩ := hrel
    by_cases hlt : k < n
    · have c1 : (k : Int) < (n : Int) := by omega
      have hT := HT.out _ _ ht
      obtain ⟨u0, hu0, g0'⟩ := there_at hT (show k * 2 < n * 2 by omega)
      obtain ⟨u1, hu1, g1'⟩ := there_at hT (show k * 2 + 1 < n * 2 by omega)
      have hu1' : (wr.setCell ⟨c, k * 2, none⟩ (.int .i64 (k0 + 2 * (k : Int)))).cell? ⟨c, k * 2 + 1, none⟩ = some u1 := by
        rw [World.cell?_setCell_other _ _ _ _ (by simp)]; exact hu1
      have g1'' : (wr.setCell ⟨c, k * 2, none⟩ (.int .i64 (k0 + 2 * (k : Int)))).frozen? ⟨c, k * 2 + 1, none⟩ = false := by rw [World.frozen?_setCell]; exact g1'
      clear hT
      go_wp2_with fail
      go_roundw
      case rel => exact ⟨k + 1, by go_num, by go_num, by omega, hid (grown_setb (grown_setb HG.out _) _), hid (fun d m h => there_set (there_set (HT.out d m h) _) _)⟩
      case measure => simp [intOf]; omega
    · obtain rfl : k = n := by omega
      go_wp2_with fail
      go_ret
      exact ⟨rfl, HG.out, HT.out⟩
end Go.Proofs.YtkdoigibpaempaaGreatDoor
