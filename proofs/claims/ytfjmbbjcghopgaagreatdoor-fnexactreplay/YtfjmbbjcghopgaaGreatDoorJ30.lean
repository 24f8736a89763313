/- Texts of stores, joined: RwG, RwH, Ci. -/
import Derived.Test.YtfjmbbjcghopgaaGreatDoorJ19
import Derived.Test.YtfjmbbjcghopgaaGreatDoorJ5
import Derived.Maps.AppendAt
import Derived.Shelf.Lay
import Derived.Shelf.LaySoft
import Derived.Shelf.SortM.Plain
import Derived.Test.YtfjmbbjcghopgaaGreatDoorProg
import Derived.Test.YtfjmbbjcghopgaaGreatDoorShelfI
import Derived.Test.YtfjmbbjcghopgaaGreatDoorShelfC
namespace Go.Proofs.YtfjmbbjcghopgaaGreatDoor
open Go.RowKit
set_option linter.unusedSimpArgs false
set_option linter.unusedVariables false
theorem Tryz.infoI : (Tryz.prog.info? 3).map (fun i => (i.zero, i.size, i.bytes)) = some (some (.int .i64 0), 1, 8) := by kernel_rfl
def IAt (w : World) (b off : Nat) (zs : List Int) : Prop := ∀ k, k < zs.length → w.cell? ⟨b, off + k, none⟩ = some (.int .i64 (zs.getD k 0))
/-- A list of whole numbers that may be written into: nil, or a block of its own. -/
def OwnI (w : World) (a : Option Addr) (zs : List Int) : Prop := (a = none ∧ zs = []) ∨ ∃ b, a = some ⟨b, 0, none⟩ ∧ b < w.heap.size ∧ IAt w b 0 zs ∧ w.there b 0 zs.length
theorem OwnI.blk {w w' : World} {a : Option Addr} {zs : List Int} (h : OwnI w a zs) (hs : w.heap.size ≤ w'.heap.size) (e : ∀ b off, a = some ⟨b, off, none⟩ → w'.heap[b]? = w.heap[b]?) : OwnI w' a zs := by
  rcases h with ⟨rfl, rfl⟩ | ⟨b, rfl, h1, h2, h3⟩
  · exact .inl ⟨rfl, rfl⟩
  · have eb := e b 0 rfl
    refine .inr ⟨b, rfl, by omega, fun k hk => ?_, fun j hj => ?_⟩
    · simp only [World.cell?, eb]; exact h2 k hk
    · simp only [World.cell?, World.frozen?, eb]; exact h3 j hj
theorem OwnI.lt {w : World} {a : Option Addr} {zs : List Int} (h : OwnI w a zs) : ∀ c off, a = some ⟨c, off, none⟩ → c < w.heap.size := by
  intro c off e
  rcases h with ⟨rfl, rfl⟩ | ⟨b, rfl, h, _⟩
  · cases e
  · cases e; exact h
theorem OwnI.below {w w' : World} {a : Option Addr} {zs : List Int} (h : OwnI w a zs) (H : Below w.heap.size w w') : OwnI w' a zs := h.blk H.size (fun b off e => H.block b (h.lt b off e))
theorem OwnI.grown {w w' : World} {a : Option Addr} {zs : List Int} {r : Option Nat} (h : OwnI w a zs) (hg : w.grownBy w' r) (hne : ∀ c off, a = some ⟨c, off, none⟩ → some c ≠ r) : OwnI w' a zs := h.blk hg.size (fun b off e => hg.block b (h.lt b off e) (hne b off e))
theorem OwnI.at {w : World} {a : Option Addr} {zs : List Int} (h : OwnI w a zs) {k : Nat} (hk : k < zs.length) : ∃ b, a = some ⟨b, 0, none⟩ ∧ w.cell? ⟨b, k, none⟩ = some (.int .i64 (zs.getD k 0)) ∧ w.frozen? ⟨b, k, none⟩ = false := by
  rcases h with ⟨rfl, rfl⟩ | ⟨b, rfl, h1, h2, h3⟩
  · simp at hk
  · refine ⟨b, rfl, by simpa using h2 k hk, ?_⟩
    simpa using (h3 k hk).2
end Go.Proofs.YtfjmbbjcghopgaaGreatDoor
namespace Go.Proofs.YtfjmbbjcghopgaaGreatDoor
open Go.RowKit
set_option linter.unusedSimpArgs false
set_option linter.unusedVariables false
def fli (zs : List Int) : List Value := zs.map (Value.int .i64)
theorem own_cell {w : World} {B g n cap : Nat} {zs : List Int} (h : w.ownsRow B 3 1 (.slice (some ⟨g, 0, none⟩) n cap) n (fli zs)) (hn : zs.length = n) {k : Nat} (hk : k < n) : w.cell? ⟨g, k, none⟩ = some (.int .i64 (zs.getD k 0)) := by
  rw [World.ownsRow.cellAt h k (by omega)]
  simp [fli, List.getD_eq_getElem?_getD, List.getElem?_eq_getElem (show k < zs.length by omega)]
theorem own_I {w : World} {B g n cap : Nat} {zs : List Int} (h : w.ownsRow B 3 1 (.slice (some ⟨g, 0, none⟩) n cap) n (fli zs)) (hn : zs.length = n) : B ≤ g ∧ n ≤ cap ∧ OwnI w (some ⟨g, 0, none⟩) zs := by
  have h' := h
  rcases h.2 with ⟨q, _⟩ | ⟨g', cap', cur, e, hb, hg, hc, _⟩
  · cases q
  · cases e
    refine ⟨hb, hc, .inr ⟨g, rfl, (Array.getElem?_eq_some_iff.1 hg).1, fun k hk => ?_, fun j hj => ?_⟩⟩
    · rw [Nat.zero_add]; exact own_cell h' hn (by omega)
    · simp only [Nat.zero_add]
      refine ⟨?_, World.ownsRow.frozenAt h' j⟩
      rw [own_cell h' hn (by omega)]; rfl
/-- An append to a list of its own that is no nil, at a step of a region that draws its order; the source may be empty. -/
theorem step_append_any {P : Program} {w : World} {ops : Array Oper} {o : Oper} {a : Act} {K : Act → World → Prop} {Q : Exit → Act → World → Prop} {E : Prop} (hgd : o.guard = none) (s x : Operand) (t : TypeId)
    (ho : o.op = .call { callee := .builtin .append, args := #[s, x], argTypes := #[t, t] })
    (base : Nat) (e : TypeId) (i : TypeInfo) (z : Value) (size bytes : Nat) (ht : P.underlying t = some (.slice e)) (hi : P.info? e = some i) (hz : i.zero = some z)
    (hsize : i.size = size) (hby : i.bytes = bytes) (hzs : z.cells.size = size) (hsz : 0 < size)
    (g0 n0 cap0 : Nat) (n : Nat) (xs : List Value) (hs : a.eval s = .slice (some ⟨g0, 0, none⟩) n0 cap0) (hown : w.ownsRow base e size (.slice (some ⟨g0, 0, none⟩) n0 cap0) n xs)
    (ad : Addr) (m c : Nat) (news : List Value) (hx : a.eval x = .slice (some ad) m c) (hl : news.length = m * size) (hnews : ∀ j u, news[j]? = some u → w.cell? (ad.add j) = some u) (h1 : ∀ u ∈ news, u.oneCell' = true)
    (h63 : n + m ≤ maxLen) (hbytes : (n + m) * bytes ≤ 140737488355328) (hbase : base ≤ w.heap.size)
    (h : ∀ g cap w', w'.ownsRow base e size (.slice (some ⟨g, 0, none⟩) (n + m) cap) (n + m) (xs ++ news) → w.grownBy w' (some g0) → (g = g0 ∨ g = w.heap.size) → K (a.put o.dst (.slice (some ⟨g, 0, none⟩) (n + m) cap)) w') :
    if Region.wanted o (yielded ops a.tmps) = true then Oper.wp P o a w K Q else E := by
  have hw : Region.wanted o (yielded ops a.tmps) = true := by simp [Region.wanted, hgd]
  rw [if_pos hw]
  obtain ⟨v', w', hr, h2, h3, h4, h5⟩ := run_append_own_at (P := P) w base t o.type e i z size bytes ht hi hz hsize hby hzs hsz _ n xs hown ad m c news hl hnews h1 h63 hbytes hbase
  have hne : v' ≠ .slice none 0 0 := fun e => by have := (h4.1 e).1; cases this
  obtain ⟨g, cap, cur, rfl, _⟩ : ∃ g cap cur, v' = .slice (some ⟨g, 0, none⟩) (n + m) cap ∧ cur = () := by
    rcases h2.2 with ⟨q, _⟩ | ⟨g, cap, cur, e, _⟩
    · exact absurd q hne
    · exact ⟨g, cap, (), e, rfl⟩
  unfold Oper.wp execOp
  simp only [ho, resolve, invoke, builtin, Sem.run_bind, Sem.run_pure, Result.andThen_ok, List.map_toArray, List.map_cons, List.map_nil, hs, hx, hr]
  refine h g cap w' h2 h3 ?_
  rcases h5 with h5 | h5
  · left; simpa [Value.ownBlock] using h5
  · right; simpa [Value.ownBlock] using h5
end Go.Proofs.YtfjmbbjcghopgaaGreatDoor
namespace Go.Proofs.YtfjmbbjcghopgaaGreatDoor
open Go.RowKit
set_option linter.unusedSimpArgs false
set_option linter.unusedVariables false
def srt (zs : List Int) : List Int := zs.mergeSort (fun x y => decide (x ≤ y))
theorem srt_len (zs : List Int) : (srt zs).length = zs.length := (List.mergeSort_perm zs _).length_eq
/-- A list of whole numbers that the call has made. -/
def IRow (B : Nat) (w : World) (v : Value) (zs : List Int) : Prop := ∃ g cap, v = .slice (some ⟨g, 0, none⟩) zs.length cap ∧ g < w.heap.size ∧ zs.length ≤ cap ∧ w.ownsRow B 3 1 (.slice (some ⟨g, 0, none⟩) zs.length cap) zs.length (fli zs)
theorem irow_of {B g cap n : Nat} {w : World} {zs : List Int} (h : w.ownsRow B 3 1 (.slice (some ⟨g, 0, none⟩) n cap) n (fli zs)) (hn : zs.length = n) : IRow B w (.slice (some ⟨g, 0, none⟩) n cap) zs := by
  subst hn
  obtain ⟨h1, h2, h3⟩ := own_I h rfl
  exact ⟨g, cap, rfl, h3.lt g 0 rfl, h2, h⟩
theorem IRow.below {B : Nat} {w w' : World} {v : Value} {zs : List Int} (h : IRow B w v zs) (H : Below w.heap.size w w') : IRow B w' v zs := by
  obtain ⟨g, cap, rfl, h1, h2, h3⟩ := h
  refine ⟨g, cap, rfl, Nat.lt_of_lt_of_le h1 H.size, h2, h3.1, ?_⟩
  rcases h3.2 with ⟨q, _⟩ | ⟨g', c', cur, e, q1, q2, q3⟩
  · cases q
  · cases e
    exact .inr ⟨g, cap, cur, rfl, q1, by rw [H.block g h1]; exact q2, q3⟩
theorem make_ints (n : Nat) (hn : n ≤ 1099511627776) (w : World) : (Instr.makeSlice 134 (.int .i64 0) (.int .i64 n)).run Tryz.prog w = .ok (.slice (some ⟨w.heap.size, 0, none⟩) 0 n) (w.alloc (.cells (madeCells #[.int .i64 0] n) 3)) := by
  obtain ⟨i0, hi, hz0, hz1, hz2⟩ := info_parts Tryz.infoI
  have := run_make (P := Tryz.prog) w 134 3 i0 _ Tryz.underlying134 hi hz0 .i64 .i64 0 n (by omega) (by omega) (by rw [hz2]; omega) (by omega)
  rw [hz1, Nat.mul_one] at this
  exact this
theorem sort_ids (B g c : Nat) (zs : List Int) (w : World) (hm : zs.length ≤ 1099511627776) (hgl : g < w.heap.size) (h : w.ownsRow B 3 1 (.slice (some ⟨g, 0, none⟩) zs.length c) zs.length (fli zs)) : Calls Tryz.prog 90 #[.slice (some ⟨g, 0, none⟩) zs.length c] w fun e w' => e = .returned (.tuple #[]) ∧ OwnI w' (some ⟨g, 0, none⟩) (srt zs) ∧ w.grownBy w' (some g) := by
  obtain ⟨_, _, hI⟩ := own_I h rfl
  obtain ⟨b, e, h1, h2, h3⟩ : ∃ b, some (⟨g, 0, none⟩ : Addr) = some ⟨b, 0, none⟩ ∧ b < w.heap.size ∧ IAt w b 0 zs ∧ w.there b 0 zs.length := by
    rcases hI with ⟨q, _⟩ | h
    · cases q
    · exact h
  cases e
  have hH : Go.Sort.Holds (Value.int .i64) w g 0 zs.toArray := by
    intro j hj
    simp at hj
    refine ⟨?_, ?_⟩
    · have := h2 j hj
      rw [this]
      simp [List.getD_eq_getElem?_getD, List.getElem?_eq_getElem hj, getElem!_pos, hj]
    · exact (h3 j hj).2
  have hc := AnyM.slices_Sort_int Tryz.sortInt g 0 c zs w hH hgl (by omega)
  change Calls Tryz.prog 90 _ _ _ at hc
  refine hc.mono ?_
  rintro e w' ⟨rfl, q, os, rfl⟩
  have hl : (srt zs).toArray.size = zs.toArray.size := by simp [srt_len]
  have hK := Go.Sort.holds_grow (Value.int .i64) _ os g 0 _ (by simpa [Go.Sort.putRow, Go.Sort.mapBlock, Go.Sort.ahead] using hgl) (Go.Sort.holds_putRow (Value.int .i64) (Go.Sort.ahead w q) g 0 zs.toArray (srt zs).toArray (Go.Sort.holds_ahead _ w q g 0 _ hH) hl)
  have hgr : w.grownBy (Go.Sort.grow (Go.Sort.putRow (Value.int .i64) (Go.Sort.ahead w q) g 0 (srt zs).toArray) os) (some g) := by
    refine ⟨rfl, rfl, rfl, by simp [Go.Sort.putRow, Go.Sort.mapBlock, Go.Sort.ahead, Go.Sort.grow], fun k hk hne => ?_⟩
    rw [Go.Sort.heap_grow_old _ _ (by simpa [Go.Sort.putRow, Go.Sort.mapBlock, Go.Sort.ahead] using hk)]
    have : g ≠ k := fun e => hne (by rw [e])
    simp [Go.Sort.putRow, Go.Sort.mapBlock, Go.Sort.ahead, Array.getElem?_modify, this]
  refine ⟨rfl, .inr ⟨g, rfl, Nat.lt_of_lt_of_le hgl hgr.size, fun k hk => ?_, fun j hj => ?_⟩, hgr⟩
  · have := (hK k (by simpa using hk)).1
    rw [show (zs.mergeSort fun x y => decide (x ≤ y)) = srt zs from rfl]
    rw [this]
    simp [List.getD_eq_getElem?_getD, List.getElem?_eq_getElem hk, getElem!_pos, hk]
  · obtain ⟨q1, q2⟩ := hK j (by simpa using hj)
    exact ⟨by rw [show (zs.mergeSort fun x y => decide (x ≤ y)) = srt zs from rfl, q1]; rfl, q2⟩
theorem keeps_len {zs : List Int} : (Go.Lib.compact zs).length = zs.length ↔ ∀ j, j < zs.length → (j = 0 ∨ zs.getD j 0 ≠ zs.getD (j - 1) 0) := by
  unfold Go.Lib.compact Go.Lib.compactUpTo
  rw [List.length_map]
  have hg : ∀ j, j < zs.length → zs.toArray[j]! = zs.getD j 0 := fun j hj => by simp [List.getD_eq_getElem?_getD, List.getElem?_eq_getElem hj, getElem!_pos, hj]
  constructor
  · intro h j hj
    have h2 : ((List.range zs.length).filter (Go.Lib.keeps zs.toArray)).length = (List.range zs.length).length := by rw [h, List.length_range]
    have h3 := List.length_filter_eq_length_iff.1 h2 j (List.mem_range.2 hj)
    unfold Go.Lib.keeps at h3
    rw [decide_eq_true_eq, hg j hj, hg (j - 1) (by omega)] at h3
    exact h3
  · intro h
    have h2 : ∀ j ∈ List.range zs.length, Go.Lib.keeps zs.toArray j = true := fun j hj => by
      have hj' := List.mem_range.1 hj
      unfold Go.Lib.keeps
      rw [decide_eq_true_eq, hg j hj', hg (j - 1) (by omega)]
      exact h j hj'
    have := List.length_filter_eq_length_iff.2 h2
    rw [this, List.length_range]
theorem compact_nodup {zs : List Int} (hs : zs.Pairwise (· ≤ ·)) : (Go.Lib.compact zs).length = zs.length ↔ zs.Nodup := by
  rw [keeps_len]
  have hg : ∀ j (h : j < zs.length), zs.getD j 0 = zs[j] := fun j hj => by simp [List.getD_eq_getElem?_getD, List.getElem?_eq_getElem hj]
  constructor
  · intro h
    rw [List.Nodup, List.pairwise_iff_getElem]
    intro i j hi hj hij
    have h1 : ∀ k, i + k < zs.length → 0 < k → zs[i] < zs.getD (i + k) 0 := by
      intro k
      induction k with
      | zero => intro _ q; omega
      | succ k ih =>
        intro hk _
        have h2 := h (i + (k + 1)) hk
        have h3 : zs.getD (i + (k + 1)) 0 ≠ zs.getD (i + k) 0 := by rcases h2 with h2 | h2; omega; exact h2
        have h4 : zs[i + k]'(by omega) ≤ zs[i + (k + 1)]'hk := by
          have := List.pairwise_iff_getElem.1 hs (i + k) (i + (k + 1)) (by omega) hk (by omega)
          exact this
        rw [hg _ hk]
        rw [hg _ hk, hg (i + k) (by omega)] at h3
        by_cases e : k = 0
        · subst e; simp at h3 h4 ⊢; omega
        · have := ih (by omega) (by omega)
          rw [hg (i + k) (by omega)] at this
          omega
    have := h1 (j - i) (by omega) (by omega)
    rw [hg _ (by omega)] at this
    simp only [show i + (j - i) = j by omega] at this
    omega
  · intro h j hj
    by_cases e : j = 0
    · exact .inl e
    · right
      rw [hg j hj, hg (j - 1) (by omega)]
      have := List.pairwise_iff_getElem.1 h (j - 1) j (by omega) hj (by omega)
      exact fun q => this q.symm
theorem srt_sorted (zs : List Int) : (srt zs).Pairwise (· ≤ ·) := by
  have := List.pairwise_mergeSort (le := fun x y : Int => decide (x ≤ y)) (fun a b c => by simp; omega) (fun a b => by simp; omega) zs
  exact this.imp (fun h => by simpa using h)
theorem srt_perm (zs : List Int) : (srt zs).Perm zs := List.mergeSort_perm zs _
theorem compact_srt (zs : List Int) : (Go.Lib.compact (srt zs)).length = zs.length ↔ zs.Nodup := by
  rw [show zs.length = (srt zs).length from (srt_perm zs).length_eq.symm, compact_nodup (srt_sorted zs)]
  exact (srt_perm zs).nodup_iff
theorem compact_c (g c : Nat) (zs : List Int) (w : World) (hm : zs.length ≤ 1099511627776) (hc : zs.length ≤ c) (h : OwnI w (some ⟨g, 0, none⟩) zs) : Calls Tryz.prog 91 #[.slice (some ⟨g, 0, none⟩) zs.length c] w fun e w' => e = .returned (.slice (some ⟨g, 0, none⟩) (Go.Lib.compact zs).length c) ∧ w.grownBy w' (some g) := by
  obtain ⟨b, e, h1, h2, h3⟩ : ∃ b, some (⟨g, 0, none⟩ : Addr) = some ⟨b, 0, none⟩ ∧ b < w.heap.size ∧ IAt w b 0 zs ∧ w.there b 0 zs.length := by
    rcases h with ⟨q, _⟩ | h
    · cases q
    · exact h
  cases e
  have hH : Go.Sort.Holds (Value.int .i64) w g 0 zs.toArray := by
    intro j hj
    simp at hj
    refine ⟨?_, ?_⟩
    · have := h2 j hj
      rw [this]
      simp [List.getD_eq_getElem?_getD, List.getElem?_eq_getElem hj, getElem!_pos, hj]
    · exact (h3 j hj).2
  have hcc := Any.slices_Compact_int Tryz.laysNm220 g 0 c zs w hH (by omega) hc
  change Calls Tryz.prog 91 _ _ _ at hcc
  refine hcc.mono ?_
  rintro e w' ⟨rfl, q, rfl⟩
  refine ⟨rfl, ⟨rfl, rfl, rfl, by simp [Go.Sort.putRow, Go.Sort.mapBlock, Go.Sort.ahead], fun k hk hne => ?_⟩⟩
  have : g ≠ k := fun e => hne (by rw [e])
  simp [Go.Sort.putRow, Go.Sort.mapBlock, Go.Sort.ahead, Array.getElem?_modify, this]
theorem compact_le (zs : List Int) : (Go.Lib.compact zs).length ≤ zs.length := by
  unfold Go.Lib.compact Go.Lib.compactUpTo
  rw [List.length_map]
  exact Nat.le_trans (List.length_filter_le _ _) (by rw [List.length_range]; exact Nat.le_refl _)
end Go.Proofs.YtfjmbbjcghopgaaGreatDoor
