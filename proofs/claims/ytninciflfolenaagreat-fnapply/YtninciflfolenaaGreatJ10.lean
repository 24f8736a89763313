/- Texts of stores, joined: Ci, RwD2, RwF2, RwA1. -/
import Derived.Test.YtninciflfolenaaGreatJ9
import Derived.Test.YtninciflfolenaaGreatShelfI
import Derived.Test.YtninciflfolenaaGreatShelfC
import Derived.Test.YtninciflfolenaaGreatJ8
import Derived.Test.YtninciflfolenaaGreatJ2
namespace Go.Proofs.YtninciflfolenaaGreat
open Go.RowKit
set_option linter.unusedSimpArgs false
set_option linter.unusedVariables false
def srt (zs : List Int) : List Int := zs.mergeSort (fun x y => decide (x ≤ y))
theorem srt_len (zs : List Int) : (srt zs).length = zs.length := (List.mergeSort_perm zs _).length_eq
/-- A list of whole numbers that the call has made. -/
def IRow (B : Nat) (w : World) (v : Value) (zs : List Int) : Prop := ∃ g cap, v = .slice (some ⟨g, 0, none⟩) zs.length cap ∧ g < w.heap.size ∧ zs.length ≤ cap ∧ w.ownsRow B 3 1 (.slice (some ⟨g, 0, none⟩) zs.length cap) zs.length (fli zs)
theorem irow_of {B g cap n : Nat} {w : World} {zs : List Int} (h : w.ownsRow B 3 1 (.slice (some ⟨g, 0, none⟩) n cap) n (fli zs)) (hn : zs.length = n) : IRow B w (.slice (some ⟨g, 0, none⟩) n cap) zs := by
  subst hn
  obtain ⟨h1, h2, h3⟩ := own_I h rfl
  exact ⟨g, cap, rfl, h3.lt g 0 rfl, h2, h⟩
theorem IRow.below {B : Nat} {w w' : World} {v : Value} {zs : List Int} (h : IRow B w v zs) (H : Below w.heap.size w w') : IRow B w' v zs := by
  obtain ⟨g, cap, rfl, h1, h2, h3⟩ := h
  refine ⟨g, cap, rfl, Nat.lt_of_lt_of_le h1 H.size, h2, h3.1, ?_⟩
  rcases h3.2 with ⟨q, _⟩ | ⟨g', c', cur, e, q1, q2, q3⟩
  · cases q
  · cases e
    exact .inr ⟨g, cap, cur, rfl, q1, by rw [H.block g h1]; exact q2, q3⟩
theorem make_ints (n : Nat) (hn : n ≤ 1099511627776) (w : World) : (Instr.makeSlice 43 (.int .i64 0) (.int .i64 n)).run Tryz.prog w = .ok (.slice (some ⟨w.heap.size, 0, none⟩) 0 n) (w.alloc (.cells (madeCells #[.int .i64 0] n) 3)) := by
  obtain ⟨i0, hi, hz0, hz1, hz2⟩ := info_parts Tryz.infoI
  have := run_make (P := Tryz.prog) w 43 3 i0 _ Tryz.underlying43 hi hz0 .i64 .i64 0 n (by omega) (by omega) (by rw [hz2]; omega) (by omega)
  rw [hz1, Nat.mul_one] at this
  exact this
theorem sort_ids (B g c : Nat) (zs : List Int) (w : World) (hm : zs.length ≤ 1099511627776) (hgl : g < w.heap.size) (h : w.ownsRow B 3 1 (.slice (some ⟨g, 0, none⟩) zs.length c) zs.length (fli zs)) : Calls Tryz.prog 38 #[.slice (some ⟨g, 0, none⟩) zs.length c] w fun e w' => e = .returned (.tuple #[]) ∧ OwnI w' (some ⟨g, 0, none⟩) (srt zs) ∧ w.grownBy w' (some g) := by
  obtain ⟨_, _, hI⟩ := own_I h rfl
  obtain ⟨b, e, h1, h2, h3⟩ : ∃ b, some (⟨g, 0, none⟩ : Addr) = some ⟨b, 0, none⟩ ∧ b < w.heap.size ∧ IAt w b 0 zs ∧ w.there b 0 zs.length := by
    rcases hI with ⟨q, _⟩ | h
    · cases q
    · exact h
  cases e
  have hH : Go.Sort.Holds (Value.int .i64) w g 0 zs.toArray := by
    intro j hj
    simp at hj
    refine ⟨?_, ?_⟩
    · have := h2 j hj
      rw [this]
      simp [List.getD_eq_getElem?_getD, List.getElem?_eq_getElem hj, getElem!_pos, hj]
    · exact (h3 j hj).2
  have hc := AnyM.slices_Sort_int Tryz.sortInt g 0 c zs w hH hgl (by omega)
  change Calls Tryz.prog 38 _ _ _ at hc
  refine hc.mono ?_
  rintro e w' ⟨rfl, q, os, rfl⟩
  have hl : (srt zs).toArray.size = zs.toArray.size := by simp [srt_len]
  have hK := Go.Sort.holds_grow (Value.int .i64) _ os g 0 _ (by simpa [Go.Sort.putRow, Go.Sort.mapBlock, Go.Sort.ahead] using hgl) (Go.Sort.holds_putRow (Value.int .i64) (Go.Sort.ahead w q) g 0 zs.toArray (srt zs).toArray (Go.Sort.holds_ahead _ w q g 0 _ hH) hl)
  have hgr : w.grownBy (Go.Sort.grow (Go.Sort.putRow (Value.int .i64) (Go.Sort.ahead w q) g 0 (srt zs).toArray) os) (some g) := by
    refine ⟨rfl, rfl, rfl, by simp [Go.Sort.putRow, Go.Sort.mapBlock, Go.Sort.ahead, Go.Sort.grow], fun k hk hne => ?_⟩
    rw [Go.Sort.heap_grow_old _ _ (by simpa [Go.Sort.putRow, Go.Sort.mapBlock, Go.Sort.ahead] using hk)]
    have : g ≠ k := fun e => hne (by rw [e])
    simp [Go.Sort.putRow, Go.Sort.mapBlock, Go.Sort.ahead, Array.getElem?_modify, this]
  refine ⟨rfl, .inr ⟨g, rfl, Nat.lt_of_lt_of_le hgl hgr.size, fun k hk => ?_, fun j hj => ?_⟩, hgr⟩
  · have := (hK k (by simpa using hk)).1
    rw [show (zs.mergeSort fun x y => decide (x ≤ y)) = srt zs from rfl]
    rw [this]
    simp [List.getD_eq_getElem?_getD, List.getElem?_eq_getElem hk, getElem!_pos, hk]
  · obtain ⟨q1, q2⟩ := hK j (by simpa using hj)
    exact ⟨by rw [show (zs.mergeSort fun x y => decide (x ≤ y)) = srt zs from rfl, q1]; rfl, q2⟩
theorem keeps_len {zs : List Int} : (Go.Lib.compact zs).length = zs.length ↔ ∀ j, j < zs.length → (j = 0 ∨ zs.getD j 0 ≠ zs.getD (j - 1) 0) := by
  unfold Go.Lib.compact Go.Lib.compactUpTo
  rw [List.length_map]
  have hg : ∀ j, j < zs.length → zs.toArray[j]! = zs.getD j 0 := fun j hj => by simp [List.getD_eq_getElem?_getD, List.getElem?_eq_getElem hj, getElem!_pos, hj]
  constructor
  · intro h j hj
    have h2 : ((List.range zs.length).filter (Go.Lib.keeps zs.toArray)).length = (List.range zs.length).length := by rw [h, List.length_range]
    have h3 := List.length_filter_eq_length_iff.1 h2 j (List.mem_range.2 hj)
    unfold Go.Lib.keeps at h3
    rw [decide_eq_true_eq, hg j hj, hg (j - 1) (by omega)] at h3
    exact h3
  · intro h
    have h2 : ∀ j ∈ List.range zs.length, Go.Lib.keeps zs.toArray j = true := fun j hj => by
      have hj' := List.mem_range.1 hj
      unfold Go.Lib.keeps
      rw [decide_eq_true_eq, hg j hj', hg (j - 1) (by omega)]
      exact h j hj'
    have := List.length_filter_eq_length_iff.2 h2
    rw [this, List.length_range]
theorem compact_nodup {zs : List Int} (hs : zs.Pairwise (· ≤ ·)) : (Go.Lib.compact zs).length = zs.length ↔ zs.Nodup := by
  rw [keeps_len]
  have hg : ∀ j (h : j < zs.length), zs.getD j 0 = zs[j] := fun j hj => by simp [List.getD_eq_getElem?_getD, List.getElem?_eq_getElem hj]
  constructor
  · intro h
    rw [List.Nodup, List.pairwise_iff_getElem]
    intro i j hi hj hij
    have h1 : ∀ k, i + k < zs.length → 0 < k → zs[i] < zs.getD (i + k) 0 := by
      intro k
      induction k with
      | zero => intro _ q; omega
      | succ k ih =>
        intro hk _
        have h2 := h (i + (k + 1)) hk
        have h3 : zs.getD (i + (k + 1)) 0 ≠ zs.getD (i + k) 0 := by rcases h2 with h2 | h2; omega; exact h2
        have h4 : zs[i + k]'(by omega) ≤ zs[i + (k + 1)]'hk := by
          have := List.pairwise_iff_getElem.1 hs (i + k) (i + (k + 1)) (by omega) hk (by omega)
          exact this
        rw [hg _ hk]
        rw [hg _ hk, hg (i + k) (by omega)] at h3
        by_cases e : k = 0
        · subst e; simp at h3 h4 ⊢; omega
        · have := ih (by omega) (by omega)
          rw [hg (i + k) (by omega)] at this
          omega
    have := h1 (j - i) (by omega) (by omega)
    rw [hg _ (by omega)] at this
    simp only [show i + (j - i) = j by omega] at this
    omega
  · intro h j hj
    by_cases e : j = 0
    · exact .inl e
    · right
      rw [hg j hj, hg (j - 1) (by omega)]
      have := List.pairwise_iff_getElem.1 h (j - 1) j (by omega) hj (by omega)
      exact fun q => this q.symm
theorem srt_sorted (zs : List Int) : (srt zs).Pairwise (· ≤ ·) := by
  have := List.pairwise_mergeSort (le := fun x y : Int => decide (x ≤ y)) (fun a b c => by simp; omega) (fun a b => by simp; omega) zs
  exact this.imp (fun h => by simpa using h)
theorem srt_perm (zs : List Int) : (srt zs).Perm zs := List.mergeSort_perm zs _
theorem compact_srt (zs : List Int) : (Go.Lib.compact (srt zs)).length = zs.length ↔ zs.Nodup := by
  rw [show zs.length = (srt zs).length from (srt_perm zs).length_eq.symm, compact_nodup (srt_sorted zs)]
  exact (srt_perm zs).nodup_iff
theorem compact_c (g c : Nat) (zs : List Int) (w : World) (hm : zs.length ≤ 1099511627776) (hc : zs.length ≤ c) (h : OwnI w (some ⟨g, 0, none⟩) zs) : Calls Tryz.prog 50 #[.slice (some ⟨g, 0, none⟩) zs.length c] w fun e w' => e = .returned (.slice (some ⟨g, 0, none⟩) (Go.Lib.compact zs).length c) ∧ w.grownBy w' (some g) := by
  obtain ⟨b, e, h1, h2, h3⟩ : ∃ b, some (⟨g, 0, none⟩ : Addr) = some ⟨b, 0, none⟩ ∧ b < w.heap.size ∧ IAt w b 0 zs ∧ w.there b 0 zs.length := by
    rcases h with ⟨q, _⟩ | h
    · cases q
    · exact h
  cases e
  have hH : Go.Sort.Holds (Value.int .i64) w g 0 zs.toArray := by
    intro j hj
    simp at hj
    refine ⟨?_, ?_⟩
    · have := h2 j hj
      rw [this]
      simp [List.getD_eq_getElem?_getD, List.getElem?_eq_getElem hj, getElem!_pos, hj]
    · exact (h3 j hj).2
  have hcc := Any.slices_Compact_int Tryz.laysNm220 g 0 c zs w hH (by omega) hc
  change Calls Tryz.prog 50 _ _ _ at hcc
  refine hcc.mono ?_
  rintro e w' ⟨rfl, q, rfl⟩
  refine ⟨rfl, ⟨rfl, rfl, rfl, by simp [Go.Sort.putRow, Go.Sort.mapBlock, Go.Sort.ahead], fun k hk hne => ?_⟩⟩
  have : g ≠ k := fun e => hne (by rw [e])
  simp [Go.Sort.putRow, Go.Sort.mapBlock, Go.Sort.ahead, Array.getElem?_modify, this]
theorem compact_le (zs : List Int) : (Go.Lib.compact zs).length ≤ zs.length := by
  unfold Go.Lib.compact Go.Lib.compactUpTo
  rw [List.length_map]
  exact Nat.le_trans (List.length_filter_le _ _) (by rw [List.length_range]; exact Nat.le_refl _)
end Go.Proofs.YtninciflfolenaaGreat
namespace Go.Proofs.YtninciflfolenaaGreat
open Go.RowKit
set_option linter.unusedSimpArgs false
set_option linter.unusedVariables false
def idsT (rs : List Rw) (t : Int) : List Int := (rs.filter (fun r => thr (tr r) t)).map (fun r => r.1)
def idsb (now : Int) (rs : List Rw) (t : Int) : List Int := if rowsb now rs = true then srt (idsT rs t) else []
theorem ids_next {rs : List Rw} {t : Int} {i : Nat} (hi : i < rs.length) : idsT (rs.take (i + 1)) t = if thr (tr rs[i]) t = true then idsT (rs.take i) t ++ [rs[i].1] else idsT (rs.take i) t := by
  unfold idsT
  rw [List.take_add_one, List.getElem?_eq_getElem hi, List.filter_append, List.map_append]
  by_cases h : thr (tr rs[i]) t = true
  · simp [h]
  · simp [h]
theorem ids_len (rs : List Rw) (t : Int) : (idsT rs t).length ≤ rs.length := by
  unfold idsT
  rw [List.length_map]
  exact List.length_filter_le _ _
def IA (w : World) (zs : List Int) (e : Ending) (w' : World) : Prop :=
  ∃ a' cap', e = .returned (.slice a' zs.length cap') ∧ OwnI w' a' zs ∧ (∀ b off, a' = some ⟨b, off, none⟩ → w.heap.size ≤ b) ∧ Below w.heap.size w w'
set_option maxHeartbeats 2000000 in
theorem ids_1 (r : Rw) (a' : Option Addr) (cap' : Nat) (t : Int) (p : Nat) (w : World) (c1 : w.cell? ⟨p, 0, none⟩ = some (.int .i64 t)) : Calls Tryz.prog 36 #[rwv r a' cap', .pointer (some ⟨p, 0, none⟩)] w fun e w' => e = .returned (.tuple #[.int .i64 r.1, .bool (thr (tr r) t)]) ∧ Below w.heap.size w w' := by
  have TH := hid (fun w' => impl_there r a' cap' t w')
  generalize thr (tr r) t = q2 at *
  obtain ⟨id2, fr, te, kd, ps⟩ := r
  unfold rwv at *
  simp only at *
  generalize ps.length = np at *
  go_enter Tryz.func36, Tryz.ntmps36
  go_upto_region 1 with fail
  have hB : Below w.heap.size w (w.alloc (.cells #[.int .i64 id2, .int .i64 fr, .int .i64 te, .int .i64 kd, .slice a' np cap'] 55)) := balloc (Below.refl _ _) _
  have gx := new_alloc w w.heap.size (.cells #[.int .i64 id2, .int .i64 fr, .int .i64 te, .int .i64 kd, .slice a' np cap'] 55) rfl
  replace c1 := keepalloc c1 (.cells #[.int .i64 id2, .int .i64 fr, .int .i64 te, .int .i64 kd, .slice a' np cap'] 55)
  generalize w.alloc (.cells #[.int .i64 id2, .int .i64 fr, .int .i64 te, .int .i64 kd, .slice a' np cap'] 55) = W at *
  obtain ⟨⟨x0, x1, x2, x3, x4⟩, _⟩ := cell5g gx
  clear gx
  go_region_held3 (fun w' => w'.cell? ⟨w.heap.size, 0, none⟩ = some (.int .i64 id2) ∧ w'.cell? ⟨w.heap.size, 1, none⟩ = some (.int .i64 fr) ∧ w'.cell? ⟨w.heap.size, 2, none⟩ = some (.int .i64 te) ∧ w'.cell? ⟨w.heap.size, 3, none⟩ = some (.int .i64 kd) ∧ w'.cell? ⟨w.heap.size, 4, none⟩ = some (.slice a' np cap') ∧ w'.cell? ⟨p, 0, none⟩ = some (.int .i64 t)) ((go_split_ands; (repeat' apply And.intro) <;> (repeat (first | with_reducible assumption | with_reducible refine keepset3 ?_ (by dsimp only; omega) | with_reducible refine keepdrew ?_ | with_reducible refine keepcell (by with_reducible assumption) ?_ | with_reducible refine keepalloc ?_ _))))
    (first
      | (go_at_call 37; refine (TH.out _).mono ?_; rintro e z ⟨rfl, hz⟩))
  go_wp2_with fail
  exact bodyPost_ret (v := .tuple #[.int .i64 id2, .bool q2]) (by simp [results, Tryz.results36, go_sem]) rfl ⟨rfl, by (repeat (first | with_reducible exact Below.refl _ _ | with_reducible assumption | (with_reducible refine btrans ?_ (by with_reducible assumption)) | with_reducible refine bdrew ?_ | with_reducible refine balloc ?_ _))⟩
end Go.Proofs.YtninciflfolenaaGreat
namespace Go.Proofs.YtninciflfolenaaGreat
open Go.RowKit
set_option linter.unusedSimpArgs false
set_option linter.unusedVariables false
set_option maxRecDepth 100000 in
set_option maxHeartbeats 2000000 in
theorem kept_ids {N : Nat → Prop} (a : Option Addr) (cap : Nat) (rs : List Rw) (t : Int) (p : Nat) (w : World) (hm : rs.length ≤ 1099511627776) (h : Rws N w a rs) (c1 : w.cell? ⟨p, 0, none⟩ = some (.int .i64 t)) : Calls Tryz.prog 35 #[.slice a rs.length cap, .func (.func 36) #[] #[.pointer (some ⟨p, 0, none⟩)]] w fun e w' => ∃ v, e = .returned v ∧ IRow w.heap.size w' v (idsT rs t) ∧ Below w.heap.size w w' := by
  obtain ⟨i0, hi0, hz0, hz1, hz2⟩ := info_parts Tryz.infoI
  have HR := hid h
  have HC := hid c1
  clear h c1
  have hmk := make_ints rs.length hm
  obtain ⟨n, hn⟩ : ∃ n, n = rs.length := ⟨_, rfl⟩
  have HN := hid hn.symm
  rw [← hn] at hm hmk ⊢
  clear hn
  have hB0 : Below w.heap.size w (w.alloc (.cells (madeCells #[.int .i64 0] n) 3)) := balloc (Below.refl _ _) _
  have HI : Hid (IRow w.heap.size (w.alloc (.cells (madeCells #[.int .i64 0] n) 3)) (.slice (some ⟨w.heap.size, 0, none⟩) 0 n) []) := hid (by
    have := World.ownsRow_made (base := w.heap.size) (e := 3) (size := 1) w (madeCells #[.int .i64 0] n) n (Nat.le_refl _) (by unfold maxLen; omega) (by rw [size_madeCells, Nat.mul_one])
    exact ⟨w.heap.size, n, rfl, by simp, Nat.zero_le _, by simpa [fli] using this⟩)
  go_enter Tryz.func35, Tryz.ntmps35
  go_upto_region 2 with fail
  generalize w.alloc (.cells (madeCells #[.int .i64 0] n) 3) = W0 at *
  clear hmk
  go_wp2_with fail
  go_loopw [5, 15] (fun tv ti wr => ∃ i : Nat, ti = .int .i64 i ∧ i ≤ n ∧ Hid (IRow w.heap.size wr tv (idsT (rs.take i) t)) ∧ Hid (Below w.heap.size w wr)) (fun _ ti _ => n - (intOf ti).toNat)
  case atStart => exact ⟨0, rfl, Nat.zero_le _, HI, hid hB0⟩
  case round =>
    clear HI hB0
    obtain ⟨i, rfl, hi, HV, HBW⟩ := hrel
    by_cases hlt : i < n
    · have d1 : (i : Int) < (n : Int) := by omega
      have hir : i < rs.length := by rw [HN.out]; exact hlt
      obtain ⟨b, o, rfl, hbs, a', cap', k0, k1, k2, k3, k4, k5, k6, k7, _⟩ := (HR.out.below HBW.out).at i hir
      have hbx : Below wr.heap.size wr (wr.alloc (.cells #[.int .i64 rs[i].1, .int .i64 rs[i].2.1, .int .i64 rs[i].2.2.1, .int .i64 rs[i].2.2.2.1, .slice a' rs[i].2.2.2.2.length cap'] 55)) := balloc (Below.refl _ _) _
      have HT := hid (fun (W : World) (hb : Below wr.heap.size wr W) => ids_1 rs[i] a' cap' t p W (keepcell (btrans HBW.out hb) HC.out))
      have HX := hid (ids_next (t := t) hir)
      have hil : (idsT (rs.take i) t).length ≤ i := by have := ids_len (rs.take i) t; simp at this; omega
      clear k5 k6 k7
      unfold rwv at HT
      generalize thr (tr rs[i]) t = q2 at *
      generalize rs[i].1 = id2 at *
      generalize rs[i].2.1 = fr at *
      generalize rs[i].2.2.1 = te at *
      generalize rs[i].2.2.2.1 = kd at *
      generalize rs[i].2.2.2.2.length = np at *
      generalize idsT (rs.take i) t = zs at *
      obtain ⟨g, c, rfl, hgl, hgc, hown⟩ := HV.out
      have HO := hid hown
      clear hown HV
      go_upto_region 5 with fail
      have gx := new_alloc wr wr.heap.size (.cells #[.int .i64 id2, .int .i64 fr, .int .i64 te, .int .i64 kd, .slice a' np cap'] 55) rfl
      have HI1 := hid ((irow_of HO.out rfl).below hbx)
      have HB1 := hid (btrans HBW.out hbx)
      have HT1 := hid (HT.out _ hbx)
      clear k0 k1 k2 k3 k4 HT hbx
      generalize wr.alloc (.cells #[.int .i64 id2, .int .i64 fr, .int .i64 te, .int .i64 kd, .slice a' np cap'] 55) = W1 at *
      generalize wr.heap.size = X at *
      obtain ⟨⟨x0, x1, x2, x3, x4⟩, _⟩ := cell5g gx
      clear gx
      go_wp2_with fail
      refine HT1.out.mono ?_
      rintro e z ⟨rfl, hz⟩
      have HBz := hid (btrans HB1.out hz)
      have HIz := hid (HI1.out.below hz)
      clear hz x0 x1 x2 x3 x4 HT1 HI1 HB1
      cases q2
      · have HV2 : Hid (IRow w.heap.size z (.slice (some ⟨g, 0, none⟩) zs.length c) (idsT (rs.take (i + 1)) t)) := hid (by rw [HX.out]; simpa using HIz.out)
        go_wp2_with fail
        go_roundw
        case rel => exact ⟨i + 1, by go_num, by omega, HV2, HBz⟩
        case measure => simp [intOf]; omega
      · have HX2 : Hid (idsT (rs.take (i + 1)) t = zs ++ [id2]) := hid (by rw [HX.out]; simp)
        obtain ⟨g', c', e', hgl', hgc', hown'⟩ := HIz.out
        cases e'
        have hzw := HBz.out.size
        clear HX HIz
        go_wp2_with (at_builtin; refine wpList_append_lies _ rfl (.tmp 26) (.tmp 28) 43 rfl w.heap.size 3 i0 _ 1 8 Tryz.underlying43 hi0 hz0 hz1 hz2 rfl (by decide) _ _ _ rfl (hown'.alloc _) ⟨z.heap.size, 0, none⟩ 1 1 [.int .i64 id2] rfl rfl (World.news_of_block (cs := #[.int .i64 id2]) (t := 3) (fr := (0, 0)) (heap_alloc_new z _)) (by simp [Value.oneCell']) (by omega) (by unfold maxLen; omega) (by omega) (by simp; omega) (z.heap.size + 1) (by simp) ?_; intro gg cp w2 hown2 hgrow hat hlt2)
        go_roundw
        case rel =>
          refine ⟨i + 1, by go_num, by omega, hid ?_, hid ?_⟩
          · rw [HX2.out]
            exact irow_of (by simpa [fli] using hown2) (by simp)
          · exact Below.grown (balloc HBz.out _) hgrow (by simp; omega) (fun k e => (hown'.lt k e).1)
        case measure => simp [intOf]; omega
    · have d1 : (n : Int) ≤ (i : Int) := by omega
      have hin : i = rs.length := by have := HN.out; omega
      have HF : Hid (IRow w.heap.size wr u5 (idsT rs t)) := hid (by have := HV.out; rw [hin, List.take_length] at this; exact this)
      clear hin HV
      go_wp2_with fail
      go_ret
      exact ⟨_, rfl, HF.out, HBW.out⟩
set_option maxRecDepth 100000 in
set_option maxHeartbeats 2000000 in
theorem impl_IdsAt {N : Nat → Prop} (now : Int) (a : Option Addr) (cap : Nat) (rs : List Rw) (t : Int) (w : World) (hm : rs.length ≤ 1099511627776) (h : Rws N w a rs) : Calls Tryz.prog 14 #[.agg #[.int .i64 now, .slice a rs.length cap], .int .i64 t] w fun e w' => IA w (idsb now rs t) e w' := by
  have HOK := hid (fun (W : World) (hb : Below w.heap.size w W) => impl_RowsOk now a cap rs W hm (h.below hb))
  have HKP := hid (fun (W : World) (hb : Below w.heap.size w W) (p : Nat) (c1 : W.cell? ⟨p, 0, none⟩ = some (.int .i64 t)) => kept_ids a cap rs t p W hm (h.below hb) c1)
  clear h
  have HNO : Hid (rowsb now rs = false → idsb now rs t = []) := hid (fun e => by unfold idsb; rw [if_neg (by rw [e]; simp)])
  have HYE : Hid (rowsb now rs = true → idsb now rs t = srt (idsT rs t)) := hid (fun e => by unfold idsb; rw [if_pos e])
  have HL := hid (ids_len rs t)
  generalize idsb now rs t = ib at *
  generalize rowsb now rs = ob at *
  generalize idsT rs t = zs at *
  generalize rs.length = n at *
  have hmf : ∀ (fn : Fn) (first cp : Array Value) (w : World), (Instr.makeFunc fn first cp).run Tryz.prog w = .ok (.func fn first cp) w := fun _ _ _ _ => rfl
  go_enter Tryz.func14, Tryz.ntmps14
  go_upto_region 1 with fail
  have hBx : Below w.heap.size w ((w.alloc (.cells #[.int .i64 now, .slice a n cap] 26)).alloc (.cells #[.int .i64 t] 3)) := balloc (balloc (Below.refl _ _) _) _
  have g0 := old_alloc (o' := .cells #[.int .i64 t] 3) (new_alloc w w.heap.size (.cells #[.int .i64 now, .slice a n cap] 26) rfl)
  have g1 := new_alloc (w.alloc (.cells #[.int .i64 now, .slice a n cap] 26)) (w.heap.size + 1) (.cells #[.int .i64 t] 3) (by simp)
  generalize (w.alloc (.cells #[.int .i64 now, .slice a n cap] 26)).alloc (.cells #[.int .i64 t] 3) = W0 at *
  obtain ⟨d0, d1, _, _⟩ := cell2r g0
  go_wp2_with fail
  refine (HOK.out _ hBx).mono ?_
  rintro e W ⟨rfl, hz⟩
  replace g0 := keepheap2 hz g0
  replace g1 := keepheap2 hz g1
  have hB := btrans hBx hz
  clear hBx hz d0 d1 HOK
  cases ob
  · have HF := hid (HNO.out rfl)
    have HB := hid hB
    clear HNO HYE HKP g0 g1 hB
    go_wp2_with fail
    go_ret
    rw [HF.out]
    exact ⟨some ⟨W.heap.size, 0, none⟩, 0, rfl, .inr ⟨_, rfl, by simp, fun k hk => absurd hk (by simp), fun j hj => absurd hj (by simp)⟩, fun b off e => (by cases e; exact HB.out.size), balloc HB.out _⟩
  have HF := hid (HYE.out rfl)
  have c1 : W.cell? ⟨w.heap.size + 1, 0, none⟩ = some (.int .i64 t) := by simp [World.cell?, g1]
  have KP := hid (HKP.out W hB (w.heap.size + 1) c1)
  have HB := hid hB
  clear HNO HYE HKP c1 g1 hB
  obtain ⟨d0, d1, _, _⟩ := cell2r g0
  go_wp2_with fail
  refine KP.out.mono ?_
  rintro e y ⟨v, rfl, hI, hy⟩
  obtain ⟨g, c, rfl, hgl, hgc, hown⟩ := hI
  have hgw := (hown.lt g rfl).1
  have hWs := HB.out.size
  have HS := hid (sort_ids W.heap.size g c zs y (by have := HL.out; omega) hgl hown)
  have HBy := hid (btrans HB.out hy)
  clear hown hy d0 d1 KP g0
  go_wp2_with fail
  refine HS.out.mono ?_
  rintro e u ⟨rfl, hI2, hgr⟩
  have HBu := hid (Below.grown HBy.out hgr HBy.out.size (fun k e => by cases e; omega))
  have HI2 := hid hI2
  clear hI2 hgr HS
  go_wp2_with fail
  go_ret
  rw [HF.out]
  exact ⟨some ⟨g, 0, none⟩, c, by rw [srt_len]; rfl, HI2.out, fun b off e => (by cases e; omega), HBu.out⟩
end Go.Proofs.YtninciflfolenaaGreat
namespace Go.Proofs.YtninciflfolenaaGreat
open Go.RowKit
set_option linter.unusedSimpArgs false
set_option linter.unusedVariables false
theorem keepheapA {w w' : World} (hb : Below w.heap.size w w') {b : Nat} {o : Obj} (h : w.heap[b]? = some o) : w'.heap[b]? = some o := by
  rw [hb.block b (lt_of_block h)]; exact h
def atb (id t : Int) (r : Rw) : Bool := decide (r.1 = id) && thr (tr r) t
def rat (rs : List Rw) (id t : Int) : Option Rw := rs.find? (atb id t)
def raK (o : Option Rw) : Int := match o with
  | some r => r.2.2.2.1
  | none => 0
def raP (o : Option Rw) : List (Int × Int) := match o with
  | some r => r.2.2.2.2
  | none => []
theorem rat_some {rs : List Rw} {id t : Int} {i : Nat} (h : i < rs.length) (hb : ∀ m (h : m < rs.length), m < i → atb id t rs[m] = false) (hi : atb id t rs[i] = true) : rat rs id t = some rs[i] := by
  unfold rat
  rw [List.find?_eq_some_iff_getElem]
  exact ⟨hi, i, h, rfl, fun j hj => by simp [hb j (by omega) hj]⟩
theorem rat_none {rs : List Rw} {id t : Int} (hb : ∀ m (h : m < rs.length), atb id t rs[m] = false) : rat rs id t = none := by
  unfold rat
  rw [List.find?_eq_none]
  intro x hx
  obtain ⟨m, hm, rfl⟩ := List.mem_iff_getElem.1 hx
  rw [hb m hm]; simp
/-- What RowAt tells, in memory of its own. -/
def RA (w : World) (rk : Int) (rp : List (Int × Int)) (rb : Bool) (e : Ending) (w' : World) : Prop :=
  ∃ a' cap', e = .returned (.tuple #[.agg #[.int .i64 rk, .slice a' rp.length cap'], .bool rb]) ∧ rp.length ≤ cap' ∧ ((a' = none ∧ rp = []) ∨ ∃ b, a' = some ⟨b, 0, none⟩ ∧ PtsOwn w' b rp) ∧ (∀ b off, a' = some ⟨b, off, none⟩ → w.heap.size ≤ b) ∧ Below w.heap.size w w'
theorem ra_no {w w' : World} {rk : Int} {rp : List (Int × Int)} {rb : Bool} (h1 : rk = 0) (h2 : rp = []) (h3 : rb = false) (hb : Below w.heap.size w w') : RA w rk rp rb (.returned (.tuple #[.agg #[.int .i64 0, .slice none 0 0], .bool false])) w' := by
  subst h1; subst h2; subst h3
  exact ⟨none, 0, rfl, Nat.le_refl _, .inl ⟨rfl, rfl⟩, fun _ _ e => (by cases e), hb⟩
/-- What shapeAt tells, in memory of the rows. -/
def SA (w : World) (rk : Int) (rp : List (Int × Int)) (rb : Bool) (e : Ending) (w' : World) : Prop :=
  ∃ a' cap', e = .returned (.tuple #[.agg #[.int .i64 rk, .slice a' rp.length cap'], .bool rb]) ∧ ((rb = false ∧ a' = none ∧ cap' = 0 ∧ rp = []) ∨ (rb = true ∧ 0 < rp.length ∧ rp.length ≤ 1099511627776 ∧ Pts w' a' rp)) ∧ Below w.heap.size w w'
set_option maxRecDepth 100000 in
set_option maxHeartbeats 4000000 in
theorem impl_shapeAt {N : Nat → Prop} (now : Int) (a : Option Addr) (cap : Nat) (rs : List Rw) (id t : Int) (w : World) (hm : rs.length ≤ 1099511627776) (h : Rws N w a rs) (hpos : ∀ m (h : m < rs.length), 0 < rs[m].2.2.2.2.length) : Calls Tryz.prog 33 #[.agg #[.int .i64 now, .slice a rs.length cap], .int .i64 id, .int .i64 t] w fun e w' => SA w (raK (rat rs id t)) (raP (rat rs id t)) (rat rs id t).isSome e w' := by
  have HR := hid h
  have HPOS := hid hpos
  clear h hpos
  obtain ⟨n, hn⟩ : ∃ n, n = rs.length := ⟨_, rfl⟩
  have HN := hid hn.symm
  rw [← hn] at hm ⊢
  clear hn
  have HY : Hid (∀ i (h : i < rs.length), (∀ m (h : m < rs.length), m < i → atb id t rs[m] = false) → atb id t rs[i] = true → raK (rat rs id t) = rs[i].2.2.2.1 ∧ raP (rat rs id t) = rs[i].2.2.2.2 ∧ (rat rs id t).isSome = true) := hid (fun i h hb hi => by rw [rat_some h hb hi]; exact ⟨rfl, rfl, rfl⟩)
  have HNO : Hid ((∀ m (h : m < rs.length), atb id t rs[m] = false) → raK (rat rs id t) = 0 ∧ raP (rat rs id t) = [] ∧ (rat rs id t).isSome = false) := hid (fun hb => by rw [rat_none hb]; exact ⟨rfl, rfl, rfl⟩)
  generalize raK (rat rs id t) = rk at *
  generalize raP (rat rs id t) = rp at *
  generalize (rat rs id t).isSome = rb at *
  go_enter Tryz.func33, Tryz.ntmps33
  go_upto_region 1 with fail
  have hBx : Below w.heap.size w ((w.alloc (.cells #[.int .i64 now, .slice a n cap] 26)).alloc (.cells #[.int .i64 0, .slice none 0 0] 37)) := balloc (balloc (Below.refl _ _) _) _
  have g0 := old_alloc (o' := .cells #[.int .i64 0, .slice none 0 0] 37) (new_alloc w w.heap.size (.cells #[.int .i64 now, .slice a n cap] 26) rfl)
  have g1 := new_alloc (w.alloc (.cells #[.int .i64 now, .slice a n cap] 26)) (w.heap.size + 1) (.cells #[.int .i64 0, .slice none 0 0] 37) (by simp)
  generalize (w.alloc (.cells #[.int .i64 now, .slice a n cap] 26)).alloc (.cells #[.int .i64 0, .slice none 0 0] 37) = W0 at *
  obtain ⟨d0, d1, _, _⟩ := cell2r g0
  go_wp2_with fail
  clear d0 d1 g0
  go_loopw [13] (fun ti wr => ∃ i : Nat, ti = .int .i64 i ∧ i ≤ n ∧ Hid (∀ m (h : m < rs.length), m < i → atb id t rs[m] = false) ∧ Hid (wr.heap[w.heap.size + 1]? = some (.cells #[.int .i64 0, .slice none 0 0] 37 (0, 0))) ∧ Hid (Below w.heap.size w wr)) (fun ti _ => n - (intOf ti).toNat)
  case atStart => exact ⟨0, rfl, Nat.zero_le _, hid (fun m h hh => absurd hh (by omega)), hid g1, hid hBx⟩
  case round =>
    clear g1 hBx
    obtain ⟨i, rfl, hi, HA, G1, HBW⟩ := hrel
    by_cases hlt : i < n
    · have c1 : (i : Int) < (n : Int) := by omega
      have hir : i < rs.length := by rw [HN.out]; exact hlt
      obtain ⟨b, o, rfl, hbs, a', cap', k0, k1, k2, k3, k4, k5, k6, k7, _⟩ := HR.out.at i hir
      replace k0 := keepcell HBW.out k0
      replace k1 := keepcell HBW.out k1
      replace k2 := keepcell HBW.out k2
      replace k3 := keepcell HBW.out k3
      replace k4 := keepcell HBW.out k4
      have HT := hid (show atb id t rs[i] = (decide (rs[i].1 = id) && thr (tr rs[i]) t) from rfl)
      have ST := hid (fun w' => impl_there rs[i] a' cap' t w')
      have HYES := hid (HY.out i hir HA.out)
      have HPI := hid (HPOS.out i hir)
      have HNEXT : Hid (atb id t rs[i] = false → ∀ m (h : m < rs.length), m < i + 1 → atb id t rs[m] = false) := hid (fun e1 m h hm => by
        by_cases e : m = i
        · subst e; exact e1
        · exact HA.out m h (by omega))
      have K7 := hid k7
      have K6 := hid k6
      clear k5 k6 k7
      unfold rwv at ST
      generalize atb id t rs[i] = q at HT HYES HNEXT
      generalize thr (tr rs[i]) t = q2 at *
      generalize rs[i].1 = id2 at *
      generalize rs[i].2.1 = fr at *
      generalize rs[i].2.2.1 = te at *
      generalize rs[i].2.2.2.1 = kd at *
      generalize rs[i].2.2.2.2 = ps at *
      go_upto_region 4 with fail
      have hBx : Below wr.heap.size wr (wr.alloc (.cells #[.int .i64 id2, .int .i64 fr, .int .i64 te, .int .i64 kd, .slice a' ps.length cap'] 55)) := balloc (Below.refl _ _) _
      have gx := new_alloc wr wr.heap.size (.cells #[.int .i64 id2, .int .i64 fr, .int .i64 te, .int .i64 kd, .slice a' ps.length cap'] 55) rfl
      have g1 := keepheapA hBx G1.out
      have hB := btrans HBW.out hBx
      clear k0 k1 k2 k3 k4 hBx
      generalize wr.alloc (.cells #[.int .i64 id2, .int .i64 fr, .int .i64 te, .int .i64 kd, .slice a' ps.length cap'] 55) = W1 at *
      generalize wr.heap.size = X at *
      obtain ⟨⟨x0, x1, x2, x3, x4⟩, _⟩ := cell5g gx
      cases qi : (id2 == id)
      · have hq : q = false := by rw [HT.out, show decide (id2 = id) = false by simpa using qi]; rfl
        have HF := hid (HNEXT.out hq)
        have HG := hid g1
        have HB2 := hid hB
        clear hq g1 hB gx
        go_wp2_with fail
        go_roundw
        case rel => exact ⟨i + 1, by go_num, by omega, HF, HG, HB2⟩
        case measure => simp [intOf]; omega
      have he : decide (id2 = id) = true := by simpa using qi
      have HGX := hid gx
      have HG := hid g1
      have HB2 := hid hB
      clear gx g1 hB
      cases q2
      · have HF := hid (HNEXT.out (by rw [HT.out, he]; rfl))
        go_wp2_with fail
        refine (ST.out _).mono ?_
        rintro e z ⟨rfl, hz⟩
        have HG1 := hid (keepheapA hz HG.out)
        have HBz := hid (btrans HB2.out hz)
        clear hz
        go_wp2_with fail
        go_roundw
        case rel => exact ⟨i + 1, by go_num, by omega, HF, HG1, HBz⟩
        case measure => simp [intOf]; omega
      · have HF := hid (HYES.out (by rw [HT.out, he]; rfl))
        go_wp2_with fail
        refine (ST.out _).mono ?_
        rintro e z ⟨rfl, hz⟩
        have gx := keepheapA hz HGX.out
        have g1 := keepheapA hz HG.out
        have HBz := hid (btrans HB2.out hz)
        clear hz x0 x1 x2 x3 x4
        obtain ⟨⟨x0, x1, x2, x3, x4⟩, _⟩ := cell5g gx
        obtain ⟨v0, v1, w0, w1⟩ := cell2r g1
        go_wp2_with fail
        have gF := set2r g1 (.int .i64 kd) (.slice a' ps.length cap')
        have hB3 : Below z.heap.size z z := Below.refl _ _
        have bF := bset (bset HBz.out (q := w.heap.size + 1) (k := 0) (by omega) (.int .i64 kd)) (q := w.heap.size + 1) (k := 1) (by omega) (.slice a' ps.length cap')
        have pF : Pts ((z.setCell ⟨w.heap.size + 1, 0, none⟩ (.int .i64 kd)).setCell ⟨w.heap.size + 1, 1, none⟩ (.slice a' ps.length cap')) a' ps := K7.out.below bF
        generalize (z.setCell ⟨w.heap.size + 1, 0, none⟩ (.int .i64 kd)).setCell ⟨w.heap.size + 1, 1, none⟩ (.slice a' ps.length cap') = wf at *
        obtain ⟨z0, z1, _, _⟩ := cell2r gF
        obtain ⟨e1, e2, e3⟩ := HF.out
        subst e1; subst e2; subst e3
        exact bodyPost_ret (v := .tuple #[.agg #[.int .i64 _, .slice a' _ cap'], .bool true]) (by simp [results, Tryz.results33, go_sem, z0, z1]) rfl ⟨a', cap', rfl, .inr ⟨rfl, HPI.out, K6.out, pF⟩, bF⟩
    · have HF := hid (HNO.out (fun m hm1 => HA.out m hm1 (by rw [HN.out] at hm1; omega)))
      have c1 : (n : Int) ≤ (i : Int) := by omega
      obtain ⟨v0, v1, w0, w1⟩ := cell2r G1.out
      go_wp2_with fail
      have gF := set2r G1.out (.int .i64 0) (.slice none 0 0)
      have bF := bset (bset HBW.out (q := w.heap.size + 1) (k := 0) (by omega) (.int .i64 0)) (q := w.heap.size + 1) (k := 1) (by omega) (.slice none 0 0)
      generalize (wr.setCell ⟨w.heap.size + 1, 0, none⟩ (.int .i64 0)).setCell ⟨w.heap.size + 1, 1, none⟩ (.slice none 0 0) = wf at *
      obtain ⟨z0, z1, _, _⟩ := cell2r gF
      obtain ⟨e1, e2, e3⟩ := HF.out
      subst e1; subst e2; subst e3
      exact bodyPost_ret (v := .tuple #[.agg #[.int .i64 0, .slice none 0 0], .bool false]) (by simp [results, Tryz.results33, go_sem, z0, z1]) rfl ⟨none, 0, rfl, .inl ⟨rfl, rfl, rfl, rfl⟩, bF⟩
end Go.Proofs.YtninciflfolenaaGreat
