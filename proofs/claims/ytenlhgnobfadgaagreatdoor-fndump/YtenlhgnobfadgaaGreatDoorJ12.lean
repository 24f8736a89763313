/- Texts of stores, joined: Ci, Ca, Ta. -/
import Derived.Test.YtenlhgnobfadgaaGreatDoorRwH
import Derived.Test.YtenlhgnobfadgaaGreatDoorShelfI
import Derived.Test.YtenlhgnobfadgaaGreatDoorShelfC
import Derived.Test.YtenlhgnobfadgaaGreatDoorJ9
import Derived.Deep.RegionHeld3
import Derived.Lib.AppendZeros
set_option maxRecDepth 100000
set_option maxHeartbeats 4000000
set_option linter.unusedSimpArgs false
set_option linter.unusedVariables false
namespace Go.Proofs.YtenlhgnobfadgaaGreatDoor
open Go.RowKit
def srt (zs : List Int) : List Int := zs.mergeSort (fun x y => decide (x ≤ y))
theorem srt_len (zs : List Int) : (srt zs).length = zs.length := (List.mergeSort_perm zs _).length_eq
def IRow (B : Nat) (w : World) (v : Value) (zs : List Int) : Prop := ∃ g cap, v = .slice (some ⟨g, 0, none⟩) zs.length cap ∧ g < w.heap.size ∧ zs.length ≤ cap ∧ w.ownsRow B 3 1 (.slice (some ⟨g, 0, none⟩) zs.length cap) zs.length (fli zs)
theorem own_mono {B B' : Nat} {w : World} {e : TypeId} {sz : Nat} {v : Value} {n : Nat} {xs : List Value} (h : w.ownsRow B e sz v n xs) (hb : B' ≤ B) : w.ownsRow B' e sz v n xs := by
 refine ⟨h.1, ?_⟩
 rcases h.2 with q | ⟨g, c, cur, e1, q1, q2, q3⟩
 ·exact .inl q
 ·exact .inr ⟨g, c, cur, e1, by omega, q2, q3⟩
theorem irow_of {B g cap n : Nat} {w : World} {zs : List Int} (h : w.ownsRow B 3 1 (.slice (some ⟨g, 0, none⟩) n cap) n (fli zs)) (hn : zs.length = n) : IRow B w (.slice (some ⟨g, 0, none⟩) n cap) zs := by
 subst hn
 obtain ⟨h1, h2, h3⟩ := own_I h rfl
 exact ⟨g, cap, rfl, h3.lt g 0 rfl, h2, h⟩
theorem IRow.below {B : Nat} {w w' : World} {v : Value} {zs : List Int} (h : IRow B w v zs) (H : Below w.heap.size w w') : IRow B w' v zs := by
 obtain ⟨g, cap, rfl, h1, h2, h3⟩ := h
 refine ⟨g, cap, rfl, Nat.lt_of_lt_of_le h1 H.size, h2, h3.1, ?_⟩
 rcases h3.2 with ⟨q, _⟩ | ⟨g', c', cur, e, q1, q2, q3⟩
 ·cases q
 ·cases e
  exact .inr ⟨g, cap, cur, rfl, q1, by rw [H.block g h1]; exact q2, q3⟩
theorem make_ints (n : Nat) (hn : n ≤ 1099511627776) (w : World) : (Instr.makeSlice 37 (.int .i64 0) (.int .i64 n)).run Tryz.prog w = .ok (.slice (some ⟨w.heap.size, 0, none⟩) 0 n) (w.alloc (.cells (madeCells #[.int .i64 0] n) 3)) := by
 obtain ⟨i0, hi, hz0, hz1, hz2⟩ := info_parts Tryz.infoI
 have := run_make (P := Tryz.prog) w 37 3 i0 _ Tryz.underlying37 hi hz0 .i64 .i64 0 n (by omega) (by omega) (by rw [hz2]; omega) (by omega)
 rw [hz1, Nat.mul_one] at this
 exact this
theorem sort_ids (B g c : Nat) (zs : List Int) (w : World) (hm : zs.length ≤ 1099511627776) (hgl : g < w.heap.size) (h : w.ownsRow B 3 1 (.slice (some ⟨g, 0, none⟩) zs.length c) zs.length (fli zs)) : Calls Tryz.prog 49 #[.slice (some ⟨g, 0, none⟩) zs.length c] w fun e w' => e = .returned (.tuple #[]) ∧ OwnI w' (some ⟨g, 0, none⟩) (srt zs) ∧ w.grownBy w' (some g) := by
 obtain ⟨_, _, hI⟩ := own_I h rfl
 obtain ⟨b, e, h1, h2, h3⟩ : ∃ b, some (⟨g, 0, none⟩ : Addr) = some ⟨b, 0, none⟩ ∧ b < w.heap.size ∧ IAt w b 0 zs ∧ w.there b 0 zs.length := by
  rcases hI with ⟨q, _⟩ | h
  ·cases q
  ·exact h
 cases e
 have hH : Go.Sort.Holds (Value.int .i64) w g 0 zs.toArray := by
  intro j hj
  simp at hj
  refine ⟨?_, ?_⟩
  ·have := h2 j hj
   rw [this]
   simp [List.getD_eq_getElem?_getD, List.getElem?_eq_getElem hj, getElem!_pos, hj]
  ·exact (h3 j hj).2
 have hc := AnyM.slices_Sort_int Tryz.sortInt g 0 c zs w hH hgl (by omega)
 change Calls Tryz.prog 49 _ _ _ at hc
 refine hc.mono ?_
 rintro e w' ⟨rfl, q, os, rfl⟩
 have hl : (srt zs).toArray.size = zs.toArray.size := by simp [srt_len]
 have hK := Go.Sort.holds_grow (Value.int .i64) _ os g 0 _ (by simpa [Go.Sort.putRow, Go.Sort.mapBlock, Go.Sort.ahead] using hgl) (Go.Sort.holds_putRow (Value.int .i64) (Go.Sort.ahead w q) g 0 zs.toArray (srt zs).toArray (Go.Sort.holds_ahead _ w q g 0 _ hH) hl)
 have hgr : w.grownBy (Go.Sort.grow (Go.Sort.putRow (Value.int .i64) (Go.Sort.ahead w q) g 0 (srt zs).toArray) os) (some g) := by
  refine ⟨rfl, rfl, rfl, by simp [Go.Sort.putRow, Go.Sort.mapBlock, Go.Sort.ahead, Go.Sort.grow], fun k hk hne => ?_⟩
  rw [Go.Sort.heap_grow_old _ _ (by simpa [Go.Sort.putRow, Go.Sort.mapBlock, Go.Sort.ahead] using hk)]
  have : g ≠ k := fun e => hne (by rw [e])
  simp [Go.Sort.putRow, Go.Sort.mapBlock, Go.Sort.ahead, Array.getElem?_modify, this]
 refine ⟨rfl, .inr ⟨g, rfl, Nat.lt_of_lt_of_le hgl hgr.size, fun k hk => ?_, fun j hj => ?_⟩, hgr⟩
 ·have := (hK k (by simpa using hk)).1
  rw [show (zs.mergeSort fun x y => decide (x ≤ y)) = srt zs from rfl]
  rw [this]
  simp [List.getD_eq_getElem?_getD, List.getElem?_eq_getElem hk, getElem!_pos, hk]
 ·obtain ⟨q1, q2⟩ := hK j (by simpa using hj)
  exact ⟨by rw [show (zs.mergeSort fun x y => decide (x ≤ y)) = srt zs from rfl, q1]; rfl, q2⟩
theorem keeps_len {zs : List Int} : (Go.Lib.compact zs).length = zs.length ↔ ∀ j, j < zs.length → (j = 0 ∨ zs.getD j 0 ≠ zs.getD (j - 1) 0) := by
 unfold Go.Lib.compact Go.Lib.compactUpTo
 rw [List.length_map]
 have hg : ∀ j, j < zs.length → zs.toArray[j]! = zs.getD j 0 := fun j hj => by simp [List.getD_eq_getElem?_getD, List.getElem?_eq_getElem hj, getElem!_pos, hj]
 constructor
 ·intro h j hj
  have h2 : ((List.range zs.length).filter (Go.Lib.keeps zs.toArray)).length = (List.range zs.length).length := by rw [h, List.length_range]
  have h3 := List.length_filter_eq_length_iff.1 h2 j (List.mem_range.2 hj)
  unfold Go.Lib.keeps at h3
  rw [decide_eq_true_eq, hg j hj, hg (j - 1) (by omega)] at h3
  exact h3
 ·intro h
  have h2 : ∀ j ∈ List.range zs.length, Go.Lib.keeps zs.toArray j = true := fun j hj => by
   have hj' := List.mem_range.1 hj
   unfold Go.Lib.keeps
   rw [decide_eq_true_eq, hg j hj', hg (j - 1) (by omega)]
   exact h j hj'
  have := List.length_filter_eq_length_iff.2 h2
  rw [this, List.length_range]
theorem compact_nodup {zs : List Int} (hs : zs.Pairwise (· ≤ ·)) : (Go.Lib.compact zs).length = zs.length ↔ zs.Nodup := by
 rw [keeps_len]
 have hg : ∀ j (h : j < zs.length), zs.getD j 0 = zs[j] := fun j hj => by simp [List.getD_eq_getElem?_getD, List.getElem?_eq_getElem hj]
 constructor
 ·intro h
  rw [List.Nodup, List.pairwise_iff_getElem]
  intro i j hi hj hij
  have h1 : ∀ k, i + k < zs.length → 0 < k → zs[i] < zs.getD (i + k) 0 := by
   intro k
   induction k with
   | zero => intro _ q; omega
   | succ k ih =>
    intro hk _
    have h2 := h (i + (k + 1)) hk
    have h3 : zs.getD (i + (k + 1)) 0 ≠ zs.getD (i + k) 0 := by rcases h2 with h2 | h2; omega; exact h2
    have h4 : zs[i + k]'(by omega) ≤ zs[i + (k + 1)]'hk := by
     have := List.pairwise_iff_getElem.1 hs (i + k) (i + (k + 1)) (by omega) hk (by omega)
     exact this
    rw [hg _ hk]
    rw [hg _ hk, hg (i + k) (by omega)] at h3
    by_cases e : k = 0
    ·subst e; simp at h3 h4 ⊢; omega
    ·have := ih (by omega) (by omega)
     rw [hg (i + k) (by omega)] at this
     omega
  have := h1 (j - i) (by omega) (by omega)
  rw [hg _ (by omega)] at this
  simp only [show i + (j - i) = j by omega] at this
  omega
 ·intro h j hj
  by_cases e : j = 0
  ·exact .inl e
  ·right
   rw [hg j hj, hg (j - 1) (by omega)]
   have := List.pairwise_iff_getElem.1 h (j - 1) j (by omega) hj (by omega)
   exact fun q => this q.symm
theorem srt_sorted (zs : List Int) : (srt zs).Pairwise (· ≤ ·) := by
 have := List.pairwise_mergeSort (le := fun x y : Int => decide (x ≤ y)) (fun a b c => by simp; omega) (fun a b => by simp; omega) zs
 exact this.imp (fun h => by simpa using h)
theorem srt_perm (zs : List Int) : (srt zs).Perm zs := List.mergeSort_perm zs _
theorem compact_srt (zs : List Int) : (Go.Lib.compact (srt zs)).length = zs.length ↔ zs.Nodup := by
 rw [show zs.length = (srt zs).length from (srt_perm zs).length_eq.symm, compact_nodup (srt_sorted zs)]
 exact (srt_perm zs).nodup_iff
theorem compact_c (g c : Nat) (zs : List Int) (w : World) (hm : zs.length ≤ 1099511627776) (hc : zs.length ≤ c) (h : OwnI w (some ⟨g, 0, none⟩) zs) : Calls Tryz.prog 89 #[.slice (some ⟨g, 0, none⟩) zs.length c] w fun e w' => e = .returned (.slice (some ⟨g, 0, none⟩) (Go.Lib.compact zs).length c) ∧ w.grownBy w' (some g) := by
 obtain ⟨b, e, h1, h2, h3⟩ : ∃ b, some (⟨g, 0, none⟩ : Addr) = some ⟨b, 0, none⟩ ∧ b < w.heap.size ∧ IAt w b 0 zs ∧ w.there b 0 zs.length := by
  rcases h with ⟨q, _⟩ | h
  ·cases q
  ·exact h
 cases e
 have hH : Go.Sort.Holds (Value.int .i64) w g 0 zs.toArray := by
  intro j hj
  simp at hj
  refine ⟨?_, ?_⟩
  ·have := h2 j hj
   rw [this]
   simp [List.getD_eq_getElem?_getD, List.getElem?_eq_getElem hj, getElem!_pos, hj]
  ·exact (h3 j hj).2
 have hcc := Any.slices_Compact_int Tryz.laysNm220 g 0 c zs w hH (by omega) hc
 change Calls Tryz.prog 89 _ _ _ at hcc
 refine hcc.mono ?_
 rintro e w' ⟨rfl, q, rfl⟩
 refine ⟨rfl, ⟨rfl, rfl, rfl, by simp [Go.Sort.putRow, Go.Sort.mapBlock, Go.Sort.ahead], fun k hk hne => ?_⟩⟩
 have : g ≠ k := fun e => hne (by rw [e])
 simp [Go.Sort.putRow, Go.Sort.mapBlock, Go.Sort.ahead, Array.getElem?_modify, this]
theorem compact_le (zs : List Int) : (Go.Lib.compact zs).length ≤ zs.length := by
 unfold Go.Lib.compact Go.Lib.compactUpTo
 rw [List.length_map]
 exact Nat.le_trans (List.length_filter_le _ _) (by rw [List.length_range]; exact Nat.le_refl _)
def zsh (kd : Int) (np : Nat) : Bool := decide (kd = 0) && decide (np = 0)
def cgb (x : Ch) : Bool := idb x.1 && (if x.2.1 = true then zsh x.2.2.1 x.2.2.2.length else shok x.2.2.1 x.2.2.2)
def cgs (xs : List Ch) : Bool := xs.all cgb && decide (xs.map (fun x => x.1)).Nodup
def rids (xs : List Ch) : List Int := (xs.filter cgb).map (fun x => x.1)
theorem rids_len (xs : List Ch) : (rids xs).length ≤ xs.length := by
 unfold rids; rw [List.length_map]; exact List.length_filter_le _ _
theorem rids_next {xs : List Ch} {i : Nat} (h : i < xs.length) : rids (xs.take (i + 1)) = rids (xs.take i) ++ (if cgb xs[i] = true then [xs[i].1] else []) := by
 have e : xs.take (i + 1) = xs.take i ++ [xs[i]] := by rw [List.take_add_one, List.getElem?_eq_getElem h]; rfl
 unfold rids
 rw [e, List.filter_append, List.map_append]
 congr 1
 by_cases q : cgb xs[i] = true <;> simp [q]
theorem rids_cgs (xs : List Ch) : (Go.Lib.compact (srt (rids xs))).length = xs.length ↔ cgs xs = true := by
 have h1 := compact_le (srt (rids xs))
 rw [srt_len] at h1
 have h2 := rids_len xs
 unfold cgs
 rw [Bool.and_eq_true, decide_eq_true_eq, List.all_eq_true]
 constructor
 ·intro h
  have h3 : (xs.filter cgb).length = xs.length := by unfold rids at h1 h2; rw [List.length_map] at h1 h2; unfold rids at h; omega
  have h4 := List.length_filter_eq_length_iff.1 h3
  have h5 : rids xs = xs.map (fun x => x.1) := by unfold rids; rw [List.filter_eq_self.2 h4]
  refine ⟨h4, ?_⟩
  rw [← h5]
  exact (compact_srt (rids xs)).1 (by omega)
 ·rintro ⟨h4, hn⟩
  have h5 : rids xs = xs.map (fun x => x.1) := by unfold rids; rw [List.filter_eq_self.2 h4]
  rw [← h5] at hn
  rw [(compact_srt (rids xs)).2 hn, h5, List.length_map]
theorem impl_zsh (kd : Int) (a : Option Addr) (np cap : Nat) (w : World) : Calls Tryz.prog 124 #[.agg #[.int .i64 kd, .slice a np cap]] w fun e w' => e = .returned (.bool (zsh kd np)) ∧ Below w.heap.size w w' := by
 unfold zsh
 by_cases h : kd = 0
 ·subst h
  by_cases h2 : np = 0
  ·subst h2
   go_enter Tryz.func124, Tryz.ntmps124
   go_wp2_with fail
   go_ret
   exact ⟨by simp, balloc (Below.refl _ _) _⟩
  ·have h3 : ¬ ((np : Int) = 0) := by omega
   go_enter Tryz.func124, Tryz.ntmps124
   go_wp2_with fail
   go_ret
   exact ⟨by simp [h2], balloc (Below.refl _ _) _⟩
 ·go_enter Tryz.func124, Tryz.ntmps124
  go_wp2_with fail
  go_ret
  exact ⟨by simp [h], balloc (Below.refl _ _) _⟩
theorem impl_cgb (x : Ch) (a' : Option Addr) (cap' : Nat) (w : World) (hm : x.2.2.2.length ≤ 1099511627776) (hc : x.2.2.2.length ≤ cap') (h : Pts w a' x.2.2.2) : Calls Tryz.prog 88 #[chv x a' cap'] w fun e w' => e = .returned (.bool (cgb x)) ∧ Below w.heap.size w w' := by
 obtain ⟨id2, gn, kd, ps⟩ := x
 unfold chv
 simp only at *
 have HD := hid (show cgb (id2, gn, kd, ps) = (idb id2 && (if gn = true then zsh kd ps.length else shok kd ps)) from rfl)
 have HS := hid (fun (W : World) (hb : Below w.heap.size w W) => impl_ShapeOk kd a' cap' ps W hm hc (h.below hb))
 unfold shv at HS
 clear h
 generalize cgb (id2, gn, kd, ps) = cb at *
 generalize shok kd ps = sk at *
 generalize ps.length = np at *
 have hB : Below w.heap.size w (w.alloc (.cells #[.int .i64 id2, .bool gn, .int .i64 kd, .slice a' np cap'] 50)) := balloc (Below.refl _ _) _
 have g0 := new_alloc w w.heap.size (.cells #[.int .i64 id2, .bool gn, .int .i64 kd, .slice a' np cap'] 50) rfl
 go_enter Tryz.func88, Tryz.ntmps88
 go_upto_region 1 with fail
 generalize w.alloc (.cells #[.int .i64 id2, .bool gn, .int .i64 kd, .slice a' np cap'] 50) = W at *
 obtain ⟨⟨d0, d1, d2, d3⟩, _⟩ := cellk4 g0
 cases gn
 ·go_wp2_with fail
  refine (impl_id id2 _).mono ?_
  rintro e z ⟨rfl, hz⟩
  replace hz := hz.symm
  subst hz
  cases hib : idb id2
  ·have hq : cb = false := by rw [HD.out, hib]; rfl
   subst hq
   clear hib
   go_wp2_with fail
   go_ret
   exact ⟨rfl, hB⟩
  ·have hq : cb = sk := by rw [HD.out, hib]; simp
   clear hib HD
   subst hq
   go_wp2_with fail
   refine (HS.out _ hB).mono ?_
   rintro e y ⟨rfl, hy⟩
   replace hB := btrans hB hy
   clear hy
   go_wp2_with fail
   go_ret
   exact ⟨rfl, hB⟩
 ·go_wp2_with fail
  refine (impl_id id2 _).mono ?_
  rintro e z ⟨rfl, hz⟩
  replace hz := hz.symm
  subst hz
  cases hib : idb id2
  ·have hq : cb = false := by rw [HD.out, hib]; rfl
   subst hq
   clear hib
   go_wp2_with fail
   go_ret
   exact ⟨rfl, hB⟩
  ·have hq : cb = zsh kd np := by rw [HD.out, hib]; simp
   clear hib HD
   subst hq
   go_wp2_with fail
   refine (impl_zsh kd a' np cap' _).mono ?_
   rintro e y ⟨rfl, hy⟩
   replace hB := btrans hB hy
   clear hy
   go_wp2_with fail
   go_ret
   exact ⟨rfl, hB⟩
theorem cg_1 (x : Ch) (a' : Option Addr) (cap' : Nat) (w : World) (hm : x.2.2.2.length ≤ 1099511627776) (hc : x.2.2.2.length ≤ cap') (h : Pts w a' x.2.2.2) : Calls Tryz.prog 87 #[chv x a' cap'] w fun e w' => e = .returned (.tuple #[.int .i64 x.1, .bool (cgb x)]) ∧ Below w.heap.size w w' := by
 have HC := hid (fun (W : World) (hb : Below w.heap.size w W) => impl_cgb x a' cap' W hm hc (h.below hb))
 clear h
 obtain ⟨id2, gn, kd, ps⟩ := x
 unfold chv at *
 simp only at *
 generalize cgb (id2, gn, kd, ps) = cb at *
 generalize ps.length = np at *
 have hB : Below w.heap.size w (w.alloc (.cells #[.int .i64 id2, .bool gn, .int .i64 kd, .slice a' np cap'] 50)) := balloc (Below.refl _ _) _
 have g0 := new_alloc w w.heap.size (.cells #[.int .i64 id2, .bool gn, .int .i64 kd, .slice a' np cap'] 50) rfl
 go_enter Tryz.func87, Tryz.ntmps87
 go_upto_region 1 with fail
 generalize w.alloc (.cells #[.int .i64 id2, .bool gn, .int .i64 kd, .slice a' np cap'] 50) = W at *
 obtain ⟨⟨d0, d1, d2, d3⟩, _⟩ := cellk4 g0
 have HB := hid hB
 go_region_held3 (fun w' => w'.cell? ⟨w.heap.size, 0, none⟩ = some (.int .i64 id2) ∧ w'.cell? ⟨w.heap.size, 1, none⟩ = some (.bool gn) ∧ w'.cell? ⟨w.heap.size, 2, none⟩ = some (.int .i64 kd) ∧ w'.cell? ⟨w.heap.size, 3, none⟩ = some (.slice a' np cap')) ((go_split_ands; (repeat' apply And.intro) <;> (with_reducible repeat (first | assumption | refine keepdrew ?_ | refine keepcell (by assumption) ?_ | refine keepalloc ?_ _))))
  (first
   | (go_at_call 88; refine (HC.out _ (bdrew HB.out)).mono ?_; rintro e y ⟨rfl, hy⟩))
 go_wp2_with fail
 exact bodyPost_ret (v := .tuple #[.int .i64 id2, .bool cb]) (by simp [results, Tryz.results87, go_sem]) rfl ⟨rfl, by (with_reducible repeat (first | exact Below.refl _ _ | assumption | (refine btrans ?_ (by assumption)) | refine bdrew ?_ | refine balloc ?_ _))⟩
theorem kept_cg {N : Nat → Prop} (a : Option Addr) (cap : Nat) (cs : List Ch) (w : World) (hm : cs.length ≤ 1099511627776) (h : Chs N 1099511627776 w a cs) : Calls Tryz.prog 86 #[.slice a cs.length cap, .func (.func 87) #[] #[]] w fun e w' => ∃ v, e = .returned v ∧ IRow w.heap.size w' v (rids cs) ∧ Below w.heap.size w w' := by
 obtain ⟨i0, hi0, hz0, hz1, hz2⟩ := info_parts Tryz.infoI
 have HR := hid h
 clear h
 have hmk := make_ints cs.length hm
 obtain ⟨n, hn⟩ : ∃ n, n = cs.length := ⟨_, rfl⟩
 have HN := hid hn.symm
 rw [← hn] at hm hmk ⊢
 clear hn
 have hB0 : Below w.heap.size w (w.alloc (.cells (madeCells #[.int .i64 0] n) 3)) := balloc (Below.refl _ _) _
 have HI : Hid (IRow w.heap.size (w.alloc (.cells (madeCells #[.int .i64 0] n) 3)) (.slice (some ⟨w.heap.size, 0, none⟩) 0 n) []) := hid (by
  have := World.ownsRow_made (base := w.heap.size) (e := 3) (size := 1) w (madeCells #[.int .i64 0] n) n (Nat.le_refl _) (by unfold maxLen; omega) (by rw [size_madeCells, Nat.mul_one])
  exact ⟨w.heap.size, n, rfl, by simp, Nat.zero_le _, by simpa [fli] using this⟩)
 go_enter Tryz.func86, Tryz.ntmps86
 go_upto_region 2 with fail
 generalize w.alloc (.cells (madeCells #[.int .i64 0] n) 3) = W0 at *
 clear hmk
 go_wp2_with fail
 go_loopw [5, 15] (fun tv ti wr => ∃ i : Nat, ti = .int .i64 i ∧ i ≤ n ∧ Hid (IRow w.heap.size wr tv (rids (cs.take i))) ∧ Hid (Below w.heap.size w wr)) (fun _ ti _ => n - (intOf ti).toNat)
 case atStart => exact ⟨0, rfl, Nat.zero_le _, HI, hid hB0⟩
 case round =>
  clear HI hB0
  obtain ⟨i, rfl, hi, HV, HBW⟩ := hrel
  by_cases hlt : i < n
  ·have d1 : (i : Int) < (n : Int) := by omega
   have hir : i < cs.length := by rw [HN.out]; exact hlt
   obtain ⟨b, o, rfl, hbs, a', cap', k0, k1, k2, k3, k4, k5, k6, _⟩ := (HR.out.below HBW.out).at i hir
   have hbx : Below wr.heap.size wr (wr.alloc (.cells #[.int .i64 cs[i].1, .bool cs[i].2.1, .int .i64 cs[i].2.2.1, .slice a' cs[i].2.2.2.length cap'] 50)) := balloc (Below.refl _ _) _
   have HX := hid (rids_next hir)
   have hil : (rids (cs.take i)).length ≤ i := by have := rids_len (cs.take i); simp at this; omega
   have HT := hid (fun (W : World) (hb : Below wr.heap.size wr W) => cg_1 cs[i] a' cap' W k5 k4 (k6.below hb))
   unfold chv at HT
   clear k4 k5 k6
   generalize cgb cs[i] = cb at *
   generalize cs[i].1 = id2 at *
   generalize cs[i].2.1 = gn at *
   generalize cs[i].2.2.1 = kd at *
   generalize cs[i].2.2.2.length = np at *
   generalize rids (cs.take i) = zs at *
   obtain ⟨g, c, rfl, hgl, hgc, hown⟩ := HV.out
   have HO := hid hown
   clear hown HV
   go_upto_region 5 with fail
   have gx := new_alloc wr wr.heap.size (.cells #[.int .i64 id2, .bool gn, .int .i64 kd, .slice a' np cap'] 50) rfl
   have HI1 := hid ((irow_of HO.out rfl).below hbx)
   have HB1 := hid (btrans HBW.out hbx)
   have HT1 := hid (HT.out _ hbx)
   clear k0 k1 k2 k3 hbx HT
   generalize wr.alloc (.cells #[.int .i64 id2, .bool gn, .int .i64 kd, .slice a' np cap'] 50) = W1 at *
   generalize wr.heap.size = X at *
   obtain ⟨⟨x0, x1, x2, x3⟩, _⟩ := cellk4 gx
   clear gx
   go_wp2_with fail
   refine HT1.out.mono ?_
   rintro e z ⟨rfl, hz⟩
   have HBz := hid (btrans HB1.out hz)
   have HIz := hid (HI1.out.below hz)
   clear hz x0 x1 x2 x3 HT1 HI1 HB1
   cases cb
   ·have HV2 : Hid (IRow w.heap.size z (.slice (some ⟨g, 0, none⟩) zs.length c) (rids (cs.take (i + 1)))) := hid (by rw [HX.out]; simpa using HIz.out)
    go_wp2_with fail
    go_roundw
    case rel => exact ⟨i + 1, by go_num, by omega, HV2, HBz⟩
    case measure => simp [intOf]; omega
   ·have HX2 : Hid (rids (cs.take (i + 1)) = zs ++ [id2]) := hid (by rw [HX.out]; simp)
    obtain ⟨g', c', e', hgl', hgc', hown'⟩ := HIz.out
    cases e'
    have hzw := HBz.out.size
    clear HX HIz
    go_wp2_with (at_builtin; refine wpList_append_lies _ rfl (.tmp 26) (.tmp 28) 37 rfl w.heap.size 3 i0 _ 1 8 Tryz.underlying37 hi0 hz0 hz1 hz2 rfl (by decide) _ _ _ rfl (hown'.alloc _) ⟨z.heap.size, 0, none⟩ 1 1 [.int .i64 id2] rfl rfl (World.news_of_block (cs := #[.int .i64 id2]) (t := 3) (fr := (0, 0)) (heap_alloc_new z _)) (by simp [Value.oneCell']) (by omega) (by unfold maxLen; omega) (by omega) (by simp; omega) (z.heap.size + 1) (by simp) ?_; intro gg cp w2 hown2 hgrow hat hlt2)
    go_roundw
    case rel =>
     refine ⟨i + 1, by go_num, by omega, hid ?_, hid ?_⟩
     ·rw [HX2.out]
      exact irow_of (by simpa [fli] using hown2) (by simp)
     ·exact Below.grown (balloc HBz.out _) hgrow (by simp; omega) (fun k e => (hown'.lt k e).1)
    case measure => simp [intOf]; omega
  ·have d1 : (n : Int) ≤ (i : Int) := by omega
   have hin : i = cs.length := by have := HN.out; omega
   have HF : Hid (IRow w.heap.size wr u5 (rids cs)) := hid (by have := HV.out; rw [hin, List.take_length] at this; exact this)
   clear hin HV
   go_wp2_with fail
   go_ret
   exact ⟨_, rfl, HF.out, HBW.out⟩
theorem impl_cgs {N : Nat → Prop} (a : Option Addr) (cap : Nat) (cs : List Ch) (w : World) (hm : cs.length ≤ 1099511627776) (h : Chs N 1099511627776 w a cs) : Calls Tryz.prog 52 #[.slice a cs.length cap] w fun e w' => e = .returned (.bool (cgs cs)) ∧ Below w.heap.size w w' := by
 have HK := hid (kept_cg a cap cs w hm h)
 have HCS := hid (rids_cgs cs)
 have hTl : (rids cs).length ≤ 1099511627776 := Nat.le_trans (rids_len cs) hm
 clear h
 generalize cgs cs = sk at *
 generalize rids cs = T at *
 generalize cs.length = m at *
 go_enter Tryz.func52, Tryz.ntmps52
 go_wp2_with fail
 refine HK.out.mono ?_
 rintro e y ⟨v, rfl, hv, hy⟩
 obtain ⟨g, c, rfl, hgl, hgc, hown⟩ := hv
 have hgB : w.heap.size ≤ g := (hown.lt g rfl).1
 have HS := hid (sort_ids w.heap.size g c T y hTl hgl hown)
 have hB := hy
 clear hy hown HK
 go_wp2_with fail
 refine HS.out.mono ?_
 rintro e z ⟨rfl, hoz, hgz⟩
 have hB2 := bgrown hB hgz hgB
 have hsl : (srt T).length = T.length := srt_len T
 have HC := hid (compact_c g c (srt T) z (by omega) (by omega) hoz)
 rw [hsl] at HC
 clear HS hoz hgz hsl
 generalize (Go.Lib.compact (srt T)).length = cl at *
 generalize T.length = tl at *
 go_wp2_with fail
 refine HC.out.mono ?_
 rintro e x ⟨rfl, hgx⟩
 have hB3 := bgrown hB2 hgx hgB
 clear hgx HC
 cases sk
 ·have hcl : ¬ ((cl : Int) = (m : Int)) := fun q => by have := HCS.out.1 (by omega); cases this
  go_wp2_with fail
  go_ret
  exact ⟨by first | rfl | simp [hcl], hB3⟩
 ·have hcl := HCS.out.2 rfl
  subst hcl
  go_wp2_with fail
  go_ret
  exact ⟨by first | rfl | simp, hB3⟩
def endR (t id : Int) (r : Rw) : Rw := if r.1 = id ∧ r.2.2.1 = 0 then (r.1, r.2.1, t, r.2.2.2.1, r.2.2.2.2) else r
def newR (t : Int) (c : Ch) : Rw := (c.1, t, 0, c.2.2.1, c.2.2.2)
def stp (t : Int) (rs : List Rw) (c : Ch) : List Rw := rs.map (endR t c.1) ++ (if c.2.1 = true then [] else [newR t c])
def apl (t : Int) (rs : List Rw) (cs : List Ch) : List Rw := cs.foldl (stp t) rs
def bgn (cs : List Ch) : Nat := (cs.filter (fun c => !c.2.1)).length
theorem endR_id (t id : Int) (r : Rw) : (endR t id r).1 = r.1 := by unfold endR; split <;> rfl
theorem endR_fr (t id : Int) (r : Rw) : (endR t id r).2.1 = r.2.1 := by unfold endR; split <;> rfl
theorem endR_ne {t id : Int} {r : Rw} (h : r.1 ≠ id) : endR t id r = r := by unfold endR; rw [if_neg (fun q => h q.1)]
theorem endR_to {t id : Int} {r : Rw} (h : r.2.2.1 ≠ 0) : endR t id r = r := by unfold endR; rw [if_neg (fun q => h q.2)]
theorem endR_yes {t id : Int} {r : Rw} (h1 : r.1 = id) (h2 : r.2.2.1 = 0) : endR t id r = (r.1, r.2.1, t, r.2.2.2.1, r.2.2.2.2) := by unfold endR; rw [if_pos ⟨h1, h2⟩]
theorem stp_len (t : Int) (rs : List Rw) (c : Ch) : (stp t rs c).length = rs.length + (if c.2.1 = true then 0 else 1) := by
 unfold stp; cases c.2.1 <;> simp
theorem apl_len (t : Int) : ∀ (cs : List Ch) (rs : List Rw), (apl t rs cs).length = rs.length + bgn cs
 | [], rs => by simp [apl, bgn]
 | c :: cs, rs => by
  show (apl t (stp t rs c) cs).length = _
  rw [apl_len t cs, stp_len]
  unfold bgn
  cases h : c.2.1 <;> simp [h] <;> omega
theorem apl_next (t : Int) (rs : List Rw) (cs : List Ch) {i : Nat} (h : i < cs.length) : apl t rs (cs.take (i + 1)) = stp t (apl t rs (cs.take i)) cs[i] := by
 unfold apl
 rw [List.take_succ_eq_append_getElem h, List.foldl_append]
 rfl
theorem bgn_next (cs : List Ch) {i : Nat} (h : i < cs.length) : bgn (cs.take (i + 1)) = bgn (cs.take i) + (if cs[i].2.1 = true then 0 else 1) := by
 unfold bgn
 rw [List.take_succ_eq_append_getElem h, List.filter_append, List.length_append]
 cases hc : cs[i].2.1 <;> simp [hc]
theorem bgn_le (cs : List Ch) : bgn cs ≤ cs.length := List.length_filter_le _ _
theorem apl_old (t : Int) : ∀ (cs : List Ch) (rs : List Rw) (k : Nat) (h : k < rs.length), ∃ r, (apl t rs cs)[k]? = some r ∧ r.1 = rs[k].1 ∧ ((∀ c ∈ cs, c.1 ≠ rs[k].1) → r = rs[k])
 | [], rs, k, h => ⟨rs[k], by simp [apl, h], rfl, fun _ => rfl⟩
 | c :: cs, rs, k, h => by
  have hs : (stp t rs c)[k]? = some (endR t c.1 rs[k]) := by
   unfold stp
   rw [List.getElem?_append_left (by simpa using h)]
   simp [h]
  have hlt : k < (stp t rs c).length := by rw [stp_len]; omega
  have he : (stp t rs c)[k] = endR t c.1 rs[k] := by
   have := List.getElem?_eq_getElem hlt
   rw [hs] at this; injection this with this; exact this.symm
  obtain ⟨r, h1, h2, h3⟩ := apl_old t cs (stp t rs c) k hlt
  rw [he] at h2 h3
  refine ⟨r, h1, by rw [h2, endR_id], fun hn => ?_⟩
  have hne : c.1 ≠ rs[k].1 := hn c (by simp)
  rw [h3 (fun d hd => by rw [endR_id]; exact hn d (by simp [hd])), endR_ne (fun q => hne q.symm)]
theorem apl_new (t : Int) : ∀ (cs : List Ch) (rs : List Rw) (k : Nat) (r : Rw), rs.length ≤ k → (apl t rs cs)[k]? = some r → ∃ c ∈ cs, r.1 = c.1
 | [], rs, k, r, h, hr => by
  have hq : rs[k]? = some r := hr
  rw [List.getElem?_eq_none h] at hq; cases hq
 | c :: cs, rs, k, r, h, hr => by
  have hr' : (apl t (stp t rs c) cs)[k]? = some r := hr
  by_cases hk : (stp t rs c).length ≤ k
  ·obtain ⟨d, hd, e⟩ := apl_new t cs _ k r hk hr'
   exact ⟨d, by simp [hd], e⟩
  ·have hlt : k < (stp t rs c).length := by omega
   obtain ⟨r', h1, h2, _⟩ := apl_old t cs (stp t rs c) k hlt
   rw [h1] at hr'
   injection hr' with hr'
   subst hr'
   refine ⟨c, by simp, ?_⟩
   rw [h2]
   have hl := stp_len t rs c
   cases hg : c.2.1
   ·simp [hg] at hl
    have hk2 : k = rs.length := by omega
    subst hk2
    simp [stp, hg, newR]
   ·simp [hg] at hl; omega
def Inv (now : Int) (L : List Rw) (D : List Int) : Prop :=
 (∀ r ∈ L, rowb (now + 1) r = true) ∧ (L.map tr).Pairwise (fun x y => clash x y = false) ∧ ∀ r ∈ L, r.1 ∉ D → r.2.1 ≤ now ∧ (r.2.2.1 = 0 ∨ r.2.2.1 ≤ now)
theorem rowb_iff (now : Int) (r : Rw) : rowb now r = true ↔ ((1 ≤ r.1 ∧ r.1 ≤ 999999999) ∧ (1 ≤ r.2.1 ∧ r.2.1 ≤ now) ∧ (r.2.2.1 = 0 ∨ (r.2.1 < r.2.2.1 ∧ r.2.2.1 ≤ now))) ∧ shok r.2.2.2.1 r.2.2.2.2 = true := by
 simp [rowb, rwb, idb, and_assoc]
theorem inv_start {now : Int} {rs : List Rw} (h : rowsb now rs = true) : Inv now rs [] := by
 unfold rowsb at h
 simp only [Bool.and_eq_true, decide_eq_true_eq, List.all_eq_true] at h
 obtain ⟨⟨h0, hl⟩, hr, ha⟩ := h
 refine ⟨fun r hm => ?_, (apartR_iff _).1 ha, fun r hm _ => ?_⟩
 ·have := (rowb_iff _ _).1 (hr r hm)
  rw [rowb_iff]
  exact ⟨⟨this.1.1, by omega, by omega⟩, this.2⟩
 ·have := (rowb_iff _ _).1 (hr r hm)
  omega
theorem thr_not {r : Tr} {s : Int} (h : s < r.2.1 ∨ (r.2.2 ≠ 0 ∧ r.2.2 ≤ s)) : thr r s = false := by
 unfold thr
 rw [Bool.and_eq_false_iff]
 rcases h with h | h
 ·left; simpa using h
 ·right
  rw [Bool.or_eq_false_iff]
  exact ⟨by simpa using h.1, by simpa using h.2⟩
theorem not_thr {r : Tr} {s : Int} (h : thr r s = false) : s < r.2.1 ∨ (r.2.2 ≠ 0 ∧ r.2.2 ≤ s) := by
 unfold thr at h
 rw [Bool.and_eq_false_iff] at h
 rcases h with h | h
 ·left; simpa using h
 ·right
  rw [Bool.or_eq_false_iff] at h
  exact ⟨by simpa using h.1, by simpa using h.2⟩
theorem thr_end {t id : Int} {r : Rw} {s : Int} (h : thr (tr r) s = false) : thr (tr (endR t id r)) s = false := by
 by_cases hc : r.1 = id ∧ r.2.2.1 = 0
 ·rw [endR_yes hc.1 hc.2]
  rcases not_thr h with q | q
  ·exact thr_not (.inl q)
  ·exact absurd hc.2 q.1
 ·unfold endR; rw [if_neg hc]; exact h
theorem clash_end {t id : Int} {x y : Rw} (h : clash (tr x) (tr y) = false) : clash (tr (endR t id x)) (tr (endR t id y)) = false := by
 unfold clash at h ⊢
 rw [show (tr (endR t id x)).1 = (tr x).1 from endR_id _ _ _, show (tr (endR t id y)).1 = (tr y).1 from endR_id _ _ _, show (tr (endR t id x)).2.1 = (tr x).2.1 from endR_fr _ _ _, show (tr (endR t id y)).2.1 = (tr y).2.1 from endR_fr _ _ _]
 rw [Bool.and_eq_false_iff] at h ⊢
 rcases h with h | h
 ·exact .inl h
 ·rw [Bool.or_eq_false_iff] at h
  exact .inr (by rw [thr_end h.1, thr_end h.2]; rfl)
theorem inv_step {now : Int} {L : List Rw} {D : List Int} {c : Ch} (h0 : 0 ≤ now) (h : Inv now L D) (hc : cgb c = true) (hd : c.1 ∉ D) : Inv now (stp (now + 1) L c) (D ++ [c.1]) := by
 obtain ⟨h1, h2, h3⟩ := h
 have hcb : (1 ≤ c.1 ∧ c.1 ≤ 999999999) ∧ (c.2.1 = false → shok c.2.2.1 c.2.2.2 = true) := by
  unfold cgb at hc
  rw [Bool.and_eq_true] at hc
  refine ⟨by simpa [idb] using hc.1, fun hg => ?_⟩
  have := hc.2
  rw [hg] at this
  simpa using this
 have hold : ∀ r ∈ L, rowb (now + 1) (endR (now + 1) c.1 r) = true := by
  intro r hm
  have hr := (rowb_iff _ _).1 (h1 r hm)
  by_cases hq : r.1 = c.1 ∧ r.2.2.1 = 0
  ·have := h3 r hm (by rw [hq.1]; exact hd)
   rw [endR_yes hq.1 hq.2, rowb_iff]
   exact ⟨⟨hr.1.1, hr.1.2.1, .inr ⟨by dsimp only; omega, by dsimp only; omega⟩⟩, hr.2⟩
  ·unfold endR; rw [if_neg hq]; exact h1 r hm
 refine ⟨fun r hm => ?_, ?_, fun r hm hn => ?_⟩
 ·unfold stp at hm
  rw [List.mem_append] at hm
  rcases hm with hm | hm
  ·obtain ⟨r', hr', rfl⟩ := List.mem_map.1 hm
   exact hold r' hr'
  ·cases hg : c.2.1
   ·simp [hg] at hm
    subst hm
    rw [rowb_iff]
    exact ⟨⟨hcb.1, by simp [newR]; omega, .inl rfl⟩, hcb.2 hg⟩
   ·simp [hg] at hm
 ·unfold stp
  rw [List.map_append, List.pairwise_append]
  refine ⟨?_, ?_, ?_⟩
  ·rw [List.map_map, List.pairwise_map]
   rw [List.pairwise_map] at h2
   exact h2.imp (fun hxy => clash_end hxy)
  ·cases c.2.1 <;> simp
  ·intro x hx y hy
   cases hg : c.2.1
   ·simp [hg] at hy
    subst hy
    rw [List.map_map] at hx
    obtain ⟨r, hr, rfl⟩ := List.mem_map.1 hx
    show clash (tr (endR (now + 1) c.1 r)) (tr (newR (now + 1) c)) = false
    unfold clash
    rw [Bool.and_eq_false_iff]
    by_cases hid : r.1 = c.1
    ·right
     have hrr := h3 r hr (by rw [hid]; exact hd)
     rw [Bool.or_eq_false_iff]
     constructor
     ·by_cases hq : r.2.2.1 = 0
      ·rw [endR_yes hid hq]
       exact thr_not (.inr ⟨by show now + 1 ≠ 0; omega, by show now + 1 ≤ now + 1; omega⟩)
      ·rw [endR_to hq]
       exact thr_not (.inr ⟨hq, by show r.2.2.1 ≤ now + 1; omega⟩)
     ·rw [show (tr (endR (now + 1) c.1 r)).2.1 = r.2.1 from endR_fr _ _ _]
      exact thr_not (.inl (by show r.2.1 < now + 1; omega))
    ·left
     rw [show (tr (endR (now + 1) c.1 r)).1 = r.1 from endR_id _ _ _]
     show decide (c.1 = r.1) = false; simpa using fun q : c.1 = r.1 => hid q.symm
   ·simp [hg] at hy
 ·unfold stp at hm
  rw [List.mem_append] at hm
  rcases hm with hm | hm
  ·obtain ⟨r', hr', rfl⟩ := List.mem_map.1 hm
   rw [endR_id] at hn
   have hne : r'.1 ≠ c.1 := fun q => hn (by simp [q])
   rw [endR_ne hne]
   exact h3 r' hr' (fun q => hn (by simp [q]))
  ·cases hg : c.2.1
   ·simp [hg] at hm
    subst hm
    exact absurd (by simp [newR]) hn
   ·simp [hg] at hm
theorem inv_all {now : Int} (h0 : 0 ≤ now) : ∀ (cs : List Ch) (L : List Rw) (D : List Int), Inv now L D → (∀ c ∈ cs, cgb c = true) → (cs.map (fun x => x.1)).Nodup → (∀ c ∈ cs, c.1 ∉ D) → ∃ D', Inv now (apl (now + 1) L cs) D'
 | [], L, D, h, _, _, _ => ⟨D, h⟩
 | c :: cs, L, D, h, h1, h2, h3 => by
  rw [List.map_cons, List.nodup_cons] at h2
  refine inv_all h0 cs (stp (now + 1) L c) (D ++ [c.1]) (inv_step h0 h (h1 c (by simp)) (h3 c (by simp))) (fun d hd => h1 d (by simp [hd])) h2.2 (fun d hd => ?_)
  have ha := h3 d (by simp [hd])
  have hb : d.1 ≠ c.1 := fun q => h2.1 (by rw [← q]; exact List.mem_map.2 ⟨d, hd, rfl⟩)
  simp [ha, hb]
theorem rowsb_parts {now : Int} {rs : List Rw} (h : rowsb now rs = true) : 0 ≤ now ∧ rs.length ≤ 300 ∧ (∀ r ∈ rs, rowb now r = true) ∧ (rs.map tr).Pairwise (fun x y => clash x y = false) := by
 unfold rowsb at h
 simp only [Bool.and_eq_true, decide_eq_true_eq, List.all_eq_true] at h
 exact ⟨h.1.1, h.1.2, h.2.1, (apartR_iff _).1 h.2.2⟩
theorem cgs_parts {cs : List Ch} (h : cgs cs = true) : (∀ c ∈ cs, cgb c = true) ∧ (cs.map (fun x => x.1)).Nodup := by
 unfold cgs at h
 simp only [Bool.and_eq_true, decide_eq_true_eq, List.all_eq_true] at h
 exact h
theorem apl_ok {now : Int} {rs : List Rw} {cs : List Ch} (h : rowsb now rs = true) (hc : cgs cs = true) : rowsb (now + 1) (apl (now + 1) rs cs) = decide (rs.length + bgn cs ≤ 300) := by
 obtain ⟨h0, _, _, _⟩ := rowsb_parts h
 obtain ⟨c1, c2⟩ := cgs_parts hc
 obtain ⟨D', i1, i2, _⟩ := inv_all h0 cs rs [] (inv_start h) c1 c2 (fun _ _ => by simp)
 unfold rowsb
 rw [(apartR_iff _).2 i2, show (apl (now + 1) rs cs).all (rowb (now + 1)) = true from List.all_eq_true.2 i1, apl_len]
 simp; omega
theorem last_one {now : Int} {rs : List Rw} (h : rowsb now rs = true) {i j : Nat} (hi : i < rs.length) (hj : j < rs.length) (e : rs[i].1 = rs[j].1) (h1 : rs[i].2.2.1 = 0) (h2 : rs[j].2.2.1 = 0) : i = j := by
 obtain ⟨_, _, _, hp⟩ := rowsb_parts h
 rw [List.pairwise_iff_getElem] at hp
 have key : ∀ a b (ha : a < rs.length) (hb : b < rs.length), a < b → rs[a].1 = rs[b].1 → rs[a].2.2.1 = 0 → rs[b].2.2.1 = 0 → False := by
  intro a b ha hb hab e1 z1 z2
  have := hp a b (by simpa using ha) (by simpa using hb) hab
  simp only [List.getElem_map] at this
  simp [clash, thr, tr, e1, z1, z2] at this
  omega
 rcases Nat.lt_trichotomy i j with q | q | q
 ·exact (key i j hi hj q e h1 h2).elim
 ·exact q
 ·exact (key j i hj hi q e.symm h2 h1).elim
theorem take_ids {cs : List Ch} (hn : (cs.map (fun x => x.1)).Nodup) {i : Nat} (hi : i < cs.length) : ∀ c ∈ cs.take i, c.1 ≠ cs[i].1 := by
 intro c hc e
 obtain ⟨k, hk, rfl⟩ := List.getElem_of_mem hc
 simp only [List.length_take] at hk
 rw [List.getElem_take] at e
 rw [List.Nodup, List.pairwise_map, List.pairwise_iff_getElem] at hn
 exact hn k i (by omega) hi (by omega) e
theorem map_end_yes {now t : Int} {rs : List Rw} {cs : List Ch} (h : rowsb now rs = true) (hn : (cs.map (fun x => x.1)).Nodup) {i j : Nat} (hi : i < cs.length) (hj : j < rs.length) (e : rs[j].1 = cs[i].1) (z : rs[j].2.2.1 = 0) :
  ∃ hl : j < (apl t rs (cs.take i)).length, (apl t rs (cs.take i))[j] = rs[j] ∧ (apl t rs (cs.take i)).map (endR t cs[i].1) = (apl t rs (cs.take i)).set j (rs[j].1, rs[j].2.1, t, rs[j].2.2.2.1, rs[j].2.2.2.2) := by
 have hid := take_ids hn hi
 have hl : j < (apl t rs (cs.take i)).length := by rw [apl_len]; omega
 obtain ⟨r, q1, q2, q3⟩ := apl_old t (cs.take i) rs j hj
 have q4 := q3 (fun c hc => by rw [e]; exact hid c hc)
 have hat : (apl t rs (cs.take i))[j] = rs[j] := by
  rw [List.getElem?_eq_getElem hl] at q1; injection q1 with q1; rw [q1, q4]
 refine ⟨hl, hat, ?_⟩
 apply List.ext_getElem
 ·simp
 intro k hk1 hk2
 simp only [List.length_map] at hk1
 rw [List.getElem_map, List.getElem_set]
 by_cases ek : j = k
 ·subst ek
  rw [if_pos rfl, hat, endR_yes e z]
 ·rw [if_neg ek]
  by_cases hkr : k < rs.length
  ·obtain ⟨r', p1, p2, p3⟩ := apl_old t (cs.take i) rs k hkr
   have hr' : (apl t rs (cs.take i))[k] = r' := by rw [List.getElem?_eq_getElem hk1] at p1; injection p1
   rw [hr']
   by_cases hidk : rs[k].1 = cs[i].1
   ·have := p3 (fun c hc => by rw [hidk]; exact hid c hc)
    rw [this]
    by_cases hz : rs[k].2.2.1 = 0
    ·exact absurd (last_one h hj hkr (by rw [e, hidk]) z hz) ek
    ·rw [endR_to hz]
   ·rw [endR_ne (by rw [p2]; exact hidk)]
  ·obtain ⟨c, hc, ec⟩ := apl_new t (cs.take i) rs k _ (by omega) (List.getElem?_eq_getElem hk1)
   rw [endR_ne (by rw [ec]; exact hid c hc)]
theorem map_end_no {t : Int} {rs : List Rw} {cs : List Ch} (hn : (cs.map (fun x => x.1)).Nodup) {i : Nat} (hi : i < cs.length) (hno : ∀ j (hj : j < rs.length), rs[j].1 = cs[i].1 → rs[j].2.2.1 ≠ 0) :
  (apl t rs (cs.take i)).map (endR t cs[i].1) = apl t rs (cs.take i) := by
 have hid := take_ids hn hi
 apply List.ext_getElem
 ·simp
 intro k hk1 hk2
 rw [List.getElem_map]
 by_cases hkr : k < rs.length
 ·obtain ⟨r', p1, p2, p3⟩ := apl_old t (cs.take i) rs k hkr
  have hr' : (apl t rs (cs.take i))[k] = r' := by rw [List.getElem?_eq_getElem hk2] at p1; injection p1
  rw [hr']
  by_cases hidk : rs[k].1 = cs[i].1
  ·have := p3 (fun c hc => by rw [hidk]; exact hid c hc)
   rw [this, endR_to (hno k hkr hidk)]
  ·rw [endR_ne (by rw [p2]; exact hidk)]
 ·obtain ⟨c, hc, ec⟩ := apl_new t (cs.take i) rs k _ (by omega) (List.getElem?_eq_getElem hk2)
  rw [endR_ne (by rw [ec]; exact hid c hc)]
end Go.Proofs.YtenlhgnobfadgaaGreatDoor
