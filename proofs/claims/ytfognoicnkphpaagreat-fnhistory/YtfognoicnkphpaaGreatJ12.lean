/- Texts of stores, joined: RwA2, Mark, Sa, Ca, Ta, Cc, Tc. -/
import Derived.Test.YtfognoicnkphpaaGreatJ11
import Derived.Test.YtfognoicnkphpaaGreatJ8
import Derived.Test.YtfognoicnkphpaaGreatJ9
import Derived.Test.YtfognoicnkphpaaGreatJ6
import Derived.Test.YtfognoicnkphpaaGreatJ7
import Derived.Deep.RegionHeld3
import Derived.Deep.SlicePairs
import Derived.Test.YtfognoicnkphpaaGreatJ10
import Derived.Test.YtfognoicnkphpaaGreatJ2
import Derived.Lib.AppendZeros
import Derived.Maps.Own
import Derived.Maps.OwnOps
import Derived.Maps.OwnSet
import Derived.Maps.Views
import Derived.DeepKeys4
import Derived.BigQuiet
namespace Go.Proofs.YtfognoicnkphpaaGreat
open Go.RowKit
set_option linter.unusedSimpArgs false
set_option linter.unusedVariables false
def ratb (now : Int) (rs : List Rw) (id t : Int) : Option Rw := if rowsb now rs = true then rat rs id t else none
theorem shok_pos {k : Int} {ps : List (Int × Int)} (h : shok k ps = true) : 0 < ps.length := by
  unfold shok at h
  split at h
  · simp only [Bool.and_eq_true, decide_eq_true_eq] at h; omega
  split at h
  · simp only [lineb, Bool.and_eq_true, decide_eq_true_eq] at h; omega
  split at h
  · simp only [rectb, Bool.and_eq_true, decide_eq_true_eq] at h; omega
  split at h
  · simp only [ringOk, Bool.and_eq_true, decide_eq_true_eq] at h; omega
  · cases h
theorem rowsb_pos {now : Int} {rs : List Rw} (h : rowsb now rs = true) : ∀ m (h : m < rs.length), 0 < rs[m].2.2.2.2.length := by
  intro m hm
  unfold rowsb at h
  simp only [Bool.and_eq_true, List.all_eq_true] at h
  have := h.2.1 rs[m] (List.getElem_mem hm)
  unfold rowb at this
  simp only [Bool.and_eq_true] at this
  exact shok_pos this.2
set_option maxRecDepth 100000 in
set_option maxHeartbeats 2000000 in
theorem impl_RowAt {N : Nat → Prop} (now : Int) (a : Option Addr) (cap : Nat) (rs : List Rw) (id t : Int) (w : World) (hm : rs.length ≤ 1099511627776) (h : Rws N w a rs) : Calls Tryz.prog 13 #[.agg #[.int .i64 now, .slice a rs.length cap], .int .i64 id, .int .i64 t] w fun e w' => RA w (raK (ratb now rs id t)) (raP (ratb now rs id t)) (ratb now rs id t).isSome e w' := by
  have HOK := hid (fun (W : World) (hb : Below w.heap.size w W) => impl_RowsOk now a cap rs W hm (h.below hb))
  have HSR : Hid (rowsb now rs = true → ∀ (W : World) (hb : Below w.heap.size w W), Calls Tryz.prog 40 #[.agg #[.int .i64 now, .slice a rs.length cap], .int .i64 id, .int .i64 t] W fun e w' => SA W (raK (ratb now rs id t)) (raP (ratb now rs id t)) (ratb now rs id t).isSome e w') := hid (fun e W hb => by
    have hr : ratb now rs id t = rat rs id t := by unfold ratb; rw [if_pos e]
    rw [hr]
    exact impl_shapeAt now a cap rs id t W hm (h.below hb) (rowsb_pos e))
  have HNO : Hid (rowsb now rs = false → raK (ratb now rs id t) = 0 ∧ raP (ratb now rs id t) = [] ∧ (ratb now rs id t).isSome = false) := hid (fun e => by
    have hr : ratb now rs id t = none := by unfold ratb; rw [if_neg (by rw [e]; simp)]
    rw [hr]; exact ⟨rfl, rfl, rfl⟩)
  clear h
  generalize raK (ratb now rs id t) = rk at *
  generalize raP (ratb now rs id t) = rp at *
  generalize (ratb now rs id t).isSome = rb at *
  generalize rowsb now rs = ob at *
  generalize rs.length = n at *
  go_enter Tryz.func13, Tryz.ntmps13
  go_upto_region 1 with fail
  have hBx : Below w.heap.size w ((w.alloc (.cells #[.int .i64 now, .slice a n cap] 26)).alloc (.cells #[.int .i64 0, .slice none 0 0] 37)) := balloc (balloc (Below.refl _ _) _) _
  have g0 := old_alloc (o' := .cells #[.int .i64 0, .slice none 0 0] 37) (new_alloc w w.heap.size (.cells #[.int .i64 now, .slice a n cap] 26) rfl)
  have g1 := new_alloc (w.alloc (.cells #[.int .i64 now, .slice a n cap] 26)) (w.heap.size + 1) (.cells #[.int .i64 0, .slice none 0 0] 37) (by simp)
  generalize (w.alloc (.cells #[.int .i64 now, .slice a n cap] 26)).alloc (.cells #[.int .i64 0, .slice none 0 0] 37) = W0 at *
  obtain ⟨d0, d1, _, _⟩ := cell2r g0
  go_wp2_with fail
  refine (HOK.out _ hBx).mono ?_
  rintro e z ⟨rfl, hz⟩
  replace g0 := keepheapA hz g0
  replace g1 := keepheapA hz g1
  have HB := hid (btrans hBx hz)
  clear hBx hz HOK d0 d1
  obtain ⟨d0, d1, _, _⟩ := cell2r g0
  obtain ⟨v0, v1, w0, w1⟩ := cell2r g1
  cases ob
  · obtain ⟨e1, e2, e3⟩ := HNO.out rfl
    go_wp2_with fail
    have gF := set2r g1 (.int .i64 0) (.slice none 0 0)
    have bF := bset (bset HB.out (q := w.heap.size + 1) (k := 0) (by omega) (.int .i64 0)) (q := w.heap.size + 1) (k := 1) (by omega) (.slice none 0 0)
    generalize (z.setCell ⟨w.heap.size + 1, 0, none⟩ (.int .i64 0)).setCell ⟨w.heap.size + 1, 1, none⟩ (.slice none 0 0) = wf at *
    obtain ⟨z0, z1, _, _⟩ := cell2r gF
    exact bodyPost_ret (v := .tuple #[.agg #[.int .i64 0, .slice none 0 0], .bool false]) (by simp [results, Tryz.results13, go_sem, z0, z1]) rfl (ra_no e1 e2 e3 bF)
  · have SR := hid (HSR.out rfl z HB.out)
    have HG1 := hid g1
    clear HSR HNO g0 g1 v0 v1 w0 w1
    go_wp2_with fail
    refine SR.out.mono ?_
    rintro e y ⟨a', cap', rfl, hh, hy⟩
    have HG2 := hid (keepheapA hy HG1.out)
    have HBy := hid (btrans HB.out hy)
    have hzs := lt_of_block HG1.out
    have hys := hy.size
    have HH := hid hh
    clear hh hy d0 d1 SR
    have HC : Hid (∀ (W : World), Below y.heap.size y W → Calls Tryz.prog 41 #[.agg #[.int .i64 rk, .slice a' rp.length cap']] W fun e w' => CP W rk rp e w') := hid (fun W hb => by
      rcases HH.out with ⟨_, rfl, rfl, rfl⟩ | ⟨_, h1, h2, h3⟩
      · exact impl_copy0 rk W
      · exact impl_copy rk a' cap' rp W h1 h2 (h3.below hb))
    clear HH
    go_upto_region 4 with fail
    have hBx : Below y.heap.size y (y.alloc (.cells #[.int .i64 rk, .slice a' rp.length cap'] 37)) := balloc (Below.refl _ _) _
    have g3 := new_alloc y y.heap.size (.cells #[.int .i64 rk, .slice a' rp.length cap'] 37) rfl
    have HG4 := hid (keepheapA hBx HG2.out)
    have HB4 := hid (btrans HBy.out hBx)
    have HC4 := hid (HC.out _ hBx)
    have hsz4 : y.heap.size ≤ (y.alloc (.cells #[.int .i64 rk, .slice a' rp.length cap'] 37)).heap.size := hBx.size
    clear hBx HC
    generalize y.alloc (.cells #[.int .i64 rk, .slice a' rp.length cap'] 37) = Y at *
    obtain ⟨x0, x1, _, _⟩ := cell2r g3
    go_wp2_with fail
    refine HC4.out.mono ?_
    rintro e u ⟨g, cp, rfl, hcp, hgs, ho, hu⟩
    have g1 := keepheapA hu HG4.out
    have HBu := hid (btrans HB4.out hu)
    have HO := hid ho
    clear ho hu x0 x1 g3
    obtain ⟨v0, v1, w0, w1⟩ := cell2r g1
    go_wp2_with fail
    have gF := set2r g1 (.int .i64 rk) (.slice (some ⟨g, 0, none⟩) rp.length cp)
    have bF := bset (bset HBu.out (q := w.heap.size + 1) (k := 0) (by omega) (.int .i64 rk)) (q := w.heap.size + 1) (k := 1) (by omega) (.slice (some ⟨g, 0, none⟩) rp.length cp)
    have oF : PtsOwn ((u.setCell ⟨w.heap.size + 1, 0, none⟩ (.int .i64 rk)).setCell ⟨w.heap.size + 1, 1, none⟩ (.slice (some ⟨g, 0, none⟩) rp.length cp)) g rp := by
      refine own_blk HO.out ?_ (by simp; exact HO.out.1)
      rw [Below.heap_setCell _ _ _ _ (by dsimp only; omega), Below.heap_setCell _ _ _ _ (by dsimp only; omega)]
    generalize (u.setCell ⟨w.heap.size + 1, 0, none⟩ (.int .i64 rk)).setCell ⟨w.heap.size + 1, 1, none⟩ (.slice (some ⟨g, 0, none⟩) rp.length cp) = wf at *
    obtain ⟨z0, z1, _, _⟩ := cell2r gF
    exact bodyPost_ret (v := .tuple #[.agg #[.int .i64 rk, .slice (some ⟨g, 0, none⟩) rp.length cp], .bool rb]) (by simp [results, Tryz.results13, go_sem, z0, z1]) rfl ⟨some ⟨g, 0, none⟩, cp, rfl, hcp, .inr ⟨g, rfl, oF⟩, fun b off e => by cases e; omega, bF⟩
end Go.Proofs.YtfognoicnkphpaaGreat
namespace Go.Proofs.YtfognoicnkphpaaGreat
open Go.RowKit
set_option linter.unusedVariables false
set_option linter.unusedSimpArgs false
def mk (j : Nat) : Int × Int := ((1 : Int) + 2 * j, (2 : Int) + 2 * j)
end Go.Proofs.YtfognoicnkphpaaGreat
namespace Go.Proofs.YtfognoicnkphpaaGreat
open Go.RowKit
set_option linter.unusedSimpArgs false
set_option linter.unusedVariables false
abbrev Ch : Type := Int × Bool × Int × List (Int × Int)
def ChAt (N : Nat → Prop) (M : Nat) (w : World) (b o : Nat) (x : Ch) : Prop :=
  ∃ a cap, w.cell? ⟨b, o, none⟩ = some (.int .i64 x.1) ∧ w.cell? ⟨b, o + 1, none⟩ = some (.bool x.2.1) ∧ w.cell? ⟨b, o + 2, none⟩ = some (.int .i64 x.2.2.1) ∧ w.cell? ⟨b, o + 3, none⟩ = some (.slice a x.2.2.2.length cap) ∧ x.2.2.2.length ≤ cap ∧ x.2.2.2.length ≤ M ∧ Pts w a x.2.2.2 ∧ (∀ c off, a = some ⟨c, off, none⟩ → N c)
def ChsAt (N : Nat → Prop) (M : Nat) (w : World) (b o : Nat) (xs : List Ch) : Prop := ∀ j (h : j < xs.length), ChAt N M w b (o + j * 4) xs[j]
def Chs (N : Nat → Prop) (M : Nat) (w : World) (a : Option Addr) (xs : List Ch) : Prop := xs = [] ∨ ∃ b o, a = some ⟨b, o, none⟩ ∧ b < w.heap.size ∧ ChsAt N M w b o xs
theorem ChAt.below {N : Nat → Prop} {M : Nat} {w w' : World} {b o : Nat} {x : Ch} (h : ChAt N M w b o x) (H : Below w.heap.size w w') : ChAt N M w' b o x := by
  obtain ⟨a, cap, k0, k1, k2, q1, q2, q3, q4, q5⟩ := h
  exact ⟨a, cap, keepcell H k0, keepcell H k1, keepcell H k2, keepcell H q1, q2, q3, q4.below H, q5⟩
theorem Chs.below {N : Nat → Prop} {M : Nat} {w w' : World} {a : Option Addr} {xs : List Ch} (h : Chs N M w a xs) (H : Below w.heap.size w w') : Chs N M w' a xs := by
  rcases h with h | ⟨b, o, e, hb, h⟩
  · exact .inl h
  · exact .inr ⟨b, o, e, Nat.lt_of_lt_of_le hb H.size, fun j hj => (h j hj).below H⟩
theorem Chs.at {N : Nat → Prop} {M : Nat} {w : World} {a : Option Addr} {xs : List Ch} (h : Chs N M w a xs) (j : Nat) (hj : j < xs.length) : ∃ b o, a = some ⟨b, o, none⟩ ∧ b < w.heap.size ∧ ChAt N M w b (o + j * 4) xs[j] := by
  rcases h with h | ⟨b, o, e, hb, h⟩
  · subst h; simp at hj
  · exact ⟨b, o, e, hb, h j hj⟩
theorem Tryz.infoCh : (Tryz.prog.info? 41).map (fun i => (i.zero, i.size, i.bytes)) = some (some (.agg #[.int .i64 0, .bool false, .int .i64 0, .slice none 0 0]), 4, 48) := by kernel_rfl
end Go.Proofs.YtfognoicnkphpaaGreat
namespace Go.Proofs.YtfognoicnkphpaaGreat
open Go.RowKit
set_option linter.unusedSimpArgs false
set_option linter.unusedVariables false
/-- A shape that is none. -/
def zsh (kd : Int) (np : Nat) : Bool := decide (kd = 0) && decide (np = 0)
/-- A change that is right. -/
def cgb (x : Ch) : Bool := idb x.1 && (if x.2.1 = true then zsh x.2.2.1 x.2.2.2.length else shok x.2.2.1 x.2.2.2)
/-- Changes that are right. -/
def cgs (xs : List Ch) : Bool := xs.all cgb && decide (xs.map (fun x => x.1)).Nodup
end Go.Proofs.YtfognoicnkphpaaGreat
namespace Go.Proofs.YtfognoicnkphpaaGreat
open Go.RowKit
set_option linter.unusedSimpArgs false
set_option linter.unusedVariables false
/-- A row is ended at a moment, where it is of that id and goes on. -/
def endR (t id : Int) (r : Rw) : Rw := if r.1 = id ∧ r.2.2.1 = 0 then (r.1, r.2.1, t, r.2.2.2.1, r.2.2.2.2) else r
/-- The row that a change begins. -/
def newR (t : Int) (c : Ch) : Rw := (c.1, t, 0, c.2.2.1, c.2.2.2)
def stp (t : Int) (rs : List Rw) (c : Ch) : List Rw := rs.map (endR t c.1) ++ (if c.2.1 = true then [] else [newR t c])
def apl (t : Int) (rs : List Rw) (cs : List Ch) : List Rw := cs.foldl (stp t) rs
/-- How many rows begin. -/
def bgn (cs : List Ch) : Nat := (cs.filter (fun c => !c.2.1)).length
theorem endR_id (t id : Int) (r : Rw) : (endR t id r).1 = r.1 := by unfold endR; split <;> rfl
theorem endR_fr (t id : Int) (r : Rw) : (endR t id r).2.1 = r.2.1 := by unfold endR; split <;> rfl
theorem endR_ne {t id : Int} {r : Rw} (h : r.1 ≠ id) : endR t id r = r := by unfold endR; rw [if_neg (fun q => h q.1)]
theorem endR_to {t id : Int} {r : Rw} (h : r.2.2.1 ≠ 0) : endR t id r = r := by unfold endR; rw [if_neg (fun q => h q.2)]
theorem endR_yes {t id : Int} {r : Rw} (h1 : r.1 = id) (h2 : r.2.2.1 = 0) : endR t id r = (r.1, r.2.1, t, r.2.2.2.1, r.2.2.2.2) := by unfold endR; rw [if_pos ⟨h1, h2⟩]
theorem stp_len (t : Int) (rs : List Rw) (c : Ch) : (stp t rs c).length = rs.length + (if c.2.1 = true then 0 else 1) := by
  unfold stp; cases c.2.1 <;> simp
theorem apl_len (t : Int) : ∀ (cs : List Ch) (rs : List Rw), (apl t rs cs).length = rs.length + bgn cs
  | [], rs => by simp [apl, bgn]
  | c :: cs, rs => by
    show (apl t (stp t rs c) cs).length = _
    rw [apl_len t cs, stp_len]
    unfold bgn
    cases h : c.2.1 <;> simp [h] <;> omega
theorem apl_next (t : Int) (rs : List Rw) (cs : List Ch) {i : Nat} (h : i < cs.length) : apl t rs (cs.take (i + 1)) = stp t (apl t rs (cs.take i)) cs[i] := by
  unfold apl
  rw [List.take_succ_eq_append_getElem h, List.foldl_append]
  rfl
theorem bgn_le (cs : List Ch) : bgn cs ≤ cs.length := List.length_filter_le _ _
/-- What the rows keep to while changes are done. -/
def Inv (now : Int) (L : List Rw) (D : List Int) : Prop :=
  (∀ r ∈ L, rowb (now + 1) r = true) ∧ (L.map tr).Pairwise (fun x y => clash x y = false) ∧ ∀ r ∈ L, r.1 ∉ D → r.2.1 ≤ now ∧ (r.2.2.1 = 0 ∨ r.2.2.1 ≤ now)
theorem rowb_iff (now : Int) (r : Rw) : rowb now r = true ↔ ((1 ≤ r.1 ∧ r.1 ≤ 999999999) ∧ (1 ≤ r.2.1 ∧ r.2.1 ≤ now) ∧ (r.2.2.1 = 0 ∨ (r.2.1 < r.2.2.1 ∧ r.2.2.1 ≤ now))) ∧ shok r.2.2.2.1 r.2.2.2.2 = true := by
  simp [rowb, rwb, idb, and_assoc]
theorem inv_start {now : Int} {rs : List Rw} (h : rowsb now rs = true) : Inv now rs [] := by
  unfold rowsb at h
  simp only [Bool.and_eq_true, decide_eq_true_eq, List.all_eq_true] at h
  obtain ⟨⟨h0, hl⟩, hr, ha⟩ := h
  refine ⟨fun r hm => ?_, (apartR_iff _).1 ha, fun r hm _ => ?_⟩
  · have := (rowb_iff _ _).1 (hr r hm)
    rw [rowb_iff]
    exact ⟨⟨this.1.1, by omega, by omega⟩, this.2⟩
  · have := (rowb_iff _ _).1 (hr r hm)
    omega
theorem thr_not {r : Tr} {s : Int} (h : s < r.2.1 ∨ (r.2.2 ≠ 0 ∧ r.2.2 ≤ s)) : thr r s = false := by
  unfold thr
  rw [Bool.and_eq_false_iff]
  rcases h with h | h
  · left; simpa using h
  · right
    rw [Bool.or_eq_false_iff]
    exact ⟨by simpa using h.1, by simpa using h.2⟩
theorem not_thr {r : Tr} {s : Int} (h : thr r s = false) : s < r.2.1 ∨ (r.2.2 ≠ 0 ∧ r.2.2 ≤ s) := by
  unfold thr at h
  rw [Bool.and_eq_false_iff] at h
  rcases h with h | h
  · left; simpa using h
  · right
    rw [Bool.or_eq_false_iff] at h
    exact ⟨by simpa using h.1, by simpa using h.2⟩
theorem thr_end {t id : Int} {r : Rw} {s : Int} (h : thr (tr r) s = false) : thr (tr (endR t id r)) s = false := by
  by_cases hc : r.1 = id ∧ r.2.2.1 = 0
  · rw [endR_yes hc.1 hc.2]
    rcases not_thr h with q | q
    · exact thr_not (.inl q)
    · exact absurd hc.2 q.1
  · unfold endR; rw [if_neg hc]; exact h
theorem clash_end {t id : Int} {x y : Rw} (h : clash (tr x) (tr y) = false) : clash (tr (endR t id x)) (tr (endR t id y)) = false := by
  unfold clash at h ⊢
  rw [show (tr (endR t id x)).1 = (tr x).1 from endR_id _ _ _, show (tr (endR t id y)).1 = (tr y).1 from endR_id _ _ _, show (tr (endR t id x)).2.1 = (tr x).2.1 from endR_fr _ _ _, show (tr (endR t id y)).2.1 = (tr y).2.1 from endR_fr _ _ _]
  rw [Bool.and_eq_false_iff] at h ⊢
  rcases h with h | h
  · exact .inl h
  · rw [Bool.or_eq_false_iff] at h
    exact .inr (by rw [thr_end h.1, thr_end h.2]; rfl)
theorem inv_step {now : Int} {L : List Rw} {D : List Int} {c : Ch} (h0 : 0 ≤ now) (h : Inv now L D) (hc : cgb c = true) (hd : c.1 ∉ D) : Inv now (stp (now + 1) L c) (D ++ [c.1]) := by
  obtain ⟨h1, h2, h3⟩ := h
  have hcb : (1 ≤ c.1 ∧ c.1 ≤ 999999999) ∧ (c.2.1 = false → shok c.2.2.1 c.2.2.2 = true) := by
    unfold cgb at hc
    rw [Bool.and_eq_true] at hc
    refine ⟨by simpa [idb] using hc.1, fun hg => ?_⟩
    have := hc.2
    rw [hg] at this
    simpa using this
  have hold : ∀ r ∈ L, rowb (now + 1) (endR (now + 1) c.1 r) = true := by
    intro r hm
    have hr := (rowb_iff _ _).1 (h1 r hm)
    by_cases hq : r.1 = c.1 ∧ r.2.2.1 = 0
    · have := h3 r hm (by rw [hq.1]; exact hd)
      rw [endR_yes hq.1 hq.2, rowb_iff]
      exact ⟨⟨hr.1.1, hr.1.2.1, .inr ⟨by dsimp only; omega, by dsimp only; omega⟩⟩, hr.2⟩
    · unfold endR; rw [if_neg hq]; exact h1 r hm
  refine ⟨fun r hm => ?_, ?_, fun r hm hn => ?_⟩
  · unfold stp at hm
    rw [List.mem_append] at hm
    rcases hm with hm | hm
    · obtain ⟨r', hr', rfl⟩ := List.mem_map.1 hm
      exact hold r' hr'
    · cases hg : c.2.1
      · simp [hg] at hm
        subst hm
        rw [rowb_iff]
        exact ⟨⟨hcb.1, by simp [newR]; omega, .inl rfl⟩, hcb.2 hg⟩
      · simp [hg] at hm
  · unfold stp
    rw [List.map_append, List.pairwise_append]
    refine ⟨?_, ?_, ?_⟩
    · rw [List.map_map, List.pairwise_map]
      rw [List.pairwise_map] at h2
      exact h2.imp (fun hxy => clash_end hxy)
    · cases c.2.1 <;> simp
    · intro x hx y hy
      cases hg : c.2.1
      · simp [hg] at hy
        subst hy
        rw [List.map_map] at hx
        obtain ⟨r, hr, rfl⟩ := List.mem_map.1 hx
        show clash (tr (endR (now + 1) c.1 r)) (tr (newR (now + 1) c)) = false
        unfold clash
        rw [Bool.and_eq_false_iff]
        by_cases hid : r.1 = c.1
        · right
          have hrr := h3 r hr (by rw [hid]; exact hd)
          rw [Bool.or_eq_false_iff]
          constructor
          · by_cases hq : r.2.2.1 = 0
            · rw [endR_yes hid hq]
              exact thr_not (.inr ⟨by show now + 1 ≠ 0; omega, by show now + 1 ≤ now + 1; omega⟩)
            · rw [endR_to hq]
              exact thr_not (.inr ⟨hq, by show r.2.2.1 ≤ now + 1; omega⟩)
          · rw [show (tr (endR (now + 1) c.1 r)).2.1 = r.2.1 from endR_fr _ _ _]
            exact thr_not (.inl (by show r.2.1 < now + 1; omega))
        · left
          rw [show (tr (endR (now + 1) c.1 r)).1 = r.1 from endR_id _ _ _]
          show decide (c.1 = r.1) = false; simpa using fun q : c.1 = r.1 => hid q.symm
      · simp [hg] at hy
  · unfold stp at hm
    rw [List.mem_append] at hm
    rcases hm with hm | hm
    · obtain ⟨r', hr', rfl⟩ := List.mem_map.1 hm
      rw [endR_id] at hn
      have hne : r'.1 ≠ c.1 := fun q => hn (by simp [q])
      rw [endR_ne hne]
      exact h3 r' hr' (fun q => hn (by simp [q]))
    · cases hg : c.2.1
      · simp [hg] at hm
        subst hm
        exact absurd (by simp [newR]) hn
      · simp [hg] at hm
theorem inv_all {now : Int} (h0 : 0 ≤ now) : ∀ (cs : List Ch) (L : List Rw) (D : List Int), Inv now L D → (∀ c ∈ cs, cgb c = true) → (cs.map (fun x => x.1)).Nodup → (∀ c ∈ cs, c.1 ∉ D) → ∃ D', Inv now (apl (now + 1) L cs) D'
  | [], L, D, h, _, _, _ => ⟨D, h⟩
  | c :: cs, L, D, h, h1, h2, h3 => by
    rw [List.map_cons, List.nodup_cons] at h2
    refine inv_all h0 cs (stp (now + 1) L c) (D ++ [c.1]) (inv_step h0 h (h1 c (by simp)) (h3 c (by simp))) (fun d hd => h1 d (by simp [hd])) h2.2 (fun d hd => ?_)
    have ha := h3 d (by simp [hd])
    have hb : d.1 ≠ c.1 := fun q => h2.1 (by rw [← q]; exact List.mem_map.2 ⟨d, hd, rfl⟩)
    simp [ha, hb]
theorem rowsb_parts {now : Int} {rs : List Rw} (h : rowsb now rs = true) : 0 ≤ now ∧ rs.length ≤ 300 ∧ (∀ r ∈ rs, rowb now r = true) ∧ (rs.map tr).Pairwise (fun x y => clash x y = false) := by
  unfold rowsb at h
  simp only [Bool.and_eq_true, decide_eq_true_eq, List.all_eq_true] at h
  exact ⟨h.1.1, h.1.2, h.2.1, (apartR_iff _).1 h.2.2⟩
theorem cgs_parts {cs : List Ch} (h : cgs cs = true) : (∀ c ∈ cs, cgb c = true) ∧ (cs.map (fun x => x.1)).Nodup := by
  unfold cgs at h
  simp only [Bool.and_eq_true, decide_eq_true_eq, List.all_eq_true] at h
  exact h
/-- What comes out of right rows and changes is right, but for how many rows there are. -/
theorem apl_ok {now : Int} {rs : List Rw} {cs : List Ch} (h : rowsb now rs = true) (hc : cgs cs = true) : rowsb (now + 1) (apl (now + 1) rs cs) = decide (rs.length + bgn cs ≤ 300) := by
  obtain ⟨h0, _, _, _⟩ := rowsb_parts h
  obtain ⟨c1, c2⟩ := cgs_parts hc
  obtain ⟨D', i1, i2, _⟩ := inv_all h0 cs rs [] (inv_start h) c1 c2 (fun _ _ => by simp)
  unfold rowsb
  rw [(apartR_iff _).2 i2, show (apl (now + 1) rs cs).all (rowb (now + 1)) = true from List.all_eq_true.2 i1, apl_len]
  simp; omega
end Go.Proofs.YtfognoicnkphpaaGreat
namespace Go.Proofs.YtfognoicnkphpaaGreat
open Go.RowKit
set_option linter.unusedSimpArgs false
set_option linter.unusedVariables false
theorem nodup_ids {xs : List Ch} : (xs.map (fun x => x.1)).Nodup ↔ ∀ i k (hi : i < xs.length) (hk : k < i), xs[k].1 ≠ xs[i].1 := by
  rw [List.Nodup, List.pairwise_iff_getElem]
  constructor
  · intro h i k hi hk
    have := h k i (by simpa using (by omega : k < xs.length)) (by simpa using hi) hk
    simpa using this
  · intro h i j hi hj hij
    have := h j i (by simpa using hj) hij
    simpa using this
theorem cgs_no {xs : List Ch} {i : Nat} (hi : i < xs.length) (h : cgb xs[i] = false) : cgs xs = false := by
  unfold cgs
  have : xs.all cgb = false := by
    rw [List.all_eq_false]
    exact ⟨xs[i], List.getElem_mem hi, by simp [h]⟩
  rw [this]; rfl
theorem cgs_two {xs : List Ch} {i k : Nat} (hi : i < xs.length) (hk : k < i) (h : xs[k].1 = xs[i].1) : cgs xs = false := by
  unfold cgs
  have : ¬ (xs.map (fun x => x.1)).Nodup := fun q => nodup_ids.1 q i k hi hk h
  simp [this]
theorem cgs_yes {xs : List Ch} (h1 : ∀ i (hi : i < xs.length), cgb xs[i] = true) (h2 : ∀ i k (hi : i < xs.length) (hk : k < i), xs[k].1 ≠ xs[i].1) : cgs xs = true := by
  unfold cgs
  have a1 : xs.all cgb = true := by
    rw [List.all_eq_true]
    intro x hx
    obtain ⟨k, hk, rfl⟩ := List.getElem_of_mem hx
    exact h1 k hk
  have a2 : (xs.map (fun x => x.1)).Nodup := nodup_ids.2 h2
  simp [a1, a2]
set_option maxRecDepth 100000 in
set_option maxHeartbeats 4000000 in
theorem spec_cgs {N : Nat → Prop} (a : Option Addr) (cap : Nat) (cs : List Ch) (w : World) (hm : cs.length ≤ 1099511627776) (h : Chs N 1099511627776 w a cs) : Calls Tryz.prog 31 #[.slice a cs.length cap] w fun e w' => e = .returned (.bool (cgs cs)) ∧ Below w.heap.size w w' := by
  have HR := hid h
  have HNO := hid (fun i (hi : i < cs.length) h => @cgs_no cs i hi h)
  have HTW := hid (fun i k (hi : i < cs.length) (hk : k < i) h => @cgs_two cs i k hi hk h)
  have HY := hid (@cgs_yes cs)
  clear h
  generalize cgs cs = sk at *
  go_enter Tryz.func31, Tryz.ntmps31
  go_wp2_with fail
  go_loopw [3] (fun ti wr => ∃ i : Nat, ti = .int .i64 i ∧ i ≤ cs.length ∧ Hid (∀ k (hk : k < cs.length), k < i → cgb cs[k] = true) ∧ Hid (∀ j k (hj : j < cs.length) (hk : k < j), j < i → cs[k].1 ≠ cs[j].1) ∧ Hid (Below w.heap.size w wr)) (fun ti _ => cs.length - (intOf ti).toNat)
  case atStart => exact ⟨0, rfl, Nat.zero_le _, hid (fun k hk q => absurd q (by omega)), hid (fun j k hj hk q => absurd q (by omega)), hid (Below.refl _ _)⟩
  case round =>
    obtain ⟨i, rfl, hi, HA, HD, HB⟩ := hrel
    by_cases hlt : i < cs.length
    · have c1 : (i : Int) < (cs.length : Int) := by omega
      obtain ⟨bb, o, rfl, hbs, a', cap', k0, k1, k2, k3, k4, k5, k6, _⟩ := HR.out.at i hlt
      have HK0 := hid (fun (W : World) (hb : Below w.heap.size w W) => keepcell hb k0)
      replace k0 := keepcell HB.out k0
      replace k1 := keepcell HB.out k1
      replace k2 := keepcell HB.out k2
      replace k3 := keepcell HB.out k3
      have HE := hid (show cgb cs[i] = (idb cs[i].1 && (if cs[i].2.1 = true then zsh cs[i].2.2.1 cs[i].2.2.2.length else shok cs[i].2.2.1 cs[i].2.2.2)) from rfl)
      have HS := hid (fun (W : World) (hb : Below w.heap.size w W) => spec_ShapeOk cs[i].2.2.1 a' cap' cs[i].2.2.2 W k5 k4 (k6.below hb))
      have HNi := hid (HNO.out i hlt)
      have HAi : Hid (cgb cs[i] = true → ∀ k (hk : k < cs.length), k < i + 1 → cgb cs[k] = true) := hid (fun q k hk hki => by
        by_cases e : k = i
        · subst e; exact q
        · exact HA.out k hk (by omega))
      unfold shv at HS
      clear k4 k5 k6
      obtain ⟨x, hx⟩ : ∃ x, x = cs[i].1 := ⟨_, rfl⟩
      rw [← hx] at HE k0 HK0
      have HX := hid hx
      clear hx
      generalize cgb cs[i] = cb at *
      generalize cs[i].2.1 = gn at *
      generalize cs[i].2.2.1 = kd at *
      generalize cs[i].2.2.2 = ps at *
      generalize shok kd ps = so at *
      generalize ps.length = np at *
      go_upto_region 4 with fail
      go_cut [60] (fun t60 wx => t60 = .bool (!cb) ∧ Below w.heap.size w wx)
      case first =>
        clear HNi HAi
        cases hib : idb x
        · have hq : cb = false := by rw [HE.out, hib]; rfl
          subst hq
          have HI := hid (fun W => spec_id x W)
          rw [hib] at HI
          clear hib
          go_wp2_with fail
          refine (HI.out _).mono ?_
          rintro e z ⟨rfl, hz⟩
          replace hz := hz.symm
          subst hz
          go_wp2_with fail
          go_meet
          exact ⟨rfl, HB.out⟩
        · have HI := hid (fun W => spec_id x W)
          rw [hib] at HI
          have hE2 : cb = (if gn = true then zsh kd np else so) := by rw [HE.out, hib]; rfl
          clear HE hib
          cases gn
          · have hq : cb = so := by rw [hE2]; rfl
            clear hE2
            subst hq
            go_wp2_with fail
            refine (HI.out _).mono ?_
            rintro e z ⟨rfl, hz⟩
            replace hz := hz.symm
            subst hz
            go_wp2_with fail
            refine (HS.out _ HB.out).mono ?_
            rintro e z ⟨rfl, hz⟩
            have hB2 := btrans HB.out hz
            replace k0 := keepcell hz k0
            replace k1 := keepcell hz k1
            replace k2 := keepcell hz k2
            replace k3 := keepcell hz k3
            clear hz
            cases cb
            · go_wp2_with fail
              go_meet
              exact ⟨rfl, hB2⟩
            · go_wp2_with fail
              go_meet
              exact ⟨rfl, hB2⟩
          · have hq : cb = zsh kd np := by rw [hE2]; rfl
            clear hE2 HS
            by_cases h0 : kd = 0
            · subst h0
              by_cases h1 : np = 0
              · subst h1
                have hq2 : cb = true := by rw [hq]; rfl
                clear hq
                subst hq2
                go_wp2_with fail
                refine (HI.out _).mono ?_
                rintro e z ⟨rfl, hz⟩
                replace hz := hz.symm
                subst hz
                go_wp2_with fail
                go_meet
                exact ⟨rfl, HB.out⟩
              · have h2 : (0 : Int) < (np : Int) := by omega
                have hq2 : cb = false := by rw [hq]; unfold zsh; simp [h1]
                clear hq
                subst hq2
                go_wp2_with fail
                refine (HI.out _).mono ?_
                rintro e z ⟨rfl, hz⟩
                replace hz := hz.symm
                subst hz
                go_wp2_with fail
                go_meet
                exact ⟨by simp; omega, HB.out⟩
            · have hq2 : cb = false := by rw [hq]; unfold zsh; simp [h0]
              clear hq
              subst hq2
              go_wp2_with fail
              refine (HI.out _).mono ?_
              rintro e z ⟨rfl, hz⟩
              replace hz := hz.symm
              subst hz
              go_wp2_with fail
              go_meet
              exact ⟨rfl, HB.out⟩
      case rest =>
        obtain ⟨rfl, hBc⟩ := hcut
        clear k0 k1 k2 k3 HE HS
        cases cb
        · have hq := HNi.out rfl
          subst hq
          go_wp2_with fail
          go_ret
          exact ⟨rfl, hBc⟩
        · have HA2 := hid (HAi.out rfl)
          have HB2 := hid hBc
          clear hBc HNi HAi HA HB
          go_wp2_with fail
          go_loopw [4] (fun tk wr => ∃ k : Nat, tk = .int .i64 k ∧ k ≤ i ∧ Hid (∀ j (hj : j < cs.length), j < k → cs[j].1 ≠ x) ∧ Hid (Below w.heap.size w wr)) (fun tk _ => i - (intOf tk).toNat)
          case atStart => exact ⟨0, rfl, Nat.zero_le _, hid (fun j hj q => absurd q (by omega)), HB2⟩
          case round =>
            clear HB2
            obtain ⟨k, rfl, hk, HN2, HB2⟩ := hrel
            by_cases hki : k < i
            · have c2 : (k : Int) < (i : Int) := by omega
              obtain ⟨bb', o', e', _, _, _, q0, _⟩ := HR.out.at k (by omega)
              cases e'
              replace q0 := keepcell HB2.out q0
              have k0 := HK0.out _ HB2.out
              have HT := hid (fun (e : cs[k].1 = x) => HTW.out i k hlt hki (by rw [← HX.out]; exact e))
              have HN3 : Hid (¬ cs[k].1 = x → ∀ j (hj : j < cs.length), j < k + 1 → cs[j].1 ≠ x) := hid (fun q j hj hjk => by
                by_cases e : j = k
                · subst e; exact q
                · exact HN2.out j hj (by omega))
              have c3 : (k : Int) < (cs.length : Int) := by omega
              generalize cs[k].1 = y at *
              have HBd := hid (fun q => Go.RowKit.Below.trans HB2.out (show Below w.heap.size wr (wr.drewN q) from ⟨rfl, rfl, rfl, Nat.le_refl _, fun _ _ => rfl⟩))
              by_cases he : y = x
              · have hq := HT.out he
                subst hq
                subst he
                go_wp2_with fail
                go_quiet (fail)
                go_wp2_with fail
                go_ret
                exact ⟨rfl, HBd.out _⟩
              · have HN4 := hid (HN3.out he)
                go_wp2_with fail
                go_quiet (fail)
                go_wp2_with fail
                go_roundw
                case rel => exact ⟨k + 1, by go_num, by omega, HN4, hid (HBd.out _)⟩
                case measure => simp [intOf]; omega
            · have c2 : (i : Int) ≤ (k : Int) := by omega
              have HD2 : Hid (∀ j k (hj : j < cs.length) (hk : k < j), j < i + 1 → cs[k].1 ≠ cs[j].1) := hid (fun j k' hj hk' q => by
                by_cases e : j = i
                · subst e
                  rw [← HX.out]
                  exact HN2.out k' (by omega) (by omega)
                · exact HD.out j k' hj hk' (by omega))
              go_wp2_with fail
              go_roundw
              case rel => exact ⟨i + 1, by go_num, by omega, HA2, HD2, HB2⟩
              case measure => simp [intOf]; omega
    · have c1 : (cs.length : Int) ≤ (i : Int) := by omega
      have hq := HY.out (fun k hk => HA.out k hk (by omega)) (fun j k hj hk => HD.out j k hj hk (by omega))
      subst hq
      go_wp2_with fail
      go_ret
      exact ⟨rfl, HB.out⟩
end Go.Proofs.YtfognoicnkphpaaGreat
namespace Go.Proofs.YtfognoicnkphpaaGreat
open Go.RowKit Go.Maps
set_option linter.unusedSimpArgs false
set_option linter.unusedVariables false
theorem bdrewN2 {w a : World} (h : Below w.heap.size w a) {n : Nat} : Below w.heap.size w (a.drewN n) := ⟨h.1, h.2, h.3, h.4, h.5⟩
end Go.Proofs.YtfognoicnkphpaaGreat
