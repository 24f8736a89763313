/- Texts of stores, joined: Ve, Vf, Td, Te, Tf, Tg, Vg. -/
import Derived.Test.YtfognoicnkphpaaGreatJ13
import Derived.Test.YtfognoicnkphpaaGreatJ12
namespace Go.Proofs.YtfognoicnkphpaaGreat
open Go.RowKit
set_option linter.unusedSimpArgs false
set_option linter.unusedVariables false
/-- Rows as the law hands them in: each list of points has an address. -/
def RwsS (w : World) (B : Nat) (rs : List Rw) : Prop := B < w.heap.size ∧ ∀ j (h : j < rs.length), ∃ c cp, c < w.heap.size ∧ w.cell? ⟨B, j * 5, none⟩ = some (.int .i64 rs[j].1) ∧ w.cell? ⟨B, j * 5 + 1, none⟩ = some (.int .i64 rs[j].2.1) ∧ w.cell? ⟨B, j * 5 + 2, none⟩ = some (.int .i64 rs[j].2.2.1) ∧ w.cell? ⟨B, j * 5 + 3, none⟩ = some (.int .i64 rs[j].2.2.2.1) ∧ w.cell? ⟨B, j * 5 + 4, none⟩ = some (.slice (some ⟨c, 0, none⟩) rs[j].2.2.2.2.length cp) ∧ rs[j].2.2.2.2.length ≤ 1099511627776 ∧ Pts w (some ⟨c, 0, none⟩) rs[j].2.2.2.2
theorem RwsS.below {w w' : World} {B : Nat} {rs : List Rw} (h : RwsS w B rs) (H : Below w.heap.size w w') : RwsS w' B rs := by
  refine ⟨Nat.lt_of_lt_of_le h.1 H.size, fun j hj => ?_⟩
  obtain ⟨c, cp, a0, a1, a2, a3, a4, a5, a6, a7⟩ := h.2 j hj
  exact ⟨c, cp, Nat.lt_of_lt_of_le a0 H.size, keepcell H a1, keepcell H a2, keepcell H a3, keepcell H a4, keepcell H a5, a6, a7.below H⟩
theorem flt_next {rs : List Rw} {p : Rw → Bool} {i : Nat} (hi : i < rs.length) : (rs.take (i + 1)).filter p = if p rs[i] = true then (rs.take i).filter p ++ [rs[i]] else (rs.take i).filter p := by
  rw [List.take_add_one, List.getElem?_eq_getElem hi, List.filter_append]
  by_cases h : p rs[i] = true
  · simp [h]
  · simp [h]
theorem make_rows0 (n : Nat) (hn : n ≤ 1099511627776) (w : World) : (Instr.makeSlice 24 (.int .i64 0) (.int .i64 n)).run Tryz.prog w = .ok (.slice (some ⟨w.heap.size, 0, none⟩) 0 n) (w.alloc (.cells (madeCells #[.int .i64 0, .int .i64 0, .int .i64 0, .int .i64 0, .slice none 0 0] (n * 5)) 61)) := by
  obtain ⟨i0, hi, hz0, hz1, hz2⟩ := info_parts Tryz.infoRow
  have := run_make (P := Tryz.prog) w 24 61 i0 _ Tryz.underlying24 hi hz0 .i64 .i64 0 n (by omega) (by omega) (by rw [hz2]; omega) (by omega)
  rw [hz1] at this
  exact this
theorem kept_form {base hi : Nat} {w : World} {v : Value} {rs : List Rw} {xs : List El} (h : RowsX base hi w v rs xs) : ∃ a cap, v = .slice a rs.length cap := by
  rcases h.rows with ⟨rfl, _, e⟩ | ⟨g, cap, e, _⟩
  · exact ⟨none, 0, e⟩
  · exact ⟨_, cap, e⟩
/-- Rows that a call answers, in memory of its own. -/
def VR (w : World) (now : Int) (rs : List Rw) (e : Ending) (w' : World) : Prop :=
  ∃ a cap xs, e = .returned (.agg #[.int .i64 now, .slice a rs.length cap]) ∧ RowsX w.heap.size w'.heap.size w' (.slice a rs.length cap) rs xs ∧ Below w.heap.size w w'
def vacb (now : Int) (rs : List Rw) (t : Int) : List Rw := if rowsb now rs = true then rs.filter (vkeep t) else rs
end Go.Proofs.YtfognoicnkphpaaGreat
namespace Go.Proofs.YtfognoicnkphpaaGreat
open Go.RowKit
set_option linter.unusedSimpArgs false
set_option linter.unusedVariables false
theorem set1r {w : World} {p : Nat} {o0 o1 : Value} {t : TypeId} (h : w.heap[p]? = some (.cells #[o0, o1] t (0, 0))) (b : Value) : (w.setCell ⟨p, 1, none⟩ b).heap[p]? = some (.cells #[o0, b] t (0, 0)) := by
  have hlt := lt_of_block h
  have h' : w.heap[p] = .cells #[o0, o1] t (0, 0) := by simpa [Array.getElem?_eq_getElem hlt] using h
  show (w.heap.modify p _)[p]? = _
  rw [Array.getElem?_eq_getElem (by simpa using hlt), Array.getElem_modify_self, h']
  rfl
theorem own_nilR {w : World} {B : Nat} : w.ownsRow B 61 5 (.slice none 0 0) 0 [] := ⟨by simp, .inl ⟨rfl, rfl⟩⟩
end Go.Proofs.YtfognoicnkphpaaGreat
namespace Go.Proofs.YtfognoicnkphpaaGreat
open Go.RowKit Go.Maps
set_option linter.unusedSimpArgs false
set_option linter.unusedVariables false
theorem keepset9 {w : World} {p q : Addr} {v u : Value} (h : w.cell? p = some v) (hne : p ≠ q) : (w.setCell q u).cell? p = some v := by
  rw [World.cell?_setCell_other _ _ _ _ (by first | exact hne | exact hne.symm)]; exact h
theorem own_set1 {w : World} {base g c n k : Nat} {t : TypeId} {xs : List Value} (h : w.ownsRow base t 5 (.slice (some ⟨g, 0, none⟩) n c) n xs) (x : Value) : (w.setCell ⟨g, k, none⟩ x).ownsRow base t 5 (.slice (some ⟨g, 0, none⟩) n c) n (xs.set k x) := by
  refine ⟨by rw [List.length_set]; exact h.1, ?_⟩
  rcases h.2 with ⟨q, _⟩ | ⟨g', c', cur, e, q1, q2, q3, q4, q5, q6⟩
  · cases q
  · cases e
    refine .inr ⟨g, c, _, rfl, q1, set_at q2, q3, q4, by simp; omega, ?_⟩
    rw [Array.toList_setIfInBounds, List.take_set, q6]
/-- What stands in a row's cells once it is ended. -/
def elT (t : Int) (x : El) : El := (x.1, x.2.1, t, x.2.2.2)
def rwT (t : Int) (r : Rw) : Rw := (r.1, r.2.1, t, r.2.2.2.1, r.2.2.2.2)
theorem flat5_setT (t : Int) : ∀ (xs : List El) (j : Nat) (h : j < xs.length), (flat5 xs).set (j * 5 + 2) (.int .i64 t) = flat5 (xs.set j (elT t xs[j]))
  | [], j, h => by simp at h
  | x :: r, 0, h => by
    show (ev x ++ flat5 r).set 2 _ = ev (elT t x) ++ flat5 r
    rw [List.set_append_left _ _ (by simp [ev])]
    rfl
  | x :: r, j + 1, h => by
    have hr : j < r.length := by simpa using h
    have ih := flat5_setT t r j hr
    show (ev x ++ flat5 r).set _ _ = ev x ++ flat5 (r.set j (elT t (r[j]'hr)))
    rw [List.set_append_right _ _ (by simp [ev]; omega), ← ih]
    congr 2
    simp [ev]; omega
theorem RowsX.setTo {base hi : Nat} {w : World} {g n cap : Nat} {rs : List Rw} {xs : List El} (h : RowsX base hi w (.slice (some ⟨g, 0, none⟩) n cap) rs xs) {j : Nat} (hj : j < rs.length) (t : Int) :
    RowsX base hi (w.setCell ⟨g, j * 5 + 2, none⟩ (.int .i64 t)) (.slice (some ⟨g, 0, none⟩) n cap) (rs.set j (rwT t rs[j])) (xs.set j (elT t (xs[j]'(by rw [h.1]; exact hj)))) := by
  obtain ⟨h1, h2, h3, h4, c, cp, h5, h6⟩ := h
  have hn : n = rs.length := by
    rcases h2.2 with ⟨q, _⟩ | ⟨g', c', cur, e, _⟩
    · cases q
    · injection e with _ e _
  have hxj : j < xs.length := by omega
  subst hn
  refine ⟨by simp [h1], ?_, h3, by simpa using h4, c, cp, fun k hk => ?_, fun a b hab hb => h6 a b hab (by simpa using hb)⟩
  · rw [List.length_set, ← flat5_setT t xs j hxj]
    exact own_set1 h2 _
  · have hk' : k < rs.length := by simpa using hk
    obtain ⟨a1, a2, a3, a4, a5, a6, a7⟩ := h5 k hk'
    have hne : c k ≠ g := fun e => a6 (by rw [e]; rfl)
    have hp : ∀ r : Rw, r.2.2.2.2 = rs[k].2.2.2.2 → r.2.2.2.2.length ≤ cp k ∧ r.2.2.2.2.length ≤ 1099511627776 ∧ base ≤ c k ∧ c k < hi ∧ Value.ownBlock (.slice (some ⟨g, 0, none⟩) rs.length cap) ≠ some (c k) ∧ PtsOwn (w.setCell ⟨g, j * 5 + 2, none⟩ (.int .i64 t)) (c k) r.2.2.2.2 := by
      intro r hr
      rw [hr]
      exact ⟨a2, a3, a4, a5, a6, own_blk a7 (Below.heap_setCell _ _ _ _ (by dsimp only; omega)) (by simp; exact a7.1)⟩
    by_cases e : j = k
    · subst e
      have er : (rs.set j (rwT t rs[j]))[j]'hk = rwT t rs[j] := by simp
      rw [er]
      refine ⟨?_, hp _ rfl⟩
      have ex : xs[j] = elR rs[j] (c j) (cp j) := by rw [List.getElem?_eq_getElem hxj] at a1; injection a1
      rw [List.getElem?_set_self hxj, ex]
      rfl
    · have er : (rs.set j (rwT t rs[j]))[k]'hk = rs[k] := by rw [List.getElem_set_ne e]
      rw [er]
      exact ⟨by rw [List.getElem?_set_ne e]; exact a1, hp _ rfl⟩
/-- A block is none of the rows'. -/
def Off (p : Nat) (v : Value) (xs : List El) : Prop := v.ownBlock ≠ some p ∧ ∀ (j : Nat) (x : El), xs[j]? = some x → x.2.2.2.2.1 ≠ some (⟨p, 0, none⟩ : Addr)
theorem RowsX.but {base hi p : Nat} {w w' : World} {v : Value} {rs : List Rw} {xs : List El} (h : RowsX base hi w v rs xs) (ho : Off p v xs) (hb : ∀ c, c < w.heap.size → c ≠ p → w'.heap[c]? = w.heap[c]?) (hs : w.heap.size ≤ w'.heap.size) : RowsX base hi w' v rs xs := by
  obtain ⟨h1, h2, h3, h4, c, cp, h5, h6⟩ := h
  refine ⟨h1, own_frame h2 (fun g e => hb g (by have := h3 g e; omega) (fun q => ho.1 (by rw [← q]; exact e))), h3, by omega, c, cp, fun j hj => ?_, h6⟩
  obtain ⟨a1, a2, a3, a4, a5, a6, a7⟩ := h5 j hj
  refine ⟨a1, a2, a3, a4, a5, a6, own_blk a7 (hb _ (by omega) (fun q => ?_)) (by omega)⟩
  have := ho.2 j _ a1
  simp only [elR, ne_eq, Option.some.injEq, Addr.mk.injEq, and_true] at this
  exact this q
theorem Off.setTo {p : Nat} {v : Value} {xs : List El} (h : Off p v xs) {j : Nat} (hj : j < xs.length) (t : Int) : Off p v (xs.set j (elT t xs[j])) := by
  refine ⟨h.1, fun k x hx => ?_⟩
  by_cases e : j = k
  · subst e
    rw [List.getElem?_set_self hj] at hx
    injection hx with hx
    rw [← hx]
    show (xs[j]).2.2.2.2.1 ≠ _
    exact h.2 j xs[j] (List.getElem?_eq_getElem hj)
  · rw [List.getElem?_set_ne e] at hx
    exact h.2 k x hx
theorem Off.new {base hi p : Nat} {w : World} {v : Value} {rs : List Rw} {xs : List El} (h : RowsX base hi w v rs xs) (hp : p < base ∨ hi ≤ p) : Off p v xs := by
  obtain ⟨h1, h2, h3, h4, c, cp, h5, h6⟩ := h
  refine ⟨fun e => by have := h3 p e; have := (h2.lt p e).1; omega, fun j x hx => ?_⟩
  have hj : j < rs.length := by rw [← h1]; exact (List.getElem?_eq_some_iff.1 hx).1
  obtain ⟨a1, a2, a3, a4, a5, _⟩ := h5 j hj
  rw [a1] at hx
  injection hx with hx
  rw [← hx]
  simp only [elR, ne_eq, Option.some.injEq, Addr.mk.injEq, and_true]
  omega
theorem Off.snoc {p : Nat} {v : Value} {xs : List El} (h : Off p v xs) {r : Rw} {c cp g n cap : Nat} (hc : c ≠ p) (hg : g ≠ p) : Off p (.slice (some ⟨g, 0, none⟩) n cap) (xs ++ [elR r c cp]) := by
  refine ⟨by simp only [Value.ownBlock, ne_eq, Option.some.injEq]; exact hg, fun j x hx => ?_⟩
  rcases Nat.lt_or_ge j xs.length with hj | hj
  · rw [List.getElem?_append_left hj] at hx
    exact h.2 j x hx
  · rw [List.getElem?_append_right hj] at hx
    have : j - xs.length = 0 := by
      rcases Nat.eq_zero_or_pos (j - xs.length) with q | q
      · exact q
      · rw [List.getElem?_eq_none (by simp; omega)] at hx; cases hx
    rw [this] at hx
    simp at hx
    rw [← hx]
    simp only [elR, ne_eq, Option.some.injEq, Addr.mk.injEq, and_true]
    exact hc
/-- What was answered: rows and whether it was done. -/
def apb (now : Int) (rs : List Rw) (cs : List Ch) : Bool := (decide (now ≤ 1000000000) && decide (rs.length + bgn cs ≤ 300)) && (rowsb now rs && cgs cs)
def aprs (now : Int) (rs : List Rw) (cs : List Ch) : List Rw := if apb now rs cs = true then apl (now + 1) rs cs else rs
def apnow (now : Int) (rs : List Rw) (cs : List Ch) : Int := if apb now rs cs = true then now + 1 else now
def APR (w : World) (now : Int) (rs : List Rw) (cs : List Ch) (e : Ending) (w' : World) : Prop :=
  ∃ v xs, e = .returned (.tuple #[.agg #[.int .i64 (apnow now rs cs), v], .bool (apb now rs cs)]) ∧ RowsX w.heap.size w'.heap.size w' v (aprs now rs cs) xs ∧ Below w.heap.size w w'
end Go.Proofs.YtfognoicnkphpaaGreat
namespace Go.Proofs.YtfognoicnkphpaaGreat
open Go.RowKit Go.Maps
set_option linter.unusedSimpArgs false
set_option linter.unusedVariables false
theorem shok_kindT {k : Int} {ps : List (Int × Int)} (h : shok k ps = true) : (k = 0 ∧ ps.length = 1) ∨ (k = 1 ∧ 2 ≤ ps.length ∧ ps.length ≤ 60) ∨ (k = 2 ∧ ps.length = 2) ∨ (k = 3 ∧ 3 ≤ ps.length ∧ ps.length ≤ 60) := by
  unfold shok at h
  split at h
  · rename_i e
    simp only [Bool.and_eq_true, decide_eq_true_eq] at h
    exact .inl ⟨e, h.1⟩
  split at h
  · rename_i e
    simp only [lineb, Bool.and_eq_true, decide_eq_true_eq] at h
    exact .inr (.inl ⟨e, h.1.1.1, h.1.1.2⟩)
  split at h
  · rename_i e
    simp only [rectb, Bool.and_eq_true, decide_eq_true_eq] at h
    exact .inr (.inr (.inl ⟨e, h.1.1⟩))
  split at h
  · rename_i e
    simp only [ringOk, Bool.and_eq_true, decide_eq_true_eq] at h
    exact .inr (.inr (.inr ⟨e, h.1.1.1, h.1.1.2⟩))
  · cases h
theorem bgn_take (cs : List Ch) (i : Nat) : bgn (cs.take i) ≤ bgn cs := ((List.take_sublist i cs).filter _).length_le
theorem set0r {w : World} {p : Nat} {o0 o1 : Value} {t : TypeId} (h : w.heap[p]? = some (.cells #[o0, o1] t (0, 0))) (b : Value) : (w.setCell ⟨p, 0, none⟩ b).heap[p]? = some (.cells #[b, o1] t (0, 0)) := set_at h
end Go.Proofs.YtfognoicnkphpaaGreat
namespace Go.Proofs.YtfognoicnkphpaaGreat
open Go.RowKit Go.Maps
set_option linter.unusedSimpArgs false
set_option linter.unusedVariables false
theorem apb_no {now : Int} {rs : List Rw} {cs : List Ch} (h : apb now rs cs = false) : apnow now rs cs = now ∧ aprs now rs cs = rs := by
  unfold apnow aprs
  rw [h]; simp
theorem apb_yes {now : Int} {rs : List Rw} {cs : List Ch} (h : apb now rs cs = true) : apnow now rs cs = now + 1 ∧ aprs now rs cs = apl (now + 1) rs cs := by
  unfold apnow aprs
  rw [if_pos h, if_pos h]; exact ⟨rfl, rfl⟩
end Go.Proofs.YtfognoicnkphpaaGreat
namespace Go.Proofs.YtfognoicnkphpaaGreat
open Go.RowKit Go.Maps
set_option linter.unusedSimpArgs false
set_option linter.unusedVariables false
/-- The rows while those of one id are ended, k of them looked at. -/
def md (t id : Int) (z : List Rw) (k : Nat) : List Rw := (z.take k).map (endR t id) ++ z.drop k
theorem md_zero (t id : Int) (z : List Rw) : md t id z 0 = z := by simp [md]
theorem md_all (t id : Int) (z : List Rw) : md t id z z.length = z.map (endR t id) := by simp [md]
theorem md_len (t id : Int) (z : List Rw) (k : Nat) : (md t id z k).length = z.length := by simp [md]; omega
theorem md_at (t id : Int) (z : List Rw) {k : Nat} (h : k < z.length) : (md t id z k)[k]'(by rw [md_len]; exact h) = z[k] := by
  unfold md
  rw [List.getElem_append_right (by simp; omega)]
  simp [Nat.min_eq_left (Nat.le_of_lt h)]
theorem md_next (t id : Int) (z : List Rw) {k : Nat} (h : k < z.length) : md t id z (k + 1) = (md t id z k).set k (endR t id z[k]) := by
  unfold md
  rw [List.take_succ_eq_append_getElem h, List.map_append, List.append_assoc, List.set_append_right _ _ (by simp; omega)]
  congr 1
  rw [show k - (List.map (endR t id) (List.take k z)).length = 0 by simp; omega]
  rw [List.drop_eq_getElem_cons h]
  rfl
theorem md_same (t id : Int) (z : List Rw) {k : Nat} (h : k < z.length) (e : endR t id z[k] = z[k]) : md t id z (k + 1) = md t id z k := by
  rw [md_next t id z h, e]
  have := md_at t id z h
  apply List.ext_getElem (by simp)
  intro j h1 h2
  rw [List.getElem_set]
  by_cases q : k = j
  · subst q; rw [if_pos rfl]; exact this.symm
  · rw [if_neg q]
end Go.Proofs.YtfognoicnkphpaaGreat
namespace Go.Proofs.YtfognoicnkphpaaGreat
open Go.RowKit
set_option linter.unusedSimpArgs false
set_option linter.unusedVariables false
/-- Rows in a new list, their points where they lay in W0. -/
def RowsY (base lo : Nat) (W0 w : World) (v : Value) (rs : List Rw) (xs : List El) : Prop :=
  xs.length = rs.length ∧ w.ownsRow base 61 5 v rs.length (flat5 xs) ∧ ∀ j (h : j < rs.length), ∃ c cp, xs[j]? = some (elR rs[j] c cp) ∧ rs[j].2.2.2.2.length ≤ cp ∧ rs[j].2.2.2.2.length ≤ 1099511627776 ∧ lo ≤ c ∧ Pts W0 (some ⟨c, 0, none⟩) rs[j].2.2.2.2
theorem RowsY.frame {base lo : Nat} {W0 w w' : World} {v : Value} {rs : List Rw} {xs : List El} (h : RowsY base lo W0 w v rs xs) (hb : ∀ g, v.ownBlock = some g → w'.heap[g]? = w.heap[g]?) : RowsY base lo W0 w' v rs xs := ⟨h.1, own_frame h.2.1 hb, h.2.2⟩
theorem rowsY_snoc {base lo : Nat} {W0 w w' : World} {v v' : Value} {rs : List Rw} {xs : List El} {r : Rw} {c cp : Nat} (h : RowsY base lo W0 w v rs xs) (h1 : r.2.2.2.2.length ≤ cp) (h2 : r.2.2.2.2.length ≤ 1099511627776) (h4 : lo ≤ c) (h3 : Pts W0 (some ⟨c, 0, none⟩) r.2.2.2.2) (ho : w'.ownsRow base 61 5 v' (rs.length + 1) (flat5 xs ++ ev (elR r c cp))) : RowsY base lo W0 w' v' (rs ++ [r]) (xs ++ [elR r c cp]) := by
  obtain ⟨a1, a2, a3⟩ := h
  have hlr : (rs ++ [r]).length = rs.length + 1 := by simp
  refine ⟨by simp [a1], by rw [flat5_snoc, hlr]; exact ho, fun j hj => ?_⟩
  by_cases e : j = rs.length
  · subst e
    have er : (rs ++ [r])[rs.length]'(by simp) = r := by simp
    rw [er]
    exact ⟨c, cp, by rw [← a1]; simp, h1, h2, h4, h3⟩
  · have hjl : j < rs.length := by simp at hj; omega
    have er : (rs ++ [r])[j]'(by simpa using hj) = rs[j] := by rw [List.getElem_append_left hjl]
    rw [er]
    obtain ⟨c', cp', b1, b2, b3, b5, b4⟩ := a3 j hjl
    exact ⟨c', cp', by rw [List.getElem?_append_left (by omega)]; exact b1, b2, b3, b5, b4⟩
theorem RowsY.form {base lo : Nat} {W0 w : World} {v : Value} {rs : List Rw} {xs : List El} (h : RowsY base lo W0 w v rs xs) : ∃ a cap, v = .slice a rs.length cap := by
  rcases h.2.1.2 with ⟨q, hn⟩ | ⟨g, cap, cur, e, _⟩
  · exact ⟨none, 0, by rw [q, hn]⟩
  · exact ⟨_, cap, e⟩
theorem pts_blk {W w : World} {c : Nat} {ps : List (Int × Int)} (h : Pts W (some ⟨c, 0, none⟩) ps) (e : c < W.heap.size → w.heap[c]? = W.heap[c]?) (hs : W.heap.size ≤ w.heap.size) : Pts w (some ⟨c, 0, none⟩) ps := by
  rcases h with h | ⟨b, off, ea, hb, hp⟩
  · exact .inl h
  · cases ea
    refine .inr ⟨c, 0, rfl, by omega, fun k hk => ?_⟩
    simp only [World.cell?, e hb]
    exact hp k hk
theorem RowsY.rws {base lo : Nat} {W0 w : World} {a : Option Addr} {n cap : Nat} {rs : List Rw} {xs : List El} (h : RowsY base lo W0 w (.slice a n cap) rs xs) (H : ∀ b, lo ≤ b → b < W0.heap.size → w.heap[b]? = W0.heap[b]?) (hs : W0.heap.size ≤ w.heap.size) : Rws (fun _ => True) w a rs := by
  obtain ⟨h1, h2, h3⟩ := h
  have h2' := h2
  rcases h2.2 with ⟨q, hn⟩ | ⟨g, cp, cur, e, hb, hg, hc, _⟩
  · exact .inl (List.length_eq_zero_iff.1 hn)
  · cases e
    refine .inr ⟨g, 0, rfl, (Array.getElem?_eq_some_iff.1 hg).1, fun j hj => ?_⟩
    obtain ⟨c, cpj, a1, a2, a3, a5, a4⟩ := h3 j hj
    have hjx : j < xs.length := by omega
    have ex : xs[j] = elR rs[j] c cpj := by
      rw [List.getElem?_eq_getElem hjx] at a1
      exact Option.some.inj a1
    obtain ⟨f0, f1, f2, f3, f4⟩ := flat5_at xs j hjx
    rw [ex] at f0 f1 f2 f3 f4
    rw [Nat.zero_add]
    refine ⟨some ⟨c, 0, none⟩, cpj, ?_, ?_, ?_, ?_, ?_, a2, a3, pts_blk a4 (fun hc => H c a5 hc) hs, fun _ _ _ => trivial⟩
    · rw [World.ownsRow.cellAt h2' _ (by omega)]; exact f0
    · rw [World.ownsRow.cellAt h2' _ (by omega)]; exact f1
    · rw [World.ownsRow.cellAt h2' _ (by omega)]; exact f2
    · rw [World.ownsRow.cellAt h2' _ (by omega)]; exact f3
    · rw [World.ownsRow.cellAt h2' _ (by omega)]; exact f4
theorem vkeep_def (t : Int) (r : Rw) : vkeep t r = (decide (r.2.2.1 = 0) || decide (t < r.2.2.1)) := by
  unfold vkeep
  by_cases h1 : r.2.2.1 = 0
  · simp [h1]
  · by_cases h2 : t < r.2.2.1
    · have : ¬ r.2.2.1 ≤ t := by omega
      simp [h1, h2, this]
    · have : r.2.2.1 ≤ t := by omega
      simp [h1, h2, this]
/-- Rows that the specification answers. -/
def VS (w : World) (now : Int) (rs : List Rw) (e : Ending) (w' : World) : Prop :=
  ∃ a cap, e = .returned (.agg #[.int .i64 now, .slice a rs.length cap]) ∧ Rws (fun _ => True) w' a rs ∧ Below w.heap.size w w'
end Go.Proofs.YtfognoicnkphpaaGreat
