import Derived.Test.YtenlhgnobfadgaaGreatDoorJ14
set_option linter.unusedSimpArgs false
set_option linter.unusedVariables false
namespace Go.Proofs.YtenlhgnobfadgaaGreatDoor
open Go.RowKit Go.Maps
theorem keepset9 {w : World} {p q : Addr} {v u : Value} (h : w.cell? p = some v) (hne : p ≠ q) : (w.setCell q u).cell? p = some v := by
 rw [World.cell?_setCell_other _ _ _ _ (by first | exact hne | exact hne.symm)]; exact h
theorem own_set1 {w : World} {base g c n k : Nat} {t : TypeId} {xs : List Value} (h : w.ownsRow base t 5 (.slice (some ⟨g, 0, none⟩) n c) n xs) (x : Value) : (w.setCell ⟨g, k, none⟩ x).ownsRow base t 5 (.slice (some ⟨g, 0, none⟩) n c) n (xs.set k x) := by
 refine ⟨by rw [List.length_set]; exact h.1, ?_⟩
 rcases h.2 with ⟨q, _⟩ | ⟨g', c', cur, e, q1, q2, q3, q4, q5, q6⟩
 ·cases q
 ·cases e
  refine .inr ⟨g, c, _, rfl, q1, set_at q2, q3, q4, by simp; omega, ?_⟩
  rw [Array.toList_setIfInBounds, List.take_set, q6]
theorem own_kind {w : World} {base n : Nat} {t : TypeId} {v : Value} {xs : List Value} (h : w.ownsRow base t 5 v n xs) {g : Nat} (hg : v.ownBlock = some g) : ∃ cs, w.heap[g]? = some (.cells cs t (0, 0)) := by
 rcases h.2 with ⟨q, _⟩ | ⟨g', c', cur, e, q1, q2, _⟩
 ·rw [q] at hg; cases hg
 ·rw [e] at hg
  injection hg with hg
  subst hg
  exact ⟨cur, q2⟩
def elT (t : Int) (x : El) : El := (x.1, x.2.1, t, x.2.2.2)
def rwT (t : Int) (r : Rw) : Rw := (r.1, r.2.1, t, r.2.2.2.1, r.2.2.2.2)
theorem flat5_setT (t : Int) : ∀ (xs : List El) (j : Nat) (h : j < xs.length), (flat5 xs).set (j * 5 + 2) (.int .i64 t) = flat5 (xs.set j (elT t xs[j]))
 | [], j, h => by simp at h
 | x :: r, 0, h => by
  show (ev x ++ flat5 r).set 2 _ = ev (elT t x) ++ flat5 r
  rw [List.set_append_left _ _ (by simp [ev])]
  rfl
 | x :: r, j + 1, h => by
  have hr : j < r.length := by simpa using h
  have ih := flat5_setT t r j hr
  show (ev x ++ flat5 r).set _ _ = ev x ++ flat5 (r.set j (elT t (r[j]'hr)))
  rw [List.set_append_right _ _ (by simp [ev]; omega), ← ih]
  congr 2
  simp [ev]; omega
theorem RowsX.setTo {base hi : Nat} {w : World} {g n cap : Nat} {rs : List Rw} {xs : List El} (h : RowsX base hi w (.slice (some ⟨g, 0, none⟩) n cap) rs xs) {j : Nat} (hj : j < rs.length) (t : Int) :
  RowsX base hi (w.setCell ⟨g, j * 5 + 2, none⟩ (.int .i64 t)) (.slice (some ⟨g, 0, none⟩) n cap) (rs.set j (rwT t rs[j])) (xs.set j (elT t (xs[j]'(by rw [h.1]; exact hj)))) := by
 obtain ⟨h1, h2, h3, h4, c, cp, h5, h6⟩ := h
 have hn : n = rs.length := by
  rcases h2.2 with ⟨q, _⟩ | ⟨g', c', cur, e, _⟩
  ·cases q
  ·injection e with _ e _
 have hxj : j < xs.length := by omega
 subst hn
 refine ⟨by simp [h1], ?_, h3, by simpa using h4, c, cp, fun k hk => ?_, fun a b hab hb => h6 a b hab (by simpa using hb)⟩
 ·rw [List.length_set, ← flat5_setT t xs j hxj]
  exact own_set1 h2 _
 ·have hk' : k < rs.length := by simpa using hk
  obtain ⟨a1, a2, a3, a4, a5, a6, a7⟩ := h5 k hk'
  have hne : c k ≠ g := fun e => a6 (by rw [e]; rfl)
  have hp : ∀ r : Rw, r.2.2.2.2 = rs[k].2.2.2.2 → r.2.2.2.2.length ≤ cp k ∧ r.2.2.2.2.length ≤ 1099511627776 ∧ base ≤ c k ∧ c k < hi ∧ Value.ownBlock (.slice (some ⟨g, 0, none⟩) rs.length cap) ≠ some (c k) ∧ PtsOwn (w.setCell ⟨g, j * 5 + 2, none⟩ (.int .i64 t)) (c k) r.2.2.2.2 := by
   intro r hr
   rw [hr]
   exact ⟨a2, a3, a4, a5, a6, own_blk a7 (Below.heap_setCell _ _ _ _ (by dsimp only; omega)) (by simp; exact a7.1)⟩
  by_cases e : j = k
  ·subst e
   have er : (rs.set j (rwT t rs[j]))[j]'hk = rwT t rs[j] := by simp
   rw [er]
   refine ⟨?_, hp _ rfl⟩
   have ex : xs[j] = elR rs[j] (c j) (cp j) := by rw [List.getElem?_eq_getElem hxj] at a1; injection a1
   rw [List.getElem?_set_self hxj, ex]
   rfl
  ·have er : (rs.set j (rwT t rs[j]))[k]'hk = rs[k] := by rw [List.getElem_set_ne e]
   rw [er]
   exact ⟨by rw [List.getElem?_set_ne e]; exact a1, hp _ rfl⟩
def Off (p : Nat) (v : Value) (xs : List El) : Prop := v.ownBlock ≠ some p ∧ ∀ (j : Nat) (x : El), xs[j]? = some x → x.2.2.2.2.1 ≠ some (⟨p, 0, none⟩ : Addr)
theorem RowsX.but {base hi p : Nat} {w w' : World} {v : Value} {rs : List Rw} {xs : List El} (h : RowsX base hi w v rs xs) (ho : Off p v xs) (hb : ∀ c, c < w.heap.size → c ≠ p → w'.heap[c]? = w.heap[c]?) (hs : w.heap.size ≤ w'.heap.size) : RowsX base hi w' v rs xs := by
 obtain ⟨h1, h2, h3, h4, c, cp, h5, h6⟩ := h
 refine ⟨h1, own_frame h2 (fun g e => hb g (by have := h3 g e; omega) (fun q => ho.1 (by rw [← q]; exact e))), h3, by omega, c, cp, fun j hj => ?_, h6⟩
 obtain ⟨a1, a2, a3, a4, a5, a6, a7⟩ := h5 j hj
 refine ⟨a1, a2, a3, a4, a5, a6, own_blk a7 (hb _ (by omega) (fun q => ?_)) (by omega)⟩
 have := ho.2 j _ a1
 simp only [elR, ne_eq, Option.some.injEq, Addr.mk.injEq, and_true] at this
 exact this q
theorem Off.setTo {p : Nat} {v : Value} {xs : List El} (h : Off p v xs) {j : Nat} (hj : j < xs.length) (t : Int) : Off p v (xs.set j (elT t xs[j])) := by
 refine ⟨h.1, fun k x hx => ?_⟩
 by_cases e : j = k
 ·subst e
  rw [List.getElem?_set_self hj] at hx
  injection hx with hx
  rw [← hx]
  show (xs[j]).2.2.2.2.1 ≠ _
  exact h.2 j xs[j] (List.getElem?_eq_getElem hj)
 ·rw [List.getElem?_set_ne e] at hx
  exact h.2 k x hx
theorem Off.new {base hi p : Nat} {w : World} {v : Value} {rs : List Rw} {xs : List El} (h : RowsX base hi w v rs xs) (hp : p < base ∨ hi ≤ p) : Off p v xs := by
 obtain ⟨h1, h2, h3, h4, c, cp, h5, h6⟩ := h
 refine ⟨fun e => by have := h3 p e; have := (h2.lt p e).1; omega, fun j x hx => ?_⟩
 have hj : j < rs.length := by rw [← h1]; exact (List.getElem?_eq_some_iff.1 hx).1
 obtain ⟨a1, a2, a3, a4, a5, _⟩ := h5 j hj
 rw [a1] at hx
 injection hx with hx
 rw [← hx]
 simp only [elR, ne_eq, Option.some.injEq, Addr.mk.injEq, and_true]
 omega
theorem Off.snoc {p : Nat} {v : Value} {xs : List El} (h : Off p v xs) {r : Rw} {c cp g n cap : Nat} (hc : c ≠ p) (hg : g ≠ p) : Off p (.slice (some ⟨g, 0, none⟩) n cap) (xs ++ [elR r c cp]) := by
 refine ⟨by simp only [Value.ownBlock, ne_eq, Option.some.injEq]; exact hg, fun j x hx => ?_⟩
 rcases Nat.lt_or_ge j xs.length with hj | hj
 ·rw [List.getElem?_append_left hj] at hx
  exact h.2 j x hx
 ·rw [List.getElem?_append_right hj] at hx
  have : j - xs.length = 0 := by
   rcases Nat.eq_zero_or_pos (j - xs.length) with q | q
   ·exact q
   ·rw [List.getElem?_eq_none (by simp; omega)] at hx; cases hx
  rw [this] at hx
  simp at hx
  rw [← hx]
  simp only [elR, ne_eq, Option.some.injEq, Addr.mk.injEq, and_true]
  exact hc
def apb (now : Int) (rs : List Rw) (cs : List Ch) : Bool := (decide (now ≤ 1000000000) && decide (rs.length + bgn cs ≤ 300)) && (rowsb now rs && cgs cs)
def aprs (now : Int) (rs : List Rw) (cs : List Ch) : List Rw := if apb now rs cs = true then apl (now + 1) rs cs else rs
def apnow (now : Int) (rs : List Rw) (cs : List Ch) : Int := if apb now rs cs = true then now + 1 else now
def APR (w : World) (now : Int) (rs : List Rw) (cs : List Ch) (e : Ending) (w' : World) : Prop :=
 ∃ v xs, e = .returned (.tuple #[.agg #[.int .i64 (apnow now rs cs), v], .bool (apb now rs cs)]) ∧ RowsX w.heap.size w'.heap.size w' v (aprs now rs cs) xs ∧ Below w.heap.size w w'
end Go.Proofs.YtenlhgnobfadgaaGreatDoor
