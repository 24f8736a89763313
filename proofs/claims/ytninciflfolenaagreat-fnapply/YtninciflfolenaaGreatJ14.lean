/- Texts of stores, joined: Vd, Ve, Vf, Td. -/
import Derived.Test.YtninciflfolenaaGreatJ13
import Derived.Test.YtninciflfolenaaGreatJ8
namespace Go.Proofs.YtninciflfolenaaGreat
open Go.RowKit
set_option linter.unusedSimpArgs false
set_option linter.unusedVariables false
/-- A copy of a row. -/
def RC (w : World) (r : Rw) (e : Ending) (w' : World) : Prop :=
  ∃ g cp, e = .returned (rwv r (some ⟨g, 0, none⟩) cp) ∧ r.2.2.2.2.length ≤ cp ∧ w.heap.size ≤ g ∧ PtsOwn w' g r.2.2.2.2 ∧ Below w.heap.size w w'
set_option maxRecDepth 100000 in
set_option maxHeartbeats 1000000 in
theorem row_copied (r : Rw) (b off cap : Nat) (w : World) (hm : r.2.2.2.2.length ≤ 1099511627776) (hbs : b < w.heap.size) (h : Pts w (some ⟨b, off, none⟩) r.2.2.2.2) : Calls Tryz.prog 45 #[rwv r (some ⟨b, off, none⟩) cap] w fun e w' => RC w r e w' := by
  obtain ⟨id, fr, te, kd, ps⟩ := r
  unfold RC rwv
  simp only at *
  have hB : Below w.heap.size w ((w.alloc (.cells #[.int .i64 id, .int .i64 fr, .int .i64 te, .int .i64 kd, .slice (some ⟨b, off, none⟩) ps.length cap] 55)).alloc (.cells #[.int .i64 0, .int .i64 0, .int .i64 0, .int .i64 0, .slice none 0 0] 55)) := balloc (balloc (Below.refl _ _) _) _
  have HC := hid (impl_copyG kd b off cap ps _ hm (h.below hB) (Nat.lt_of_lt_of_le hbs hB.size))
  clear h
  have g0 := old_alloc (o' := .cells #[.int .i64 0, .int .i64 0, .int .i64 0, .int .i64 0, .slice none 0 0] 55) (new_alloc w w.heap.size (.cells #[.int .i64 id, .int .i64 fr, .int .i64 te, .int .i64 kd, .slice (some ⟨b, off, none⟩) ps.length cap] 55) rfl)
  have g1 := new_alloc (w.alloc (.cells #[.int .i64 id, .int .i64 fr, .int .i64 te, .int .i64 kd, .slice (some ⟨b, off, none⟩) ps.length cap] 55)) (w.heap.size + 1) (.cells #[.int .i64 0, .int .i64 0, .int .i64 0, .int .i64 0, .slice none 0 0] 55) (by simp)
  go_enter Tryz.func45, Tryz.ntmps45
  go_upto_region 1 with fail
  generalize (w.alloc (.cells #[.int .i64 id, .int .i64 fr, .int .i64 te, .int .i64 kd, .slice (some ⟨b, off, none⟩) ps.length cap] 55)).alloc (.cells #[.int .i64 0, .int .i64 0, .int .i64 0, .int .i64 0, .slice none 0 0] 55) = W at *
  obtain ⟨⟨x0, x1, x2, x3, x4⟩, _⟩ := cell5g g0
  go_wp2_with fail
  refine HC.out.mono ?_
  rintro e y ⟨g, cp, rfl, hcp, hgs, ho, hy⟩
  have hWs := lt_of_block g1
  replace g0 := keepheap2 hy g0
  replace g1 := keepheap2 hy g1
  have HB := hid (btrans hB hy)
  have HO := hid ho
  have hgw : w.heap.size + 1 < g := by omega
  clear hB hy ho HC x0 x1 x2 x3 x4
  obtain ⟨⟨x0, x1, x2, x3, x4⟩, y0, y1, y2, y3, y4⟩ := cell5g g0
  obtain ⟨⟨v0, v1, v2, v3, v4⟩, u0, u1, u2, u3, u4⟩ := cell5g g1
  go_wp2_with fail
  have gF := set5 (set_far (q := w.heap.size) (k := 4) (u := .slice (some ⟨g, 0, none⟩) ps.length cp) (set_far (q := w.heap.size) (k := 3) (u := .int .i64 kd) g1 (by omega)) (by omega)) (.int .i64 id) (.int .i64 fr) (.int .i64 te) (.int .i64 kd) (.slice (some ⟨g, 0, none⟩) ps.length cp)
  have bF := bset (bset (bset (bset (bset (bset (bset HB.out (q := w.heap.size) (k := 3) (Nat.le_refl _) (.int .i64 kd)) (q := w.heap.size) (k := 4) (Nat.le_refl _) (.slice (some ⟨g, 0, none⟩) ps.length cp)) (q := w.heap.size + 1) (k := 0) (by omega) (.int .i64 id)) (q := w.heap.size + 1) (k := 1) (by omega) (.int .i64 fr)) (q := w.heap.size + 1) (k := 2) (by omega) (.int .i64 te)) (q := w.heap.size + 1) (k := 3) (by omega) (.int .i64 kd)) (q := w.heap.size + 1) (k := 4) (by omega) (.slice (some ⟨g, 0, none⟩) ps.length cp)
  have oF := own_blk (w' := (((((((y.setCell ⟨w.heap.size, 3, none⟩ (.int .i64 kd)).setCell ⟨w.heap.size, 4, none⟩ (.slice (some ⟨g, 0, none⟩) ps.length cp)).setCell ⟨w.heap.size + 1, 0, none⟩ (.int .i64 id)).setCell ⟨w.heap.size + 1, 1, none⟩ (.int .i64 fr)).setCell ⟨w.heap.size + 1, 2, none⟩ (.int .i64 te)).setCell ⟨w.heap.size + 1, 3, none⟩ (.int .i64 kd)).setCell ⟨w.heap.size + 1, 4, none⟩ (.slice (some ⟨g, 0, none⟩) ps.length cp))) HO.out (by rw [Below.heap_setCell _ _ _ _ (by dsimp only; omega), Below.heap_setCell _ _ _ _ (by dsimp only; omega), Below.heap_setCell _ _ _ _ (by dsimp only; omega), Below.heap_setCell _ _ _ _ (by dsimp only; omega), Below.heap_setCell _ _ _ _ (by dsimp only; omega), Below.heap_setCell _ _ _ _ (by dsimp only; omega), Below.heap_setCell _ _ _ _ (by dsimp only; omega)]) (by simp only [World.size_setCell]; exact HO.out.1)
  generalize (((((((y.setCell ⟨w.heap.size, 3, none⟩ (.int .i64 kd)).setCell ⟨w.heap.size, 4, none⟩ (.slice (some ⟨g, 0, none⟩) ps.length cp)).setCell ⟨w.heap.size + 1, 0, none⟩ (.int .i64 id)).setCell ⟨w.heap.size + 1, 1, none⟩ (.int .i64 fr)).setCell ⟨w.heap.size + 1, 2, none⟩ (.int .i64 te)).setCell ⟨w.heap.size + 1, 3, none⟩ (.int .i64 kd)).setCell ⟨w.heap.size + 1, 4, none⟩ (.slice (some ⟨g, 0, none⟩) ps.length cp)) = wf at *
  obtain ⟨⟨z0, z1, z2, z3, z4⟩, _⟩ := cell5g gF
  exact bodyPost_ret (v := .agg #[.int .i64 id, .int .i64 fr, .int .i64 te, .int .i64 kd, .slice (some ⟨g, 0, none⟩) ps.length cp]) (by simp [results, Tryz.results45, go_sem, z0, z1, z2, z3, z4]) rfl ⟨g, cp, rfl, hcp, by omega, oF, bF⟩
/-- What a function tells of a row that it copies. -/
def RT (w : World) (r : Rw) (q : Bool) (e : Ending) (w' : World) : Prop :=
  ∃ g cp, e = .returned (.tuple #[rwv r (some ⟨g, 0, none⟩) cp, .bool q]) ∧ r.2.2.2.2.length ≤ cp ∧ w.heap.size ≤ g ∧ PtsOwn w' g r.2.2.2.2 ∧ Below w.heap.size w w'
def allb (_ : Rw) : Bool := true
set_option maxRecDepth 100000 in
set_option maxHeartbeats 1000000 in
theorem copied_1 (r : Rw) (b off cap : Nat) (w : World) (hm : r.2.2.2.2.length ≤ 1099511627776) (hbs : b < w.heap.size) (h : Pts w (some ⟨b, off, none⟩) r.2.2.2.2) : Calls Tryz.prog 44 #[rwv r (some ⟨b, off, none⟩) cap] w fun e w' => RT w r (allb r) e w' := by
  show Calls Tryz.prog 44 #[rwv r (some ⟨b, off, none⟩) cap] w fun e w' => RT w r true e w'
  have HC := hid (fun (W : World) (hb : Below w.heap.size w W) => row_copied r b off cap W hm (Nat.lt_of_lt_of_le hbs hb.size) (h.below hb))
  clear h
  obtain ⟨id, fr, te, kd, ps⟩ := r
  unfold RT
  unfold RC rwv at *
  simp only at *
  have hB : Below w.heap.size w ((w.alloc (.cells #[.int .i64 id, .int .i64 fr, .int .i64 te, .int .i64 kd, .slice (some ⟨b, off, none⟩) ps.length cap] 55)).alloc (.cells #[.int .i64 0, .int .i64 0, .int .i64 0, .int .i64 0, .slice none 0 0] 55)) := balloc (balloc (Below.refl _ _) _) _
  have g0 := old_alloc (o' := .cells #[.int .i64 0, .int .i64 0, .int .i64 0, .int .i64 0, .slice none 0 0] 55) (new_alloc w w.heap.size (.cells #[.int .i64 id, .int .i64 fr, .int .i64 te, .int .i64 kd, .slice (some ⟨b, off, none⟩) ps.length cap] 55) rfl)
  have g1 := new_alloc (w.alloc (.cells #[.int .i64 id, .int .i64 fr, .int .i64 te, .int .i64 kd, .slice (some ⟨b, off, none⟩) ps.length cap] 55)) (w.heap.size + 1) (.cells #[.int .i64 0, .int .i64 0, .int .i64 0, .int .i64 0, .slice none 0 0] 55) (by simp)
  go_enter Tryz.func44, Tryz.ntmps44
  go_upto_region 1 with fail
  generalize (w.alloc (.cells #[.int .i64 id, .int .i64 fr, .int .i64 te, .int .i64 kd, .slice (some ⟨b, off, none⟩) ps.length cap] 55)).alloc (.cells #[.int .i64 0, .int .i64 0, .int .i64 0, .int .i64 0, .slice none 0 0] 55) = W at *
  obtain ⟨⟨x0, x1, x2, x3, x4⟩, _⟩ := cell5g g0
  go_wp2_with fail
  refine (HC.out _ hB).mono ?_
  rintro e y ⟨g, cp, rfl, hcp, hgs, ho, hy⟩
  have hWs := lt_of_block g1
  replace g1 := keepheap2 hy g1
  have HB := hid (btrans hB hy)
  have HO := hid ho
  clear hB hy ho HC x0 x1 x2 x3 x4 g0
  obtain ⟨⟨v0, v1, v2, v3, v4⟩, u0, u1, u2, u3, u4⟩ := cell5g g1
  go_wp2_with fail
  have gF := set5 g1 (.int .i64 id) (.int .i64 fr) (.int .i64 te) (.int .i64 kd) (.slice (some ⟨g, 0, none⟩) ps.length cp)
  have bF := bset (bset (bset (bset (bset HB.out (q := w.heap.size + 1) (k := 0) (by omega) (.int .i64 id)) (q := w.heap.size + 1) (k := 1) (by omega) (.int .i64 fr)) (q := w.heap.size + 1) (k := 2) (by omega) (.int .i64 te)) (q := w.heap.size + 1) (k := 3) (by omega) (.int .i64 kd)) (q := w.heap.size + 1) (k := 4) (by omega) (.slice (some ⟨g, 0, none⟩) ps.length cp)
  have oF := own_blk (w' := (((((y.setCell ⟨w.heap.size + 1, 0, none⟩ (.int .i64 id)).setCell ⟨w.heap.size + 1, 1, none⟩ (.int .i64 fr)).setCell ⟨w.heap.size + 1, 2, none⟩ (.int .i64 te)).setCell ⟨w.heap.size + 1, 3, none⟩ (.int .i64 kd)).setCell ⟨w.heap.size + 1, 4, none⟩ (.slice (some ⟨g, 0, none⟩) ps.length cp))) HO.out (by rw [Below.heap_setCell _ _ _ _ (by dsimp only; omega), Below.heap_setCell _ _ _ _ (by dsimp only; omega), Below.heap_setCell _ _ _ _ (by dsimp only; omega), Below.heap_setCell _ _ _ _ (by dsimp only; omega), Below.heap_setCell _ _ _ _ (by dsimp only; omega)]) (by simp only [World.size_setCell]; exact HO.out.1)
  generalize (((((y.setCell ⟨w.heap.size + 1, 0, none⟩ (.int .i64 id)).setCell ⟨w.heap.size + 1, 1, none⟩ (.int .i64 fr)).setCell ⟨w.heap.size + 1, 2, none⟩ (.int .i64 te)).setCell ⟨w.heap.size + 1, 3, none⟩ (.int .i64 kd)).setCell ⟨w.heap.size + 1, 4, none⟩ (.slice (some ⟨g, 0, none⟩) ps.length cp)) = wf at *
  obtain ⟨⟨z0, z1, z2, z3, z4⟩, _⟩ := cell5g gF
  exact bodyPost_ret (v := .tuple #[.agg #[.int .i64 id, .int .i64 fr, .int .i64 te, .int .i64 kd, .slice (some ⟨g, 0, none⟩) ps.length cp], .bool true]) (by simp [results, Tryz.results44, go_sem, z0, z1, z2, z3, z4]) rfl ⟨g, cp, rfl, hcp, by omega, oF, bF⟩
end Go.Proofs.YtninciflfolenaaGreat
namespace Go.Proofs.YtninciflfolenaaGreat
open Go.RowKit
set_option linter.unusedSimpArgs false
set_option linter.unusedVariables false
/-- Rows as the law hands them in: each list of points has an address. -/
def RwsS (w : World) (B : Nat) (rs : List Rw) : Prop := B < w.heap.size ∧ ∀ j (h : j < rs.length), ∃ c cp, c < w.heap.size ∧ w.cell? ⟨B, j * 5, none⟩ = some (.int .i64 rs[j].1) ∧ w.cell? ⟨B, j * 5 + 1, none⟩ = some (.int .i64 rs[j].2.1) ∧ w.cell? ⟨B, j * 5 + 2, none⟩ = some (.int .i64 rs[j].2.2.1) ∧ w.cell? ⟨B, j * 5 + 3, none⟩ = some (.int .i64 rs[j].2.2.2.1) ∧ w.cell? ⟨B, j * 5 + 4, none⟩ = some (.slice (some ⟨c, 0, none⟩) rs[j].2.2.2.2.length cp) ∧ rs[j].2.2.2.2.length ≤ 1099511627776 ∧ Pts w (some ⟨c, 0, none⟩) rs[j].2.2.2.2
theorem RwsS.below {w w' : World} {B : Nat} {rs : List Rw} (h : RwsS w B rs) (H : Below w.heap.size w w') : RwsS w' B rs := by
  refine ⟨Nat.lt_of_lt_of_le h.1 H.size, fun j hj => ?_⟩
  obtain ⟨c, cp, a0, a1, a2, a3, a4, a5, a6, a7⟩ := h.2 j hj
  exact ⟨c, cp, Nat.lt_of_lt_of_le a0 H.size, keepcell H a1, keepcell H a2, keepcell H a3, keepcell H a4, keepcell H a5, a6, a7.below H⟩
theorem flt_next {rs : List Rw} {p : Rw → Bool} {i : Nat} (hi : i < rs.length) : (rs.take (i + 1)).filter p = if p rs[i] = true then (rs.take i).filter p ++ [rs[i]] else (rs.take i).filter p := by
  rw [List.take_add_one, List.getElem?_eq_getElem hi, List.filter_append]
  by_cases h : p rs[i] = true
  · simp [h]
  · simp [h]
theorem make_rows0 (n : Nat) (hn : n ≤ 1099511627776) (w : World) : (Instr.makeSlice 24 (.int .i64 0) (.int .i64 n)).run Tryz.prog w = .ok (.slice (some ⟨w.heap.size, 0, none⟩) 0 n) (w.alloc (.cells (madeCells #[.int .i64 0, .int .i64 0, .int .i64 0, .int .i64 0, .slice none 0 0] (n * 5)) 55)) := by
  obtain ⟨i0, hi, hz0, hz1, hz2⟩ := info_parts Tryz.infoRow
  have := run_make (P := Tryz.prog) w 24 55 i0 _ Tryz.underlying24 hi hz0 .i64 .i64 0 n (by omega) (by omega) (by rw [hz2]; omega) (by omega)
  rw [hz1] at this
  exact this
theorem kept_form {base hi : Nat} {w : World} {v : Value} {rs : List Rw} {xs : List El} (h : RowsX base hi w v rs xs) : ∃ a cap, v = .slice a rs.length cap := by
  rcases h.rows with ⟨rfl, _, e⟩ | ⟨g, cap, e, _⟩
  · exact ⟨none, 0, e⟩
  · exact ⟨_, cap, e⟩
/-- Rows that a call answers, in memory of its own. -/
def VR (w : World) (now : Int) (rs : List Rw) (e : Ending) (w' : World) : Prop :=
  ∃ a cap xs, e = .returned (.agg #[.int .i64 now, .slice a rs.length cap]) ∧ RowsX w.heap.size w'.heap.size w' (.slice a rs.length cap) rs xs ∧ Below w.heap.size w w'
end Go.Proofs.YtninciflfolenaaGreat
namespace Go.Proofs.YtninciflfolenaaGreat
open Go.RowKit
set_option linter.unusedSimpArgs false
set_option linter.unusedVariables false
theorem set1r {w : World} {p : Nat} {o0 o1 : Value} {t : TypeId} (h : w.heap[p]? = some (.cells #[o0, o1] t (0, 0))) (b : Value) : (w.setCell ⟨p, 1, none⟩ b).heap[p]? = some (.cells #[o0, b] t (0, 0)) := by
  have hlt := lt_of_block h
  have h' : w.heap[p] = .cells #[o0, o1] t (0, 0) := by simpa [Array.getElem?_eq_getElem hlt] using h
  show (w.heap.modify p _)[p]? = _
  rw [Array.getElem?_eq_getElem (by simpa using hlt), Array.getElem_modify_self, h']
  rfl
theorem own_nilR {w : World} {B : Nat} : w.ownsRow B 55 5 (.slice none 0 0) 0 [] := ⟨by simp, .inl ⟨rfl, rfl⟩⟩
end Go.Proofs.YtninciflfolenaaGreat
namespace Go.Proofs.YtninciflfolenaaGreat
open Go.RowKit Go.Maps
set_option linter.unusedSimpArgs false
set_option linter.unusedVariables false
theorem keepset9 {w : World} {p q : Addr} {v u : Value} (h : w.cell? p = some v) (hne : p ≠ q) : (w.setCell q u).cell? p = some v := by
  rw [World.cell?_setCell_other _ _ _ _ (by first | exact hne | exact hne.symm)]; exact h
theorem own_set1 {w : World} {base g c n k : Nat} {t : TypeId} {xs : List Value} (h : w.ownsRow base t 5 (.slice (some ⟨g, 0, none⟩) n c) n xs) (x : Value) : (w.setCell ⟨g, k, none⟩ x).ownsRow base t 5 (.slice (some ⟨g, 0, none⟩) n c) n (xs.set k x) := by
  refine ⟨by rw [List.length_set]; exact h.1, ?_⟩
  rcases h.2 with ⟨q, _⟩ | ⟨g', c', cur, e, q1, q2, q3, q4, q5, q6⟩
  · cases q
  · cases e
    refine .inr ⟨g, c, _, rfl, q1, set_at q2, q3, q4, by simp; omega, ?_⟩
    rw [Array.toList_setIfInBounds, List.take_set, q6]
theorem own_kind {w : World} {base n : Nat} {t : TypeId} {v : Value} {xs : List Value} (h : w.ownsRow base t 5 v n xs) {g : Nat} (hg : v.ownBlock = some g) : ∃ cs, w.heap[g]? = some (.cells cs t (0, 0)) := by
  rcases h.2 with ⟨q, _⟩ | ⟨g', c', cur, e, q1, q2, _⟩
  · rw [q] at hg; cases hg
  · rw [e] at hg
    injection hg with hg
    subst hg
    exact ⟨cur, q2⟩
/-- What stands in a row's cells once it is ended. -/
def elT (t : Int) (x : El) : El := (x.1, x.2.1, t, x.2.2.2)
def rwT (t : Int) (r : Rw) : Rw := (r.1, r.2.1, t, r.2.2.2.1, r.2.2.2.2)
theorem flat5_setT (t : Int) : ∀ (xs : List El) (j : Nat) (h : j < xs.length), (flat5 xs).set (j * 5 + 2) (.int .i64 t) = flat5 (xs.set j (elT t xs[j]))
  | [], j, h => by simp at h
  | x :: r, 0, h => by
    show (ev x ++ flat5 r).set 2 _ = ev (elT t x) ++ flat5 r
    rw [List.set_append_left _ _ (by simp [ev])]
    rfl
  | x :: r, j + 1, h => by
    have hr : j < r.length := by simpa using h
    have ih := flat5_setT t r j hr
    show (ev x ++ flat5 r).set _ _ = ev x ++ flat5 (r.set j (elT t (r[j]'hr)))
    rw [List.set_append_right _ _ (by simp [ev]; omega), ← ih]
    congr 2
    simp [ev]; omega
theorem RowsX.setTo {base hi : Nat} {w : World} {g n cap : Nat} {rs : List Rw} {xs : List El} (h : RowsX base hi w (.slice (some ⟨g, 0, none⟩) n cap) rs xs) {j : Nat} (hj : j < rs.length) (t : Int) :
    RowsX base hi (w.setCell ⟨g, j * 5 + 2, none⟩ (.int .i64 t)) (.slice (some ⟨g, 0, none⟩) n cap) (rs.set j (rwT t rs[j])) (xs.set j (elT t (xs[j]'(by rw [h.1]; exact hj)))) := by
  obtain ⟨h1, h2, h3, h4, c, cp, h5, h6⟩ := h
  have hn : n = rs.length := by
    rcases h2.2 with ⟨q, _⟩ | ⟨g', c', cur, e, _⟩
    · cases q
    · injection e with _ e _
  have hxj : j < xs.length := by omega
  subst hn
  refine ⟨by simp [h1], ?_, h3, by simpa using h4, c, cp, fun k hk => ?_, fun a b hab hb => h6 a b hab (by simpa using hb)⟩
  · rw [List.length_set, ← flat5_setT t xs j hxj]
    exact own_set1 h2 _
  · have hk' : k < rs.length := by simpa using hk
    obtain ⟨a1, a2, a3, a4, a5, a6, a7⟩ := h5 k hk'
    have hne : c k ≠ g := fun e => a6 (by rw [e]; rfl)
    have hp : ∀ r : Rw, r.2.2.2.2 = rs[k].2.2.2.2 → r.2.2.2.2.length ≤ cp k ∧ r.2.2.2.2.length ≤ 1099511627776 ∧ base ≤ c k ∧ c k < hi ∧ Value.ownBlock (.slice (some ⟨g, 0, none⟩) rs.length cap) ≠ some (c k) ∧ PtsOwn (w.setCell ⟨g, j * 5 + 2, none⟩ (.int .i64 t)) (c k) r.2.2.2.2 := by
      intro r hr
      rw [hr]
      exact ⟨a2, a3, a4, a5, a6, own_blk a7 (Below.heap_setCell _ _ _ _ (by dsimp only; omega)) (by simp; exact a7.1)⟩
    by_cases e : j = k
    · subst e
      have er : (rs.set j (rwT t rs[j]))[j]'hk = rwT t rs[j] := by simp
      rw [er]
      refine ⟨?_, hp _ rfl⟩
      have ex : xs[j] = elR rs[j] (c j) (cp j) := by rw [List.getElem?_eq_getElem hxj] at a1; injection a1
      rw [List.getElem?_set_self hxj, ex]
      rfl
    · have er : (rs.set j (rwT t rs[j]))[k]'hk = rs[k] := by rw [List.getElem_set_ne e]
      rw [er]
      exact ⟨by rw [List.getElem?_set_ne e]; exact a1, hp _ rfl⟩
/-- A block is none of the rows'. -/
def Off (p : Nat) (v : Value) (xs : List El) : Prop := v.ownBlock ≠ some p ∧ ∀ (j : Nat) (x : El), xs[j]? = some x → x.2.2.2.2.1 ≠ some (⟨p, 0, none⟩ : Addr)
theorem RowsX.but {base hi p : Nat} {w w' : World} {v : Value} {rs : List Rw} {xs : List El} (h : RowsX base hi w v rs xs) (ho : Off p v xs) (hb : ∀ c, c < w.heap.size → c ≠ p → w'.heap[c]? = w.heap[c]?) (hs : w.heap.size ≤ w'.heap.size) : RowsX base hi w' v rs xs := by
  obtain ⟨h1, h2, h3, h4, c, cp, h5, h6⟩ := h
  refine ⟨h1, own_frame h2 (fun g e => hb g (by have := h3 g e; omega) (fun q => ho.1 (by rw [← q]; exact e))), h3, by omega, c, cp, fun j hj => ?_, h6⟩
  obtain ⟨a1, a2, a3, a4, a5, a6, a7⟩ := h5 j hj
  refine ⟨a1, a2, a3, a4, a5, a6, own_blk a7 (hb _ (by omega) (fun q => ?_)) (by omega)⟩
  have := ho.2 j _ a1
  simp only [elR, ne_eq, Option.some.injEq, Addr.mk.injEq, and_true] at this
  exact this q
theorem Off.setTo {p : Nat} {v : Value} {xs : List El} (h : Off p v xs) {j : Nat} (hj : j < xs.length) (t : Int) : Off p v (xs.set j (elT t xs[j])) := by
  refine ⟨h.1, fun k x hx => ?_⟩
  by_cases e : j = k
  · subst e
    rw [List.getElem?_set_self hj] at hx
    injection hx with hx
    rw [← hx]
    show (xs[j]).2.2.2.2.1 ≠ _
    exact h.2 j xs[j] (List.getElem?_eq_getElem hj)
  · rw [List.getElem?_set_ne e] at hx
    exact h.2 k x hx
theorem Off.new {base hi p : Nat} {w : World} {v : Value} {rs : List Rw} {xs : List El} (h : RowsX base hi w v rs xs) (hp : p < base ∨ hi ≤ p) : Off p v xs := by
  obtain ⟨h1, h2, h3, h4, c, cp, h5, h6⟩ := h
  refine ⟨fun e => by have := h3 p e; have := (h2.lt p e).1; omega, fun j x hx => ?_⟩
  have hj : j < rs.length := by rw [← h1]; exact (List.getElem?_eq_some_iff.1 hx).1
  obtain ⟨a1, a2, a3, a4, a5, _⟩ := h5 j hj
  rw [a1] at hx
  injection hx with hx
  rw [← hx]
  simp only [elR, ne_eq, Option.some.injEq, Addr.mk.injEq, and_true]
  omega
theorem Off.snoc {p : Nat} {v : Value} {xs : List El} (h : Off p v xs) {r : Rw} {c cp g n cap : Nat} (hc : c ≠ p) (hg : g ≠ p) : Off p (.slice (some ⟨g, 0, none⟩) n cap) (xs ++ [elR r c cp]) := by
  refine ⟨by simp only [Value.ownBlock, ne_eq, Option.some.injEq]; exact hg, fun j x hx => ?_⟩
  rcases Nat.lt_or_ge j xs.length with hj | hj
  · rw [List.getElem?_append_left hj] at hx
    exact h.2 j x hx
  · rw [List.getElem?_append_right hj] at hx
    have : j - xs.length = 0 := by
      rcases Nat.eq_zero_or_pos (j - xs.length) with q | q
      · exact q
      · rw [List.getElem?_eq_none (by simp; omega)] at hx; cases hx
    rw [this] at hx
    simp at hx
    rw [← hx]
    simp only [elR, ne_eq, Option.some.injEq, Addr.mk.injEq, and_true]
    exact hc
/-- What was answered: rows and whether it was done. -/
def apb (now : Int) (rs : List Rw) (cs : List Ch) : Bool := (decide (now ≤ 1000000000) && decide (rs.length + bgn cs ≤ 300)) && (rowsb now rs && cgs cs)
def aprs (now : Int) (rs : List Rw) (cs : List Ch) : List Rw := if apb now rs cs = true then apl (now + 1) rs cs else rs
def apnow (now : Int) (rs : List Rw) (cs : List Ch) : Int := if apb now rs cs = true then now + 1 else now
def APR (w : World) (now : Int) (rs : List Rw) (cs : List Ch) (e : Ending) (w' : World) : Prop :=
  ∃ v xs, e = .returned (.tuple #[.agg #[.int .i64 (apnow now rs cs), v], .bool (apb now rs cs)]) ∧ RowsX w.heap.size w'.heap.size w' v (aprs now rs cs) xs ∧ Below w.heap.size w w'
end Go.Proofs.YtninciflfolenaaGreat
