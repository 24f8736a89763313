/- RowAt of both sides. -/
import Derived.Test.YtafjjchebmldeaaGreatDoorRwA1
import Derived.Test.YtafjjchebmldeaaGreatDoorRwJ
namespace Go.Proofs.YtafjjchebmldeaaGreatDoor
open Go.RowKit
set_option linter.unusedSimpArgs false
set_option linter.unusedVariables false
def ratb (now : Int) (rs : List Rw) (id t : Int) : Option Rw := if rowsb now rs = true then rat rs id t else none
theorem shok_pos {k : Int} {ps : List (Int × Int)} (h : shok k ps = true) : 0 < ps.length := by
  unfold shok at h
  split at h
  · simp only [Bool.and_eq_true, decide_eq_true_eq] at h; omega
  split at h
  · simp only [lineb, Bool.and_eq_true, decide_eq_true_eq] at h; omega
  split at h
  · simp only [rectb, Bool.and_eq_true, decide_eq_true_eq] at h; omega
  split at h
  · simp only [ringOk, Bool.and_eq_true, decide_eq_true_eq] at h; omega
  · cases h
theorem rowsb_pos {now : Int} {rs : List Rw} (h : rowsb now rs = true) : ∀ m (h : m < rs.length), 0 < rs[m].2.2.2.2.length := by
  intro m hm
  unfold rowsb at h
  simp only [Bool.and_eq_true, List.all_eq_true] at h
  have := h.2.1 rs[m] (List.getElem_mem hm)
  unfold rowb at this
  simp only [Bool.and_eq_true] at this
  exact shok_pos this.2
set_option maxRecDepth 100000 in
set_option maxHeartbeats 2000000 in
theorem spec_RowAt {N : Nat → Prop} (now : Int) (a : Option Addr) (cap : Nat) (rs : List Rw) (id t : Int) (w : World) (hm : rs.length ≤ 1099511627776) (h : Rws N w a rs) : Calls Tryz.prog 44 #[.agg #[.int .i64 now, .slice a rs.length cap], .int .i64 id, .int .i64 t] w fun e w' => RA w (raK (ratb now rs id t)) (raP (ratb now rs id t)) (ratb now rs id t).isSome e w' := by
  have HOK := hid (fun (W : World) (hb : Below w.heap.size w W) => spec_RowsOk now a cap rs W hm (h.below hb))
  have HSR : Hid (rowsb now rs = true → ∀ (W : World) (hb : Below w.heap.size w W), Calls Tryz.prog 67 #[.agg #[.int .i64 now, .slice a rs.length cap], .int .i64 id, .int .i64 t] W fun e w' => RA W (raK (ratb now rs id t)) (raP (ratb now rs id t)) (ratb now rs id t).isSome e w') := hid (fun e W hb => by
    have hr : ratb now rs id t = rat rs id t := by unfold ratb; rw [if_pos e]
    rw [hr]
    exact spec_row now a cap rs id t W hm (h.below hb) (rowsb_pos e))
  have HNO : Hid (rowsb now rs = false → raK (ratb now rs id t) = 0 ∧ raP (ratb now rs id t) = [] ∧ (ratb now rs id t).isSome = false) := hid (fun e => by
    have hr : ratb now rs id t = none := by unfold ratb; rw [if_neg (by rw [e]; simp)]
    rw [hr]; exact ⟨rfl, rfl, rfl⟩)
  clear h
  generalize raK (ratb now rs id t) = rk at *
  generalize raP (ratb now rs id t) = rp at *
  generalize (ratb now rs id t).isSome = rb at *
  generalize rowsb now rs = ob at *
  generalize rs.length = n at *
  go_enter Tryz.func44, Tryz.ntmps44
  go_upto_region 1 with fail
  have hBx : Below w.heap.size w ((w.alloc (.cells #[.int .i64 now, .slice a n cap] 36)).alloc (.cells #[.int .i64 0, .slice none 0 0] 31)) := balloc (balloc (Below.refl _ _) _) _
  have g0 := old_alloc (o' := .cells #[.int .i64 0, .slice none 0 0] 31) (new_alloc w w.heap.size (.cells #[.int .i64 now, .slice a n cap] 36) rfl)
  have g1 := new_alloc (w.alloc (.cells #[.int .i64 now, .slice a n cap] 36)) (w.heap.size + 1) (.cells #[.int .i64 0, .slice none 0 0] 31) (by simp)
  generalize (w.alloc (.cells #[.int .i64 now, .slice a n cap] 36)).alloc (.cells #[.int .i64 0, .slice none 0 0] 31) = W0 at *
  obtain ⟨d0, d1, _, _⟩ := cell2r g0
  go_wp2_with fail
  refine (HOK.out _ hBx).mono ?_
  rintro e z ⟨rfl, hz⟩
  replace g0 := keepheapA hz g0
  replace g1 := keepheapA hz g1
  have HB := hid (btrans hBx hz)
  clear hBx hz HOK d0 d1
  obtain ⟨d0, d1, _, _⟩ := cell2r g0
  obtain ⟨v0, v1, w0, w1⟩ := cell2r g1
  cases ob
  · obtain ⟨e1, e2, e3⟩ := HNO.out rfl
    go_wp2_with fail
    have gF := set2r g1 (.int .i64 0) (.slice none 0 0)
    have bF := bset (bset HB.out (q := w.heap.size + 1) (k := 0) (by omega) (.int .i64 0)) (q := w.heap.size + 1) (k := 1) (by omega) (.slice none 0 0)
    generalize (z.setCell ⟨w.heap.size + 1, 0, none⟩ (.int .i64 0)).setCell ⟨w.heap.size + 1, 1, none⟩ (.slice none 0 0) = wf at *
    obtain ⟨z0, z1, _, _⟩ := cell2r gF
    exact bodyPost_ret (v := .tuple #[.agg #[.int .i64 0, .slice none 0 0], .bool false]) (by simp [results, Tryz.results44, go_sem, z0, z1]) rfl (ra_no e1 e2 e3 bF)
  · have SR := hid (HSR.out rfl z HB.out)
    have HG1 := hid g1
    clear HSR HNO g0 g1 v0 v1 w0 w1
    go_wp2_with fail
    refine SR.out.mono ?_
    rintro e y ⟨a', cap', rfl, hc, ho, hnew, hy⟩
    have g1 := keepheapA hy HG1.out
    have HBy := hid (btrans HB.out hy)
    have HO := hid ho
    have hzs := lt_of_block HG1.out
    clear ho hy d0 d1
    obtain ⟨v0, v1, w0, w1⟩ := cell2r g1
    go_wp2_with fail
    have gF := set2r g1 (.int .i64 rk) (.slice a' rp.length cap')
    have bF := bset (bset HBy.out (q := w.heap.size + 1) (k := 0) (by omega) (.int .i64 rk)) (q := w.heap.size + 1) (k := 1) (by omega) (.slice a' rp.length cap')
    have oF : (a' = none ∧ rp = []) ∨ ∃ b, a' = some ⟨b, 0, none⟩ ∧ PtsOwn ((y.setCell ⟨w.heap.size + 1, 0, none⟩ (.int .i64 rk)).setCell ⟨w.heap.size + 1, 1, none⟩ (.slice a' rp.length cap')) b rp := by
      rcases HO.out with h | ⟨b, e, h⟩
      · exact .inl h
      · have hb := hnew b 0 e
        refine .inr ⟨b, e, own_blk h ?_ (by simp; exact h.1)⟩
        rw [Below.heap_setCell _ _ _ _ (by dsimp only; omega), Below.heap_setCell _ _ _ _ (by dsimp only; omega)]
    generalize (y.setCell ⟨w.heap.size + 1, 0, none⟩ (.int .i64 rk)).setCell ⟨w.heap.size + 1, 1, none⟩ (.slice a' rp.length cap') = wf at *
    obtain ⟨z0, z1, _, _⟩ := cell2r gF
    exact bodyPost_ret (v := .tuple #[.agg #[.int .i64 rk, .slice a' rp.length cap'], .bool rb]) (by simp [results, Tryz.results44, go_sem, z0, z1]) rfl ⟨a', cap', rfl, hc, oF, fun b off e => by have := hnew b off e; omega, bF⟩
end Go.Proofs.YtafjjchebmldeaaGreatDoor
