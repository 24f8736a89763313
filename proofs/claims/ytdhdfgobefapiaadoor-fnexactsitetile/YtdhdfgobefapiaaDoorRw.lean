/- Rows in memory: counted, copied, held one against the other. -/
import Derived.Test.YtdhdfgobefapiaaDoorShLaw
import Derived.Test.YtdhdfgobefapiaaDoorRw0
namespace Go.Proofs.YtdhdfgobefapiaaDoor
open Go.RowKit
set_option linter.unusedSimpArgs false
set_option linter.unusedVariables false
set_option maxHeartbeats 2000000 in
theorem to_row (r : Rw) (a : Option Addr) (cap : Nat) (w : World) (hm : r.2.2.2.2.length ≤ 1099511627776) (hc : r.2.2.2.2.length ≤ cap) (h : Pts w a r.2.2.2.2) : Calls Tryd.prog 53 #[rwv r a cap] w fun e w' => ∃ b, e = .returned (rwv r (some ⟨b, 0, none⟩) r.2.2.2.2.length) ∧ w.heap.size ≤ b ∧ PtsOwn w' b r.2.2.2.2 ∧ Below w.heap.size w w' := by
  obtain ⟨id, fr, te, kd, ps⟩ := r
  unfold rwv
  simp only at *
  have TS := hid (fun (W : World) (hb : Below w.heap.size w W) => to_shape kd a cap ps W hm hc (h.below hb))
  unfold shv at TS
  clear h
  generalize hn : ps.length = n at *
  have HN := hid hn
  clear hn
  go_enter Tryd.func53, Tryd.ntmps53
  go_wp2_with fail
  have hB0 : Below w.heap.size w (((w.alloc (.cells #[.int .i64 id, .int .i64 fr, .int .i64 te, .int .i64 kd, .slice a n cap] 111)).alloc (.cells #[.int .i64 0, .int .i64 0, .int .i64 0, .int .i64 0, .slice none 0 0] 117)).alloc (.cells #[.int .i64 id, .int .i64 fr, .int .i64 te, .int .i64 0, .slice none 0 0] 117)) := balloc (balloc (balloc (Below.refl _ _) _) _) _
  have g2 := old_alloc (o' := .cells #[.int .i64 id, .int .i64 fr, .int .i64 te, .int .i64 0, .slice none 0 0] 117) (new_alloc (w.alloc (.cells #[.int .i64 id, .int .i64 fr, .int .i64 te, .int .i64 kd, .slice a n cap] 111)) (w.heap.size + 1) (.cells #[.int .i64 0, .int .i64 0, .int .i64 0, .int .i64 0, .slice none 0 0] 117) (by simp))
  have g3 := new_alloc ((w.alloc (.cells #[.int .i64 id, .int .i64 fr, .int .i64 te, .int .i64 kd, .slice a n cap] 111)).alloc (.cells #[.int .i64 0, .int .i64 0, .int .i64 0, .int .i64 0, .slice none 0 0] 117)) (w.heap.size + 1 + 1) (.cells #[.int .i64 id, .int .i64 fr, .int .i64 te, .int .i64 0, .slice none 0 0] 117) (by simp)
  generalize (((w.alloc (.cells #[.int .i64 id, .int .i64 fr, .int .i64 te, .int .i64 kd, .slice a n cap] 111)).alloc (.cells #[.int .i64 0, .int .i64 0, .int .i64 0, .int .i64 0, .slice none 0 0] 117)).alloc (.cells #[.int .i64 id, .int .i64 fr, .int .i64 te, .int .i64 0, .slice none 0 0] 117)) = W at *
  have hlW := lt_of_block g3
  refine (TS.out _ hB0).mono ?_
  rintro e w1 ⟨b, rfl, hbb, ho, hb1⟩
  replace g2 := keepheap2 hb1 g2
  replace g3 := keepheap2 hb1 g3
  have hB := btrans hB0 hb1
  have HO := hid ho
  clear hb1 hB0 ho
  obtain ⟨⟨a0, a1, a2, a3, a4⟩, f0, f1, f2, f3, f4⟩ := cell5g g2
  obtain ⟨⟨b0, b1, b2, b3, b4⟩, e0, e1, e2, e3, e4⟩ := cell5g g3
  go_wp2_with fail
  have gF := set5 (set_far (q := w.heap.size + 1 + 1) (k := 4) (u := .slice (some ⟨b, 0, none⟩) n n) (set_far (q := w.heap.size + 1 + 1) (k := 3) (u := .int .i64 kd) g2 (by omega)) (by omega)) (.int .i64 id) (.int .i64 fr) (.int .i64 te) (.int .i64 kd) (.slice (some ⟨b, 0, none⟩) n n)
  have bF : Below w.heap.size w (((((((w1.setCell ⟨w.heap.size + 1 + 1, 3, none⟩ (.int .i64 kd)).setCell ⟨w.heap.size + 1 + 1, 4, none⟩ (.slice (some ⟨b, 0, none⟩) n n)).setCell ⟨w.heap.size + 1, 0, none⟩ (.int .i64 id)).setCell ⟨w.heap.size + 1, 1, none⟩ (.int .i64 fr)).setCell ⟨w.heap.size + 1, 2, none⟩ (.int .i64 te)).setCell ⟨w.heap.size + 1, 3, none⟩ (.int .i64 kd)).setCell ⟨w.heap.size + 1, 4, none⟩ (.slice (some ⟨b, 0, none⟩) n n)) := bset (bset (bset (bset (bset (bset (bset hB (by omega) _) (by omega) _) (by omega) _) (by omega) _) (by omega) _) (by omega) _) (by omega) _
  have oF : PtsOwn (((((((w1.setCell ⟨w.heap.size + 1 + 1, 3, none⟩ (.int .i64 kd)).setCell ⟨w.heap.size + 1 + 1, 4, none⟩ (.slice (some ⟨b, 0, none⟩) n n)).setCell ⟨w.heap.size + 1, 0, none⟩ (.int .i64 id)).setCell ⟨w.heap.size + 1, 1, none⟩ (.int .i64 fr)).setCell ⟨w.heap.size + 1, 2, none⟩ (.int .i64 te)).setCell ⟨w.heap.size + 1, 3, none⟩ (.int .i64 kd)).setCell ⟨w.heap.size + 1, 4, none⟩ (.slice (some ⟨b, 0, none⟩) n n)) b ps := by
    refine HO.out.of_block ?_ (by simp)
    rw [Below.heap_setCell _ _ _ _ (by dsimp only; omega), Below.heap_setCell _ _ _ _ (by dsimp only; omega), Below.heap_setCell _ _ _ _ (by dsimp only; omega), Below.heap_setCell _ _ _ _ (by dsimp only; omega), Below.heap_setCell _ _ _ _ (by dsimp only; omega), Below.heap_setCell _ _ _ _ (by dsimp only; omega), Below.heap_setCell _ _ _ _ (by dsimp only; omega)]
  generalize ((((((w1.setCell ⟨w.heap.size + 1 + 1, 3, none⟩ (.int .i64 kd)).setCell ⟨w.heap.size + 1 + 1, 4, none⟩ (.slice (some ⟨b, 0, none⟩) n n)).setCell ⟨w.heap.size + 1, 0, none⟩ (.int .i64 id)).setCell ⟨w.heap.size + 1, 1, none⟩ (.int .i64 fr)).setCell ⟨w.heap.size + 1, 2, none⟩ (.int .i64 te)).setCell ⟨w.heap.size + 1, 3, none⟩ (.int .i64 kd)).setCell ⟨w.heap.size + 1, 4, none⟩ (.slice (some ⟨b, 0, none⟩) n n) = wf at *
  obtain ⟨⟨z0, z1, z2, z3, z4⟩, _⟩ := cell5g gF
  exact bodyPost_ret (v := .agg #[.int .i64 id, .int .i64 fr, .int .i64 te, .int .i64 kd, .slice (some ⟨b, 0, none⟩) n n]) (by simp [results, Tryd.results53, go_sem, z0, z1, z2, z3, z4]) rfl ⟨b, rfl, by omega, oF, bF⟩
theorem Tryd.infoRow : (Tryd.prog.info? 117).map (fun i => (i.zero, i.size, i.bytes)) = some (some (.agg #[.int .i64 0, .int .i64 0, .int .i64 0, .int .i64 0, .slice none 0 0]), 5, 56) := by kernel_rfl
theorem make_rows (n : Nat) (hn : n ≤ 1099511627776) (w : World) : (Instr.makeSlice 38 (.int .i64 n) (.int .i64 n)).run Tryd.prog w = .ok (.slice (some ⟨w.heap.size, 0, none⟩) n n) (w.alloc (.cells (madeCells #[.int .i64 0, .int .i64 0, .int .i64 0, .int .i64 0, .slice none 0 0] (n * 5)) 117)) := by
  obtain ⟨i0, hi, hz0, hz1, hz2⟩ := info_parts Tryd.infoRow
  have := run_make (P := Tryd.prog) w 38 117 i0 _ Tryd.underlying38 hi hz0 .i64 .i64 n n (by omega) (by omega) (by rw [hz2]; omega) (by omega)
  rw [hz1] at this
  exact this
theorem made_own5 (w : World) (n : Nat) : (w.alloc (.cells (madeCells #[.int .i64 0, .int .i64 0, .int .i64 0, .int .i64 0, .slice none 0 0] (n * 5)) 117)).there w.heap.size 0 (n * 5) := by
  intro j hj
  simp only [Nat.zero_add]
  refine ⟨?_, World.frozen?_alloc_new w _ _ j⟩
  rw [World.cell?_alloc_new]
  have hs := size_madeCells #[.int .i64 0, .int .i64 0, .int .i64 0, .int .i64 0, .slice none 0 0] (n * 5)
  rw [Array.getElem?_eq_getElem (by rw [hs]; exact hj)]
  rfl
/-- Five cells of a block are written: those of one row more. -/
theorem put_row {N : Nat → Prop} {w : World} {B k n b : Nat} {rs : List Rw} (hN : ∀ c, N c → c ≠ B) (hk : k < rs.length) (hn : rs.length = n) (h : ∀ j (hj : j < rs.length), j < k → RwAt N w B (j * 5) rs[j]) (ht : w.there B 0 (n * 5)) (hb : N b) (hm : rs[k].2.2.2.2.length ≤ 1099511627776) (ho : PtsOwn w b rs[k].2.2.2.2) :
    (∀ j (hj : j < rs.length), j < k + 1 → RwAt N (((((w.setCell ⟨B, k * 5, none⟩ (.int .i64 rs[k].1)).setCell ⟨B, k * 5 + 1, none⟩ (.int .i64 rs[k].2.1)).setCell ⟨B, k * 5 + 2, none⟩ (.int .i64 rs[k].2.2.1)).setCell ⟨B, k * 5 + 3, none⟩ (.int .i64 rs[k].2.2.2.1)).setCell ⟨B, k * 5 + 4, none⟩ (.slice (some ⟨b, 0, none⟩) rs[k].2.2.2.2.length rs[k].2.2.2.2.length)) B (j * 5) rs[j]) ∧
    (((((w.setCell ⟨B, k * 5, none⟩ (.int .i64 rs[k].1)).setCell ⟨B, k * 5 + 1, none⟩ (.int .i64 rs[k].2.1)).setCell ⟨B, k * 5 + 2, none⟩ (.int .i64 rs[k].2.2.1)).setCell ⟨B, k * 5 + 3, none⟩ (.int .i64 rs[k].2.2.2.1)).setCell ⟨B, k * 5 + 4, none⟩ (.slice (some ⟨b, 0, none⟩) rs[k].2.2.2.2.length rs[k].2.2.2.2.length)).there B 0 (n * 5) := by
  subst hn
  have e : ((((w.setCell ⟨B, k * 5, none⟩ (.int .i64 rs[k].1)).setCell ⟨B, k * 5 + 1, none⟩ (.int .i64 rs[k].2.1)).setCell ⟨B, k * 5 + 2, none⟩ (.int .i64 rs[k].2.2.1)).setCell ⟨B, k * 5 + 3, none⟩ (.int .i64 rs[k].2.2.2.1)).setCell ⟨B, k * 5 + 4, none⟩ (.slice (some ⟨b, 0, none⟩) rs[k].2.2.2.2.length rs[k].2.2.2.2.length) = w.setCells B (k * 5) [.int .i64 rs[k].1, .int .i64 rs[k].2.1, .int .i64 rs[k].2.2.1, .int .i64 rs[k].2.2.2.1, .slice (some ⟨b, 0, none⟩) rs[k].2.2.2.2.length rs[k].2.2.2.2.length] := rfl
  have hblk : ∀ c, c ≠ B → (w.setCells B (k * 5) [.int .i64 rs[k].1, .int .i64 rs[k].2.1, .int .i64 rs[k].2.2.1, .int .i64 rs[k].2.2.2.1, .slice (some ⟨b, 0, none⟩) rs[k].2.2.2.2.length rs[k].2.2.2.2.length]).heap[c]? = w.heap[c]? := by
    intro c hc
    rw [← e]
    rw [Below.heap_setCell _ _ _ _ (by dsimp only; omega), Below.heap_setCell _ _ _ _ (by dsimp only; omega), Below.heap_setCell _ _ _ _ (by dsimp only; omega), Below.heap_setCell _ _ _ _ (by dsimp only; omega), Below.heap_setCell _ _ _ _ (by dsimp only; omega)]
  have hsz : (w.setCells B (k * 5) [.int .i64 rs[k].1, .int .i64 rs[k].2.1, .int .i64 rs[k].2.2.1, .int .i64 rs[k].2.2.2.1, .slice (some ⟨b, 0, none⟩) rs[k].2.2.2.2.length rs[k].2.2.2.2.length]).heap.size = w.heap.size := by
    rw [← e]; simp
  rw [e]
  have hth : w.there B (k * 5) 5 := by
    intro j hj
    have := ht (k * 5 + j) (by omega)
    rwa [Nat.zero_add] at this
  have hr := World.rangeAt_setCells_same w B (k * 5) [.int .i64 rs[k].1, .int .i64 rs[k].2.1, .int .i64 rs[k].2.2.1, .int .i64 rs[k].2.2.2.1, .slice (some ⟨b, 0, none⟩) rs[k].2.2.2.2.length rs[k].2.2.2.2.length] hth
  refine ⟨?_, World.there_setCells ht _ _ _⟩
  intro j hj hjk
  by_cases ej : j = k
  · subst ej
    refine ⟨some ⟨b, 0, none⟩, rs[j].2.2.2.2.length, by simpa using hr 0 _ rfl, hr 1 _ rfl, hr 2 _ rfl, hr 3 _ rfl, hr 4 _ rfl, Nat.le_refl _, hm, (ho.of_block (hblk b (hN b hb)) (by omega)).pts, fun c off e => by cases e; exact hb⟩
  · obtain ⟨a, cap, h0, h1, h2, h3, h4, h5, h6, h7, h8⟩ := h j hj (by omega)
    have far : ∀ i, i < 5 → (w.setCells B (k * 5) [.int .i64 rs[k].1, .int .i64 rs[k].2.1, .int .i64 rs[k].2.2.1, .int .i64 rs[k].2.2.2.1, .slice (some ⟨b, 0, none⟩) rs[k].2.2.2.2.length rs[k].2.2.2.2.length]).cell? ⟨B, j * 5 + i, none⟩ = w.cell? ⟨B, j * 5 + i, none⟩ := by
      intro i hi
      exact World.cell?_setCells_out B _ (k * 5) w ⟨B, j * 5 + i, none⟩ (fun _ _ => by left; show j * 5 + i < k * 5; omega)
    refine ⟨a, cap, ?_, ?_, ?_, ?_, ?_, h5, h6, ?_, h8⟩
    · have := far 0 (by omega); simp only [Nat.add_zero] at this; rw [this]; exact h0
    · rw [far 1 (by omega)]; exact h1
    · rw [far 2 (by omega)]; exact h2
    · rw [far 3 (by omega)]; exact h3
    · rw [far 4 (by omega)]; exact h4
    · rcases h7 with h7 | ⟨c, off, ea, hc, hp⟩
      · exact .inl h7
      · refine .inr ⟨c, off, ea, by omega, fun i hi => ?_⟩
        have hcb := hblk c (hN c (h8 c off ea))
        have hcc : ∀ q, (w.setCells B (k * 5) [.int .i64 rs[k].1, .int .i64 rs[k].2.1, .int .i64 rs[k].2.2.1, .int .i64 rs[k].2.2.2.1, .slice (some ⟨b, 0, none⟩) rs[k].2.2.2.2.length rs[k].2.2.2.2.length]).cell? ⟨c, q, none⟩ = w.cell? ⟨c, q, none⟩ := fun q => by simp only [World.cell?, hcb]
        rw [hcc, hcc]
        exact hp i hi
end Go.Proofs.YtdhdfgobefapiaaDoor
