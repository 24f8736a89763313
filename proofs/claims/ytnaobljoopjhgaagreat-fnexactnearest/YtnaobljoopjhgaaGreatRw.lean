/- Rows in memory: counted, copied, held one against the other. -/
import Derived.Test.YtnaobljoopjhgaaGreatShLaw
import Derived.Test.YtnaobljoopjhgaaGreatRw0
namespace Go.Proofs.YtnaobljoopjhgaaGreat
open Go.RowKit
set_option linter.unusedSimpArgs false
set_option linter.unusedVariables false
set_option maxHeartbeats 1000000 in
theorem sz_row (r : Rw) (a : Option Addr) (cap : Nat) (left : Int) (w : World) (hm : r.2.2.2.2.length ≤ 1099511627776) (h0 : 0 ≤ left) (h1 : left ≤ 1048576) : Calls Tryz.prog 31 #[rwv r a cap, .int .i64 left] w fun e w' => (∃ v : Int, e = .returned (.int .i64 v) ∧ (v = -1 ∨ (0 ≤ v ∧ v ≤ 1048576))) ∧ Below w.heap.size w w' := by
  obtain ⟨id, fr, te, kd, ps⟩ := r
  unfold rwv
  simp only at *
  by_cases h : left < (ps.length : Int)
  · go_enter Tryz.func31, Tryz.ntmps31
    go_wp2_with fail
    refine (szs_big kd a ps.length cap left _ (by omega) h0 h1 h).mono ?_
    rintro e w1 ⟨rfl, hb⟩
    go_wp2_with fail
    go_ret
    exact ⟨⟨_, rfl, .inl rfl⟩, btrans (balloc (Below.refl _ _) _) hb⟩
  · have h2 : ¬ (left - (ps.length : Int) < 0) := by omega
    go_enter Tryz.func31, Tryz.ntmps31
    go_wp2_with fail
    refine (szs_ok kd a ps.length cap left _ h0 h1 (by omega)).mono ?_
    rintro e w1 ⟨rfl, hb⟩
    go_wp2_with fail
    go_ret
    exact ⟨⟨_, rfl, .inr ⟨by omega, by omega⟩⟩, btrans (balloc (Below.refl _ _) _) hb⟩
set_option maxHeartbeats 1000000 in
theorem sz_rows {N : Nat → Prop} (a : Option Addr) (cap : Nat) (rs : List Rw) (left : Int) (w : World) (hm : rs.length ≤ 1099511627776) (h0 : 0 ≤ left) (h1 : left ≤ 1048576) (h : Rws N w a rs) : Calls Tryz.prog 14 #[.slice a rs.length cap, .int .i64 left] w fun e w' => (∃ v : Int, e = .returned (.int .i64 v) ∧ (v = -1 ∨ (0 ≤ v ∧ v ≤ 1048576))) ∧ Below w.heap.size w w' := by
  have HR := hid h
  clear h
  by_cases hb : left < (rs.length : Int)
  · have h2 : left - (rs.length : Int) < 0 := by omega
    go_enter Tryz.func14, Tryz.ntmps14
    go_wp2_with fail
    go_ret
    exact ⟨⟨_, rfl, .inl rfl⟩, Below.refl _ _⟩
  · have h2 : ¬ (left - (rs.length : Int) < 0) := by omega
    go_enter Tryz.func14, Tryz.ntmps14
    go_wp2_with fail
    go_loopw [5, 1] (fun ti tl wr => ∃ j : Nat, ∃ l : Int, ti = .int .i64 j ∧ tl = .int .i64 l ∧ j ≤ rs.length ∧ 0 ≤ l ∧ l ≤ 1048576 ∧ Hid (Below w.heap.size w wr)) (fun ti _ _ => rs.length - (intOf ti).toNat)
    case atStart => exact ⟨0, _, rfl, rfl, Nat.zero_le _, by omega, by omega, hid (Below.refl _ _)⟩
    case round =>
      obtain ⟨j, l, rfl, rfl, hj, hl0, hl1, HB⟩ := hrel
      by_cases hlt : j < rs.length
      · have c1 : (j : Int) < (rs.length : Int) := by omega
        obtain ⟨b, o, rfl, hbs, hr⟩ := (HR.out.below HB.out).at j hlt
        have hmr : rs[j].2.2.2.2.length ≤ 1099511627776 := by obtain ⟨_, _, _, _, _, _, _, _, h6, _⟩ := hr; exact h6
        obtain ⟨a', cap', k0, k1, k2, k3, k4, k5, k6, k7, k8⟩ := hr
        have S := hid (fun w' => sz_row rs[j] a' cap' l w' hmr hl0 hl1)
        unfold rwv at S
        generalize rs[j].1 = id at *
        generalize rs[j].2.1 = fr at *
        generalize rs[j].2.2.1 = te at *
        generalize rs[j].2.2.2.1 = kd at *
        generalize rs[j].2.2.2.2 = ps at *
        clear k7 k8 k5 k6 hmr
        go_wp2_with fail
        refine (S.out _).mono ?_
        rintro e w1 ⟨⟨v, rfl, hv⟩, hb1⟩
        have hB := btrans HB.out hb1
        rcases hv with rfl | ⟨hv0, hv1⟩
        · go_wp2_with fail
          go_ret
          exact ⟨⟨_, rfl, .inl rfl⟩, hB⟩
        · have hv2 : ¬ v < 0 := by omega
          go_wp2_with fail
          go_roundw
          case rel => exact ⟨j + 1, v, by go_num, rfl, by omega, hv0, hv1, hid hB⟩
          case measure => simp [intOf]; omega
      · have c1 : (rs.length : Int) ≤ (j : Int) := by omega
        go_wp2_with fail
        go_ret
        exact ⟨⟨_, rfl, .inr ⟨hl0, hl1⟩⟩, HB.out⟩
set_option maxHeartbeats 1000000 in
theorem sz_all {N : Nat → Prop} (now : Int) (a : Option Addr) (cap : Nat) (rs : List Rw) (w : World) (hm : rs.length ≤ 1099511627776) (h : Rws N w a rs) : Calls Tryz.prog 4 #[.agg #[.int .i64 now, .slice a rs.length cap], .int .i64 1048576] w fun e w' => (∃ v : Int, e = .returned (.int .i64 v) ∧ (v = -1 ∨ (0 ≤ v ∧ v ≤ 1048576))) ∧ Below w.heap.size w w' := by
  have HR := hid (fun (W : World) (hb : Below w.heap.size w W) => sz_rows a cap rs 1048576 W hm (by omega) (by omega) (h.below hb))
  clear h
  generalize rs.length = n at *
  go_enter Tryz.func4, Tryz.ntmps4
  go_wp2_with fail
  refine (HR.out _ (balloc (Below.refl _ _) _)).mono ?_
  rintro e w1 ⟨⟨v, rfl, hv⟩, hb⟩
  have hB := btrans (balloc (Below.refl _ w) _) hb
  rcases hv with rfl | ⟨hv0, hv1⟩
  · go_wp2_with fail
    go_ret
    exact ⟨⟨_, rfl, .inl rfl⟩, hB⟩
  · have hv2 : ¬ v < 0 := by omega
    go_wp2_with fail
    go_ret
    exact ⟨⟨_, rfl, .inr ⟨hv0, hv1⟩⟩, hB⟩
set_option maxHeartbeats 2000000 in
theorem to_row (r : Rw) (a : Option Addr) (cap : Nat) (w : World) (hm : r.2.2.2.2.length ≤ 1099511627776) (hc : r.2.2.2.2.length ≤ cap) (h : Pts w a r.2.2.2.2) : Calls Tryz.prog 40 #[rwv r a cap] w fun e w' => ∃ b, e = .returned (rwv r (some ⟨b, 0, none⟩) r.2.2.2.2.length) ∧ w.heap.size ≤ b ∧ PtsOwn w' b r.2.2.2.2 ∧ Below w.heap.size w w' := by
  obtain ⟨id, fr, te, kd, ps⟩ := r
  unfold rwv
  simp only at *
  have TS := hid (fun (W : World) (hb : Below w.heap.size w W) => to_shape kd a cap ps W hm hc (h.below hb))
  unfold shv at TS
  clear h
  generalize hn : ps.length = n at *
  have HN := hid hn
  clear hn
  go_enter Tryz.func40, Tryz.ntmps40
  go_wp2_with fail
  have hB0 : Below w.heap.size w (((w.alloc (.cells #[.int .i64 id, .int .i64 fr, .int .i64 te, .int .i64 kd, .slice a n cap] 73)).alloc (.cells #[.int .i64 0, .int .i64 0, .int .i64 0, .int .i64 0, .slice none 0 0] 61)).alloc (.cells #[.int .i64 id, .int .i64 fr, .int .i64 te, .int .i64 0, .slice none 0 0] 61)) := balloc (balloc (balloc (Below.refl _ _) _) _) _
  have g2 := old_alloc (o' := .cells #[.int .i64 id, .int .i64 fr, .int .i64 te, .int .i64 0, .slice none 0 0] 61) (new_alloc (w.alloc (.cells #[.int .i64 id, .int .i64 fr, .int .i64 te, .int .i64 kd, .slice a n cap] 73)) (w.heap.size + 1) (.cells #[.int .i64 0, .int .i64 0, .int .i64 0, .int .i64 0, .slice none 0 0] 61) (by simp))
  have g3 := new_alloc ((w.alloc (.cells #[.int .i64 id, .int .i64 fr, .int .i64 te, .int .i64 kd, .slice a n cap] 73)).alloc (.cells #[.int .i64 0, .int .i64 0, .int .i64 0, .int .i64 0, .slice none 0 0] 61)) (w.heap.size + 1 + 1) (.cells #[.int .i64 id, .int .i64 fr, .int .i64 te, .int .i64 0, .slice none 0 0] 61) (by simp)
  generalize (((w.alloc (.cells #[.int .i64 id, .int .i64 fr, .int .i64 te, .int .i64 kd, .slice a n cap] 73)).alloc (.cells #[.int .i64 0, .int .i64 0, .int .i64 0, .int .i64 0, .slice none 0 0] 61)).alloc (.cells #[.int .i64 id, .int .i64 fr, .int .i64 te, .int .i64 0, .slice none 0 0] 61)) = W at *
  have hlW := lt_of_block g3
  refine (TS.out _ hB0).mono ?_
  rintro e w1 ⟨b, rfl, hbb, ho, hb1⟩
  replace g2 := keepheap2 hb1 g2
  replace g3 := keepheap2 hb1 g3
  have hB := btrans hB0 hb1
  have HO := hid ho
  clear hb1 hB0 ho
  obtain ⟨⟨a0, a1, a2, a3, a4⟩, f0, f1, f2, f3, f4⟩ := cell5g g2
  obtain ⟨⟨b0, b1, b2, b3, b4⟩, e0, e1, e2, e3, e4⟩ := cell5g g3
  go_wp2_with fail
  have gF := set5 (set_far (q := w.heap.size + 1 + 1) (k := 4) (u := .slice (some ⟨b, 0, none⟩) n n) (set_far (q := w.heap.size + 1 + 1) (k := 3) (u := .int .i64 kd) g2 (by omega)) (by omega)) (.int .i64 id) (.int .i64 fr) (.int .i64 te) (.int .i64 kd) (.slice (some ⟨b, 0, none⟩) n n)
  have bF : Below w.heap.size w (((((((w1.setCell ⟨w.heap.size + 1 + 1, 3, none⟩ (.int .i64 kd)).setCell ⟨w.heap.size + 1 + 1, 4, none⟩ (.slice (some ⟨b, 0, none⟩) n n)).setCell ⟨w.heap.size + 1, 0, none⟩ (.int .i64 id)).setCell ⟨w.heap.size + 1, 1, none⟩ (.int .i64 fr)).setCell ⟨w.heap.size + 1, 2, none⟩ (.int .i64 te)).setCell ⟨w.heap.size + 1, 3, none⟩ (.int .i64 kd)).setCell ⟨w.heap.size + 1, 4, none⟩ (.slice (some ⟨b, 0, none⟩) n n)) := bset (bset (bset (bset (bset (bset (bset hB (by omega) _) (by omega) _) (by omega) _) (by omega) _) (by omega) _) (by omega) _) (by omega) _
  have oF : PtsOwn (((((((w1.setCell ⟨w.heap.size + 1 + 1, 3, none⟩ (.int .i64 kd)).setCell ⟨w.heap.size + 1 + 1, 4, none⟩ (.slice (some ⟨b, 0, none⟩) n n)).setCell ⟨w.heap.size + 1, 0, none⟩ (.int .i64 id)).setCell ⟨w.heap.size + 1, 1, none⟩ (.int .i64 fr)).setCell ⟨w.heap.size + 1, 2, none⟩ (.int .i64 te)).setCell ⟨w.heap.size + 1, 3, none⟩ (.int .i64 kd)).setCell ⟨w.heap.size + 1, 4, none⟩ (.slice (some ⟨b, 0, none⟩) n n)) b ps := by
    refine HO.out.of_block ?_ (by simp)
    rw [Below.heap_setCell _ _ _ _ (by dsimp only; omega), Below.heap_setCell _ _ _ _ (by dsimp only; omega), Below.heap_setCell _ _ _ _ (by dsimp only; omega), Below.heap_setCell _ _ _ _ (by dsimp only; omega), Below.heap_setCell _ _ _ _ (by dsimp only; omega), Below.heap_setCell _ _ _ _ (by dsimp only; omega), Below.heap_setCell _ _ _ _ (by dsimp only; omega)]
  generalize ((((((w1.setCell ⟨w.heap.size + 1 + 1, 3, none⟩ (.int .i64 kd)).setCell ⟨w.heap.size + 1 + 1, 4, none⟩ (.slice (some ⟨b, 0, none⟩) n n)).setCell ⟨w.heap.size + 1, 0, none⟩ (.int .i64 id)).setCell ⟨w.heap.size + 1, 1, none⟩ (.int .i64 fr)).setCell ⟨w.heap.size + 1, 2, none⟩ (.int .i64 te)).setCell ⟨w.heap.size + 1, 3, none⟩ (.int .i64 kd)).setCell ⟨w.heap.size + 1, 4, none⟩ (.slice (some ⟨b, 0, none⟩) n n) = wf at *
  obtain ⟨⟨z0, z1, z2, z3, z4⟩, _⟩ := cell5g gF
  exact bodyPost_ret (v := .agg #[.int .i64 id, .int .i64 fr, .int .i64 te, .int .i64 kd, .slice (some ⟨b, 0, none⟩) n n]) (by simp [results, Tryz.results40, go_sem, z0, z1, z2, z3, z4]) rfl ⟨b, rfl, by omega, oF, bF⟩
theorem Tryz.infoRow : (Tryz.prog.info? 61).map (fun i => (i.zero, i.size, i.bytes)) = some (some (.agg #[.int .i64 0, .int .i64 0, .int .i64 0, .int .i64 0, .slice none 0 0]), 5, 56) := by kernel_rfl
theorem make_rows (n : Nat) (hn : n ≤ 1099511627776) (w : World) : (Instr.makeSlice 30 (.int .i64 n) (.int .i64 n)).run Tryz.prog w = .ok (.slice (some ⟨w.heap.size, 0, none⟩) n n) (w.alloc (.cells (madeCells #[.int .i64 0, .int .i64 0, .int .i64 0, .int .i64 0, .slice none 0 0] (n * 5)) 61)) := by
  obtain ⟨i0, hi, hz0, hz1, hz2⟩ := info_parts Tryz.infoRow
  have := run_make (P := Tryz.prog) w 30 61 i0 _ Tryz.underlying30 hi hz0 .i64 .i64 n n (by omega) (by omega) (by rw [hz2]; omega) (by omega)
  rw [hz1] at this
  exact this
theorem made_own5 (w : World) (n : Nat) : (w.alloc (.cells (madeCells #[.int .i64 0, .int .i64 0, .int .i64 0, .int .i64 0, .slice none 0 0] (n * 5)) 61)).there w.heap.size 0 (n * 5) := by
  intro j hj
  simp only [Nat.zero_add]
  refine ⟨?_, World.frozen?_alloc_new w _ _ j⟩
  rw [World.cell?_alloc_new]
  have hs := size_madeCells #[.int .i64 0, .int .i64 0, .int .i64 0, .int .i64 0, .slice none 0 0] (n * 5)
  rw [Array.getElem?_eq_getElem (by rw [hs]; exact hj)]
  rfl
/-- Five cells of a block are written: those of one row more. -/
theorem put_row {N : Nat → Prop} {w : World} {B k n b : Nat} {rs : List Rw} (hN : ∀ c, N c → c ≠ B) (hk : k < rs.length) (hn : rs.length = n) (h : ∀ j (hj : j < rs.length), j < k → RwAt N w B (j * 5) rs[j]) (ht : w.there B 0 (n * 5)) (hb : N b) (hm : rs[k].2.2.2.2.length ≤ 1099511627776) (ho : PtsOwn w b rs[k].2.2.2.2) :
    (∀ j (hj : j < rs.length), j < k + 1 → RwAt N (((((w.setCell ⟨B, k * 5, none⟩ (.int .i64 rs[k].1)).setCell ⟨B, k * 5 + 1, none⟩ (.int .i64 rs[k].2.1)).setCell ⟨B, k * 5 + 2, none⟩ (.int .i64 rs[k].2.2.1)).setCell ⟨B, k * 5 + 3, none⟩ (.int .i64 rs[k].2.2.2.1)).setCell ⟨B, k * 5 + 4, none⟩ (.slice (some ⟨b, 0, none⟩) rs[k].2.2.2.2.length rs[k].2.2.2.2.length)) B (j * 5) rs[j]) ∧
    (((((w.setCell ⟨B, k * 5, none⟩ (.int .i64 rs[k].1)).setCell ⟨B, k * 5 + 1, none⟩ (.int .i64 rs[k].2.1)).setCell ⟨B, k * 5 + 2, none⟩ (.int .i64 rs[k].2.2.1)).setCell ⟨B, k * 5 + 3, none⟩ (.int .i64 rs[k].2.2.2.1)).setCell ⟨B, k * 5 + 4, none⟩ (.slice (some ⟨b, 0, none⟩) rs[k].2.2.2.2.length rs[k].2.2.2.2.length)).there B 0 (n * 5) := by
  subst hn
  have e : ((((w.setCell ⟨B, k * 5, none⟩ (.int .i64 rs[k].1)).setCell ⟨B, k * 5 + 1, none⟩ (.int .i64 rs[k].2.1)).setCell ⟨B, k * 5 + 2, none⟩ (.int .i64 rs[k].2.2.1)).setCell ⟨B, k * 5 + 3, none⟩ (.int .i64 rs[k].2.2.2.1)).setCell ⟨B, k * 5 + 4, none⟩ (.slice (some ⟨b, 0, none⟩) rs[k].2.2.2.2.length rs[k].2.2.2.2.length) = w.setCells B (k * 5) [.int .i64 rs[k].1, .int .i64 rs[k].2.1, .int .i64 rs[k].2.2.1, .int .i64 rs[k].2.2.2.1, .slice (some ⟨b, 0, none⟩) rs[k].2.2.2.2.length rs[k].2.2.2.2.length] := rfl
  have hblk : ∀ c, c ≠ B → (w.setCells B (k * 5) [.int .i64 rs[k].1, .int .i64 rs[k].2.1, .int .i64 rs[k].2.2.1, .int .i64 rs[k].2.2.2.1, .slice (some ⟨b, 0, none⟩) rs[k].2.2.2.2.length rs[k].2.2.2.2.length]).heap[c]? = w.heap[c]? := by
    intro c hc
    rw [← e]
    rw [Below.heap_setCell _ _ _ _ (by dsimp only; omega), Below.heap_setCell _ _ _ _ (by dsimp only; omega), Below.heap_setCell _ _ _ _ (by dsimp only; omega), Below.heap_setCell _ _ _ _ (by dsimp only; omega), Below.heap_setCell _ _ _ _ (by dsimp only; omega)]
  have hsz : (w.setCells B (k * 5) [.int .i64 rs[k].1, .int .i64 rs[k].2.1, .int .i64 rs[k].2.2.1, .int .i64 rs[k].2.2.2.1, .slice (some ⟨b, 0, none⟩) rs[k].2.2.2.2.length rs[k].2.2.2.2.length]).heap.size = w.heap.size := by
    rw [← e]; simp
  rw [e]
  have hth : w.there B (k * 5) 5 := by
    intro j hj
    have := ht (k * 5 + j) (by omega)
    rwa [Nat.zero_add] at this
  have hr := World.rangeAt_setCells_same w B (k * 5) [.int .i64 rs[k].1, .int .i64 rs[k].2.1, .int .i64 rs[k].2.2.1, .int .i64 rs[k].2.2.2.1, .slice (some ⟨b, 0, none⟩) rs[k].2.2.2.2.length rs[k].2.2.2.2.length] hth
  refine ⟨?_, World.there_setCells ht _ _ _⟩
  intro j hj hjk
  by_cases ej : j = k
  · subst ej
    refine ⟨some ⟨b, 0, none⟩, rs[j].2.2.2.2.length, by simpa using hr 0 _ rfl, hr 1 _ rfl, hr 2 _ rfl, hr 3 _ rfl, hr 4 _ rfl, Nat.le_refl _, hm, (ho.of_block (hblk b (hN b hb)) (by omega)).pts, fun c off e => by cases e; exact hb⟩
  · obtain ⟨a, cap, h0, h1, h2, h3, h4, h5, h6, h7, h8⟩ := h j hj (by omega)
    have far : ∀ i, i < 5 → (w.setCells B (k * 5) [.int .i64 rs[k].1, .int .i64 rs[k].2.1, .int .i64 rs[k].2.2.1, .int .i64 rs[k].2.2.2.1, .slice (some ⟨b, 0, none⟩) rs[k].2.2.2.2.length rs[k].2.2.2.2.length]).cell? ⟨B, j * 5 + i, none⟩ = w.cell? ⟨B, j * 5 + i, none⟩ := by
      intro i hi
      exact World.cell?_setCells_out B _ (k * 5) w ⟨B, j * 5 + i, none⟩ (fun _ _ => by left; show j * 5 + i < k * 5; omega)
    refine ⟨a, cap, ?_, ?_, ?_, ?_, ?_, h5, h6, ?_, h8⟩
    · have := far 0 (by omega); simp only [Nat.add_zero] at this; rw [this]; exact h0
    · rw [far 1 (by omega)]; exact h1
    · rw [far 2 (by omega)]; exact h2
    · rw [far 3 (by omega)]; exact h3
    · rw [far 4 (by omega)]; exact h4
    · rcases h7 with h7 | ⟨c, off, ea, hc, hp⟩
      · exact .inl h7
      · refine .inr ⟨c, off, ea, by omega, fun i hi => ?_⟩
        have hcb := hblk c (hN c (h8 c off ea))
        have hcc : ∀ q, (w.setCells B (k * 5) [.int .i64 rs[k].1, .int .i64 rs[k].2.1, .int .i64 rs[k].2.2.1, .int .i64 rs[k].2.2.2.1, .slice (some ⟨b, 0, none⟩) rs[k].2.2.2.2.length rs[k].2.2.2.2.length]).cell? ⟨c, q, none⟩ = w.cell? ⟨c, q, none⟩ := fun q => by simp only [World.cell?, hcb]
        rw [hcc, hcc]
        exact hp i hi
set_option maxHeartbeats 2000000 in
theorem to_rowS {N : Nat → Prop} (a : Option Addr) (cap : Nat) (rs : List Rw) (w : World) (hm : rs.length ≤ 1099511627776) (h : Rws N w a rs) : Calls Tryz.prog 21 #[.slice a rs.length cap] w fun e w' => ∃ B, e = .returned (.slice (some ⟨B, 0, none⟩) rs.length rs.length) ∧ w.heap.size ≤ B ∧ B < w'.heap.size ∧ RwsAt (fun c => B < c) w' B 0 rs ∧ w'.there B 0 (rs.length * 5) ∧ Below w.heap.size w w' := by
  have HR := hid h
  clear h
  have hmk := make_rows rs.length hm
  obtain ⟨n, hn⟩ : ∃ n, n = rs.length := ⟨_, rfl⟩
  have HN := hid hn.symm
  rw [← hn] at hmk hm ⊢
  clear hn
  go_enter Tryz.func21, Tryz.ntmps21
  go_wp2_with fail
  have hB : Below w.heap.size w (w.alloc (.cells (madeCells #[.int .i64 0, .int .i64 0, .int .i64 0, .int .i64 0, .slice none 0 0] (n * 5)) 61)) := balloc (Below.refl _ _) _
  have hT := made_own5 w n
  have hl : w.heap.size < (w.alloc (.cells (madeCells #[.int .i64 0, .int .i64 0, .int .i64 0, .int .i64 0, .slice none 0 0] (n * 5)) 61)).heap.size := by simp
  generalize w.alloc (.cells (madeCells #[.int .i64 0, .int .i64 0, .int .i64 0, .int .i64 0, .slice none 0 0] (n * 5)) 61) = W at *
  clear hmk
  go_loopw [4] (fun ti wr => ∃ j : Nat, ti = .int .i64 j ∧ j ≤ n ∧ Hid (w.heap.size < wr.heap.size) ∧ Hid (∀ i (hi : i < rs.length), i < j → RwAt (fun c => w.heap.size < c) wr w.heap.size (i * 5) rs[i]) ∧ Hid (wr.there w.heap.size 0 (n * 5)) ∧ Hid (Below w.heap.size w wr)) (fun ti _ => n - (intOf ti).toNat)
  case atStart => exact ⟨0, rfl, Nat.zero_le _, hid hl, hid (fun i hi h => absurd h (by omega)), hid hT, hid hB⟩
  case round =>
    clear hB hT hl
    obtain ⟨j, rfl, hj, HL, HP, HT, HBW⟩ := hrel
    by_cases hlt : j < n
    · have c1 : (j : Int) < (n : Int) := by omega
      have hjr : j < rs.length := by rw [HN.out]; exact hlt
      obtain ⟨b, o, rfl, hbs, hr⟩ := (HR.out.below HBW.out).at j hjr
      obtain ⟨a', cap', k0, k1, k2, k3, k4, k5, k6, k7, k8⟩ := hr
      have TR := hid (to_row rs[j] a' cap' wr k6 k5 k7)
      have HPR := hid (fun (W : World) (bb : Nat) => put_row (N := fun c => w.heap.size < c) (w := W) (B := w.heap.size) (k := j) (n := n) (b := bb) (rs := rs) (fun c hc => by omega) hjr HN.out)
      have HK6 := hid k6
      unfold rwv at TR
      clear k5 k6 k7 k8
      generalize rs[j].1 = id at *
      generalize rs[j].2.1 = fr at *
      generalize rs[j].2.2.1 = te at *
      generalize rs[j].2.2.2.1 = kd at *
      generalize rs[j].2.2.2.2 = ps at *
      go_wp2_with fail
      refine TR.out.mono ?_
      rintro e w1 ⟨bb, rfl, hbb, ho, hb1⟩
      have hP := fun i (hi : i < rs.length) (h : i < j) => (HP.out i hi h).below hb1
      have hT := there_below HT.out HL.out hb1
      have hB := btrans HBW.out hb1
      have hL : w.heap.size < w1.heap.size := Nat.lt_of_lt_of_le HL.out hb1.size
      have hbl : w.heap.size < bb := Nat.lt_of_lt_of_le HL.out hbb
      have HPUT := hid (HPR.out w1 bb hP hT hbl HK6.out ho)
      have q := fun i (hi : i < n * 5) => hT i hi
      obtain ⟨x0, y0⟩ := q (j * 5) (by omega)
      obtain ⟨x1, y1⟩ := q (j * 5 + 1) (by omega)
      obtain ⟨x2, y2⟩ := q (j * 5 + 2) (by omega)
      obtain ⟨x3, y3⟩ := q (j * 5 + 3) (by omega)
      obtain ⟨x4, y4⟩ := q (j * 5 + 4) (by omega)
      obtain ⟨v0, z0⟩ := Option.isSome_iff_exists.1 x0
      obtain ⟨v1, z1⟩ := Option.isSome_iff_exists.1 x1
      obtain ⟨v2, z2⟩ := Option.isSome_iff_exists.1 x2
      obtain ⟨v3, z3⟩ := Option.isSome_iff_exists.1 x3
      obtain ⟨v4, z4⟩ := Option.isSome_iff_exists.1 x4
      simp only [Nat.zero_add, ← Nat.add_assoc] at z0 z1 z2 z3 z4 y0 y1 y2 y3 y4
      clear q x0 x1 x2 x3 x4 hP HPR hb1 ho TR
      have HL1 := hid hL
      have HB1 := hid hB
      clear hT
      go_wp2_with fail
      go_roundw
      case rel => exact ⟨j + 1, by go_num, by omega, hid (by simpa using hL), hid HPUT.out.1, hid HPUT.out.2, hid (bset (bset (bset (bset (bset hB (by omega) _) (by omega) _) (by omega) _) (by omega) _) (by omega) _)⟩
      case measure => simp [intOf]; omega
    · obtain rfl : n = j := by omega
      have c1 : (n : Int) ≤ (n : Int) := by omega
      go_wp2_with fail
      go_ret
      exact ⟨w.heap.size, rfl, Nat.le_refl _, HL.out, fun i hi => by have := HP.out i hi (by rw [HN.out] at hi; exact hi); simpa using this, HT.out, HBW.out⟩
end Go.Proofs.YtnaobljoopjhgaaGreat
