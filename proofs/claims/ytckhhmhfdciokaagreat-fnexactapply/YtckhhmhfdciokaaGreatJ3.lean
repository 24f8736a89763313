/- Texts of stores, joined: Vd, Vc, Ve, Vf, Td. -/
import Derived.Test.YtckhhmhfdciokaaGreatJ2
import Derived.Test.YtckhhmhfdciokaaGreatJ1
namespace Go.Proofs.YtckhhmhfdciokaaGreat
open Go.RowKit
set_option linter.unusedSimpArgs false
set_option linter.unusedVariables false
/-- A copy of a row. -/
def RC (w : World) (r : Rw) (e : Ending) (w' : World) : Prop :=
  ∃ g cp, e = .returned (rwv r (some ⟨g, 0, none⟩) cp) ∧ r.2.2.2.2.length ≤ cp ∧ w.heap.size ≤ g ∧ PtsOwn w' g r.2.2.2.2 ∧ Below w.heap.size w w'
set_option maxRecDepth 100000 in
set_option maxHeartbeats 1000000 in
theorem row_copied (r : Rw) (b off cap : Nat) (w : World) (hm : r.2.2.2.2.length ≤ 1099511627776) (hbs : b < w.heap.size) (h : Pts w (some ⟨b, off, none⟩) r.2.2.2.2) : Calls Tryz.prog 43 #[rwv r (some ⟨b, off, none⟩) cap] w fun e w' => RC w r e w' := by
  obtain ⟨id, fr, te, kd, ps⟩ := r
  unfold RC rwv
  simp only at *
  have hB : Below w.heap.size w ((w.alloc (.cells #[.int .i64 id, .int .i64 fr, .int .i64 te, .int .i64 kd, .slice (some ⟨b, off, none⟩) ps.length cap] 55)).alloc (.cells #[.int .i64 0, .int .i64 0, .int .i64 0, .int .i64 0, .slice none 0 0] 55)) := balloc (balloc (Below.refl _ _) _) _
  have HC := hid (impl_copyG kd b off cap ps _ hm (h.below hB) (Nat.lt_of_lt_of_le hbs hB.size))
  clear h
  have g0 := old_alloc (o' := .cells #[.int .i64 0, .int .i64 0, .int .i64 0, .int .i64 0, .slice none 0 0] 55) (new_alloc w w.heap.size (.cells #[.int .i64 id, .int .i64 fr, .int .i64 te, .int .i64 kd, .slice (some ⟨b, off, none⟩) ps.length cap] 55) rfl)
  have g1 := new_alloc (w.alloc (.cells #[.int .i64 id, .int .i64 fr, .int .i64 te, .int .i64 kd, .slice (some ⟨b, off, none⟩) ps.length cap] 55)) (w.heap.size + 1) (.cells #[.int .i64 0, .int .i64 0, .int .i64 0, .int .i64 0, .slice none 0 0] 55) (by simp)
  go_enter Tryz.func43, Tryz.ntmps43
  go_upto_region 1 with fail
  generalize (w.alloc (.cells #[.int .i64 id, .int .i64 fr, .int .i64 te, .int .i64 kd, .slice (some ⟨b, off, none⟩) ps.length cap] 55)).alloc (.cells #[.int .i64 0, .int .i64 0, .int .i64 0, .int .i64 0, .slice none 0 0] 55) = W at *
  obtain ⟨⟨x0, x1, x2, x3, x4⟩, _⟩ := cell5g g0
  go_wp2_with fail
  refine HC.out.mono ?_
  rintro e y ⟨g, cp, rfl, hcp, hgs, ho, hy⟩
  have hWs := lt_of_block g1
  replace g0 := keepheap2 hy g0
  replace g1 := keepheap2 hy g1
  have HB := hid (btrans hB hy)
  have HO := hid ho
  have hgw : w.heap.size + 1 < g := by omega
  clear hB hy ho HC x0 x1 x2 x3 x4
  obtain ⟨⟨x0, x1, x2, x3, x4⟩, y0, y1, y2, y3, y4⟩ := cell5g g0
  obtain ⟨⟨v0, v1, v2, v3, v4⟩, u0, u1, u2, u3, u4⟩ := cell5g g1
  go_wp2_with fail
  have gF := set5 (set_far (q := w.heap.size) (k := 4) (u := .slice (some ⟨g, 0, none⟩) ps.length cp) (set_far (q := w.heap.size) (k := 3) (u := .int .i64 kd) g1 (by omega)) (by omega)) (.int .i64 id) (.int .i64 fr) (.int .i64 te) (.int .i64 kd) (.slice (some ⟨g, 0, none⟩) ps.length cp)
  have bF := bset (bset (bset (bset (bset (bset (bset HB.out (q := w.heap.size) (k := 3) (Nat.le_refl _) (.int .i64 kd)) (q := w.heap.size) (k := 4) (Nat.le_refl _) (.slice (some ⟨g, 0, none⟩) ps.length cp)) (q := w.heap.size + 1) (k := 0) (by omega) (.int .i64 id)) (q := w.heap.size + 1) (k := 1) (by omega) (.int .i64 fr)) (q := w.heap.size + 1) (k := 2) (by omega) (.int .i64 te)) (q := w.heap.size + 1) (k := 3) (by omega) (.int .i64 kd)) (q := w.heap.size + 1) (k := 4) (by omega) (.slice (some ⟨g, 0, none⟩) ps.length cp)
  have oF := own_blk (w' := (((((((y.setCell ⟨w.heap.size, 3, none⟩ (.int .i64 kd)).setCell ⟨w.heap.size, 4, none⟩ (.slice (some ⟨g, 0, none⟩) ps.length cp)).setCell ⟨w.heap.size + 1, 0, none⟩ (.int .i64 id)).setCell ⟨w.heap.size + 1, 1, none⟩ (.int .i64 fr)).setCell ⟨w.heap.size + 1, 2, none⟩ (.int .i64 te)).setCell ⟨w.heap.size + 1, 3, none⟩ (.int .i64 kd)).setCell ⟨w.heap.size + 1, 4, none⟩ (.slice (some ⟨g, 0, none⟩) ps.length cp))) HO.out (by rw [Below.heap_setCell _ _ _ _ (by dsimp only; omega), Below.heap_setCell _ _ _ _ (by dsimp only; omega), Below.heap_setCell _ _ _ _ (by dsimp only; omega), Below.heap_setCell _ _ _ _ (by dsimp only; omega), Below.heap_setCell _ _ _ _ (by dsimp only; omega), Below.heap_setCell _ _ _ _ (by dsimp only; omega), Below.heap_setCell _ _ _ _ (by dsimp only; omega)]) (by simp only [World.size_setCell]; exact HO.out.1)
  generalize (((((((y.setCell ⟨w.heap.size, 3, none⟩ (.int .i64 kd)).setCell ⟨w.heap.size, 4, none⟩ (.slice (some ⟨g, 0, none⟩) ps.length cp)).setCell ⟨w.heap.size + 1, 0, none⟩ (.int .i64 id)).setCell ⟨w.heap.size + 1, 1, none⟩ (.int .i64 fr)).setCell ⟨w.heap.size + 1, 2, none⟩ (.int .i64 te)).setCell ⟨w.heap.size + 1, 3, none⟩ (.int .i64 kd)).setCell ⟨w.heap.size + 1, 4, none⟩ (.slice (some ⟨g, 0, none⟩) ps.length cp)) = wf at *
  obtain ⟨⟨z0, z1, z2, z3, z4⟩, _⟩ := cell5g gF
  exact bodyPost_ret (v := .agg #[.int .i64 id, .int .i64 fr, .int .i64 te, .int .i64 kd, .slice (some ⟨g, 0, none⟩) ps.length cp]) (by simp [results, Tryz.results43, go_sem, z0, z1, z2, z3, z4]) rfl ⟨g, cp, rfl, hcp, by omega, oF, bF⟩
/-- What a function tells of a row that it copies. -/
def RT (w : World) (r : Rw) (q : Bool) (e : Ending) (w' : World) : Prop :=
  ∃ g cp, e = .returned (.tuple #[rwv r (some ⟨g, 0, none⟩) cp, .bool q]) ∧ r.2.2.2.2.length ≤ cp ∧ w.heap.size ≤ g ∧ PtsOwn w' g r.2.2.2.2 ∧ Below w.heap.size w w'
def allb (_ : Rw) : Bool := true
set_option maxRecDepth 100000 in
set_option maxHeartbeats 1000000 in
theorem copied_1 (r : Rw) (b off cap : Nat) (w : World) (hm : r.2.2.2.2.length ≤ 1099511627776) (hbs : b < w.heap.size) (h : Pts w (some ⟨b, off, none⟩) r.2.2.2.2) : Calls Tryz.prog 42 #[rwv r (some ⟨b, off, none⟩) cap] w fun e w' => RT w r (allb r) e w' := by
  show Calls Tryz.prog 42 #[rwv r (some ⟨b, off, none⟩) cap] w fun e w' => RT w r true e w'
  have HC := hid (fun (W : World) (hb : Below w.heap.size w W) => row_copied r b off cap W hm (Nat.lt_of_lt_of_le hbs hb.size) (h.below hb))
  clear h
  obtain ⟨id, fr, te, kd, ps⟩ := r
  unfold RT
  unfold RC rwv at *
  simp only at *
  have hB : Below w.heap.size w ((w.alloc (.cells #[.int .i64 id, .int .i64 fr, .int .i64 te, .int .i64 kd, .slice (some ⟨b, off, none⟩) ps.length cap] 55)).alloc (.cells #[.int .i64 0, .int .i64 0, .int .i64 0, .int .i64 0, .slice none 0 0] 55)) := balloc (balloc (Below.refl _ _) _) _
  have g0 := old_alloc (o' := .cells #[.int .i64 0, .int .i64 0, .int .i64 0, .int .i64 0, .slice none 0 0] 55) (new_alloc w w.heap.size (.cells #[.int .i64 id, .int .i64 fr, .int .i64 te, .int .i64 kd, .slice (some ⟨b, off, none⟩) ps.length cap] 55) rfl)
  have g1 := new_alloc (w.alloc (.cells #[.int .i64 id, .int .i64 fr, .int .i64 te, .int .i64 kd, .slice (some ⟨b, off, none⟩) ps.length cap] 55)) (w.heap.size + 1) (.cells #[.int .i64 0, .int .i64 0, .int .i64 0, .int .i64 0, .slice none 0 0] 55) (by simp)
  go_enter Tryz.func42, Tryz.ntmps42
  go_upto_region 1 with fail
  generalize (w.alloc (.cells #[.int .i64 id, .int .i64 fr, .int .i64 te, .int .i64 kd, .slice (some ⟨b, off, none⟩) ps.length cap] 55)).alloc (.cells #[.int .i64 0, .int .i64 0, .int .i64 0, .int .i64 0, .slice none 0 0] 55) = W at *
  obtain ⟨⟨x0, x1, x2, x3, x4⟩, _⟩ := cell5g g0
  go_wp2_with fail
  refine (HC.out _ hB).mono ?_
  rintro e y ⟨g, cp, rfl, hcp, hgs, ho, hy⟩
  have hWs := lt_of_block g1
  replace g1 := keepheap2 hy g1
  have HB := hid (btrans hB hy)
  have HO := hid ho
  clear hB hy ho HC x0 x1 x2 x3 x4 g0
  obtain ⟨⟨v0, v1, v2, v3, v4⟩, u0, u1, u2, u3, u4⟩ := cell5g g1
  go_wp2_with fail
  have gF := set5 g1 (.int .i64 id) (.int .i64 fr) (.int .i64 te) (.int .i64 kd) (.slice (some ⟨g, 0, none⟩) ps.length cp)
  have bF := bset (bset (bset (bset (bset HB.out (q := w.heap.size + 1) (k := 0) (by omega) (.int .i64 id)) (q := w.heap.size + 1) (k := 1) (by omega) (.int .i64 fr)) (q := w.heap.size + 1) (k := 2) (by omega) (.int .i64 te)) (q := w.heap.size + 1) (k := 3) (by omega) (.int .i64 kd)) (q := w.heap.size + 1) (k := 4) (by omega) (.slice (some ⟨g, 0, none⟩) ps.length cp)
  have oF := own_blk (w' := (((((y.setCell ⟨w.heap.size + 1, 0, none⟩ (.int .i64 id)).setCell ⟨w.heap.size + 1, 1, none⟩ (.int .i64 fr)).setCell ⟨w.heap.size + 1, 2, none⟩ (.int .i64 te)).setCell ⟨w.heap.size + 1, 3, none⟩ (.int .i64 kd)).setCell ⟨w.heap.size + 1, 4, none⟩ (.slice (some ⟨g, 0, none⟩) ps.length cp))) HO.out (by rw [Below.heap_setCell _ _ _ _ (by dsimp only; omega), Below.heap_setCell _ _ _ _ (by dsimp only; omega), Below.heap_setCell _ _ _ _ (by dsimp only; omega), Below.heap_setCell _ _ _ _ (by dsimp only; omega), Below.heap_setCell _ _ _ _ (by dsimp only; omega)]) (by simp only [World.size_setCell]; exact HO.out.1)
  generalize (((((y.setCell ⟨w.heap.size + 1, 0, none⟩ (.int .i64 id)).setCell ⟨w.heap.size + 1, 1, none⟩ (.int .i64 fr)).setCell ⟨w.heap.size + 1, 2, none⟩ (.int .i64 te)).setCell ⟨w.heap.size + 1, 3, none⟩ (.int .i64 kd)).setCell ⟨w.heap.size + 1, 4, none⟩ (.slice (some ⟨g, 0, none⟩) ps.length cp)) = wf at *
  obtain ⟨⟨z0, z1, z2, z3, z4⟩, _⟩ := cell5g gF
  exact bodyPost_ret (v := .tuple #[.agg #[.int .i64 id, .int .i64 fr, .int .i64 te, .int .i64 kd, .slice (some ⟨g, 0, none⟩) ps.length cp], .bool true]) (by simp [results, Tryz.results42, go_sem, z0, z1, z2, z3, z4]) rfl ⟨g, cp, rfl, hcp, by omega, oF, bF⟩
def vkeep (t : Int) (r : Rw) : Bool := !(decide (r.2.2.1 ≠ 0) && decide (r.2.2.1 ≤ t))
end Go.Proofs.YtckhhmhfdciokaaGreat
namespace Go.Proofs.YtckhhmhfdciokaaGreat
open Go.RowKit
set_option linter.unusedSimpArgs false
set_option linter.unusedVariables false
set_option maxRecDepth 100000 in
set_option maxHeartbeats 2000000 in
theorem mark_rowSX (base hi g cap : Nat) (rs : List Rw) (c cp : Nat → Nat) (w : World) (hbg : base ≤ g) (hgh : g < hi) (hih : hi ≤ w.heap.size) (hm : rs.length ≤ 1048576) (hl : ∀ m (h : m < rs.length), rs[m].2.2.2.2.length ≤ 1048576) (ht : w.there g 0 (rs.length * 5)) (hr : ∀ j (h : j < rs.length), RowC w g (j * 5) rs[j] (c j) (cp j)) (hc : ∀ j, j < rs.length → base ≤ c j ∧ c j < hi ∧ c j ≠ g) (hd : ∀ i j, i < j → j < rs.length → c i ≠ c j) : Calls Tryz.prog 30 #[.slice (some ⟨g, 0, none⟩) rs.length cap, .int .i64 1] w fun e w' => e = .returned (.int .i64 (kk rs rs.length)) ∧ (∀ j (h : j < (mrk rs).length), RowC w' g (j * 5) (mrk rs)[j] (c j) (cp j)) ∧ Mid base hi w w' := by
  have HL := hid hl
  have HR := hid hr
  have HC := hid hc
  have HD : Hid (∀ i j, i ≠ j → i < rs.length → j < rs.length → c i ≠ c j) := hid (fun i j hne hi' hj' => by
    rcases Nat.lt_or_gt_of_ne hne with h | h
    · exact hd i j h hj'
    · exact fun e => hd j i h hi' e.symm)
  have HK := hid (kk_bound hl)
  clear hl hr hc hd
  obtain ⟨n, hn⟩ : ∃ n, n = rs.length := ⟨_, rfl⟩
  have HN := hid hn.symm
  rw [← hn] at hm ht ⊢
  clear hn
  have HTT := hid ht
  clear ht
  have HF : Hid (∀ (W : World) (q : Int), q = kk rs n → (∀ i (h : i < rs.length), i < n → ∀ (h' : i < (mrk rs).length), RowC W g (i * 5) (mrk rs)[i] (c i) (cp i)) → (Ending.returned (.int .i64 q) = .returned (.int .i64 (kk rs n)) ∧ ∀ j (h : j < (mrk rs).length), RowC W g (j * 5) (mrk rs)[j] (c j) (cp j))) := hid (fun W q hq h => ⟨by rw [hq], fun j hj => by
    have hj' := hj
    rw [mrk_len] at hj'
    exact h j hj' (by rw [HN.out] at hj'; exact hj') hj⟩)
  have hmid0 := mid_refl base hi w
  go_enter Tryz.func30, Tryz.ntmps30
  go_wp2_with fail
  go_loopw [1, 5] (fun tk' ti wr => ∃ j : Nat, ∃ k : Int, ti = .int .i64 j ∧ tk' = .int .i64 k ∧ j ≤ n ∧ Hid (k = kk rs j) ∧ Hid (Mid base hi w wr) ∧ Hid (wr.there g 0 (n * 5)) ∧ Hid (∀ i (h : i < rs.length), i < j → ∀ (h' : i < (mrk rs).length), RowC wr g (i * 5) (mrk rs)[i] (c i) (cp i)) ∧ Hid (∀ i (h : i < rs.length), j ≤ i → RowC wr g (i * 5) rs[i] (c i) (cp i))) (fun _ ti _ => n - (intOf ti).toNat)
  case atStart => exact ⟨0, 1, rfl, rfl, Nat.zero_le _, hid (by simp [kk]), hid hmid0, HTT, hid (fun i h hh => absurd hh (by omega)), hid (fun i h _ => HR.out i h)⟩
  case round =>
    clear hmid0
    obtain ⟨j, k, rfl, rfl, hj, HKJ, HM, HT, HA, HZ⟩ := hrel
    by_cases hlt : j < n
    · have c1 : (j : Int) < (n : Int) := by omega
      have hjr : j < rs.length := by rw [HN.out]; exact hlt
      obtain ⟨hk0, hk1⟩ := HK.out j (by omega)
      rw [← HKJ.out] at hk0 hk1
      have hk2 : k ≤ 2199027449858 := by omega
      have HKN := hid (kk_next hjr)
      rw [← HKJ.out] at HKN
      have HMA := hid (mrk_at hjr)
      rw [← HKJ.out] at HMA
      obtain ⟨_, _, _, _, q4, q5⟩ := HZ.out j hjr (Nat.le_refl _)
      obtain ⟨hcb, hch, hcg⟩ := HC.out j hjr
      have hnp := HL.out j hjr
      have HDJ : Hid (∀ i, i < rs.length → i ≠ j → c j ≠ c i) := hid (fun i hi' hne => fun e => HD.out i j hne hi' hjr e.symm)
      generalize hps : rs[j].2.2.2.2 = ps at *
      clear hps
      obtain ⟨u0, z0, y0⟩ := there_at HT.out (show j * 5 < n * 5 by omega)
      obtain ⟨u1, z1, y1⟩ := there_at HT.out (show j * 5 + 1 < n * 5 by omega)
      obtain ⟨u2, z2, y2⟩ := there_at HT.out (show j * 5 + 2 < n * 5 by omega)
      obtain ⟨u3, z3, y3⟩ := there_at HT.out (show j * 5 + 3 < n * 5 by omega)
      have z1' : (wr.setCell ⟨g, j * 5, none⟩ (.int .i64 k)).cell? ⟨g, j * 5 + 1, none⟩ = some u1 := by rw [World.cell?_setCell_other _ _ _ _ (by simp)]; exact z1
      have z2' : ((wr.setCell ⟨g, j * 5, none⟩ (.int .i64 k)).setCell ⟨g, j * 5 + 1, none⟩ (.int .i64 (k + 1))).cell? ⟨g, j * 5 + 2, none⟩ = some u2 := by rw [World.cell?_setCell_other _ _ _ _ (by simp), World.cell?_setCell_other _ _ _ _ (by simp)]; exact z2
      have z3' : (((wr.setCell ⟨g, j * 5, none⟩ (.int .i64 k)).setCell ⟨g, j * 5 + 1, none⟩ (.int .i64 (k + 1))).setCell ⟨g, j * 5 + 2, none⟩ (.int .i64 (k + 1 + 1))).cell? ⟨g, j * 5 + 3, none⟩ = some u3 := by rw [World.cell?_setCell_other _ _ _ _ (by simp), World.cell?_setCell_other _ _ _ _ (by simp), World.cell?_setCell_other _ _ _ _ (by simp)]; exact z3
      have z4' : ((((wr.setCell ⟨g, j * 5, none⟩ (.int .i64 k)).setCell ⟨g, j * 5 + 1, none⟩ (.int .i64 (k + 1))).setCell ⟨g, j * 5 + 2, none⟩ (.int .i64 (k + 1 + 1))).setCell ⟨g, j * 5 + 3, none⟩ (.int .i64 (k + 1 + 1 + 1))).cell? ⟨g, j * 5 + 4, none⟩ = some (.slice (some ⟨c j, 0, none⟩) ps.length (cp j)) := by rw [World.cell?_setCell_other _ _ _ _ (by simp), World.cell?_setCell_other _ _ _ _ (by simp), World.cell?_setCell_other _ _ _ _ (by simp), World.cell?_setCell_other _ _ _ _ (by simp)]; exact q4
      have x0 : ((((wr.setCell ⟨g, j * 5, none⟩ (.int .i64 k)).setCell ⟨g, j * 5 + 1, none⟩ (.int .i64 (k + 1))).setCell ⟨g, j * 5 + 2, none⟩ (.int .i64 (k + 1 + 1))).setCell ⟨g, j * 5 + 3, none⟩ (.int .i64 (k + 1 + 1 + 1))).cell? ⟨g, j * 5, none⟩ = some (.int .i64 k) := by rw [World.cell?_setCell_other _ _ _ _ (by simp), World.cell?_setCell_other _ _ _ _ (by simp), World.cell?_setCell_other _ _ _ _ (by simp)]; exact World.cell?_setCell_same _ _ _ z0
      have x1 : ((((wr.setCell ⟨g, j * 5, none⟩ (.int .i64 k)).setCell ⟨g, j * 5 + 1, none⟩ (.int .i64 (k + 1))).setCell ⟨g, j * 5 + 2, none⟩ (.int .i64 (k + 1 + 1))).setCell ⟨g, j * 5 + 3, none⟩ (.int .i64 (k + 1 + 1 + 1))).cell? ⟨g, j * 5 + 1, none⟩ = some (.int .i64 (k + 1)) := by rw [World.cell?_setCell_other _ _ _ _ (by simp), World.cell?_setCell_other _ _ _ _ (by simp)]; exact World.cell?_setCell_same _ _ _ z1'
      have x2 : ((((wr.setCell ⟨g, j * 5, none⟩ (.int .i64 k)).setCell ⟨g, j * 5 + 1, none⟩ (.int .i64 (k + 1))).setCell ⟨g, j * 5 + 2, none⟩ (.int .i64 (k + 1 + 1))).setCell ⟨g, j * 5 + 3, none⟩ (.int .i64 (k + 1 + 1 + 1))).cell? ⟨g, j * 5 + 2, none⟩ = some (.int .i64 (k + 2)) := by rw [World.cell?_setCell_other _ _ _ _ (by simp)]; rw [show k + 2 = k + 1 + 1 by omega]; exact World.cell?_setCell_same _ _ _ z2'
      have x3 : ((((wr.setCell ⟨g, j * 5, none⟩ (.int .i64 k)).setCell ⟨g, j * 5 + 1, none⟩ (.int .i64 (k + 1))).setCell ⟨g, j * 5 + 2, none⟩ (.int .i64 (k + 1 + 1))).setCell ⟨g, j * 5 + 3, none⟩ (.int .i64 (k + 1 + 1 + 1))).cell? ⟨g, j * 5 + 3, none⟩ = some (.int .i64 (k + 3)) := by rw [show k + 3 = k + 1 + 1 + 1 by omega]; exact World.cell?_setCell_same _ _ _ z3'
      have y1' : (wr.setCell ⟨g, j * 5, none⟩ (.int .i64 k)).frozen? ⟨g, j * 5 + 1, none⟩ = false := by rw [World.frozen?_setCell]; exact y1
      have y2' : ((wr.setCell ⟨g, j * 5, none⟩ (.int .i64 k)).setCell ⟨g, j * 5 + 1, none⟩ (.int .i64 (k + 1))).frozen? ⟨g, j * 5 + 2, none⟩ = false := by rw [World.frozen?_setCell, World.frozen?_setCell]; exact y2
      have y3' : (((wr.setCell ⟨g, j * 5, none⟩ (.int .i64 k)).setCell ⟨g, j * 5 + 1, none⟩ (.int .i64 (k + 1))).setCell ⟨g, j * 5 + 2, none⟩ (.int .i64 (k + 1 + 1))).frozen? ⟨g, j * 5 + 3, none⟩ = false := by rw [World.frozen?_setCell, World.frozen?_setCell, World.frozen?_setCell]; exact y3
      have p4 : PtsOwn ((((wr.setCell ⟨g, j * 5, none⟩ (.int .i64 k)).setCell ⟨g, j * 5 + 1, none⟩ (.int .i64 (k + 1))).setCell ⟨g, j * 5 + 2, none⟩ (.int .i64 (k + 1 + 1))).setCell ⟨g, j * 5 + 3, none⟩ (.int .i64 (k + 1 + 1 + 1))) (c j) ps := own_blk q5 (by rw [Below.heap_setCell _ _ _ _ (by dsimp only; omega), Below.heap_setCell _ _ _ _ (by dsimp only; omega), Below.heap_setCell _ _ _ _ (by dsimp only; omega), Below.heap_setCell _ _ _ _ (by dsimp only; omega)]) (by simp only [World.size_setCell]; exact q5.1)
      have MP := hid (mark_ptsK _ (c j) ps.length (cp j) ps (k + 1 + 1 + 1 + 1) (by omega) (by omega) hnp rfl p4)
      have HM4 := hid (show Mid base hi w ((((wr.setCell ⟨g, j * 5, none⟩ (.int .i64 k)).setCell ⟨g, j * 5 + 1, none⟩ (.int .i64 (k + 1))).setCell ⟨g, j * 5 + 2, none⟩ (.int .i64 (k + 1 + 1))).setCell ⟨g, j * 5 + 3, none⟩ (.int .i64 (k + 1 + 1 + 1))) from mid_set (mid_set (mid_set (mid_set HM.out hbg hgh _) hbg hgh _) hbg hgh _) hbg hgh _)
      have HT4 := hid (show ((((wr.setCell ⟨g, j * 5, none⟩ (.int .i64 k)).setCell ⟨g, j * 5 + 1, none⟩ (.int .i64 (k + 1))).setCell ⟨g, j * 5 + 2, none⟩ (.int .i64 (k + 1 + 1))).setCell ⟨g, j * 5 + 3, none⟩ (.int .i64 (k + 1 + 1 + 1))).there g 0 (n * 5) from there_set (there_set (there_set (there_set HT.out _) _) _) _)
      have HA4 : Hid (∀ i (h : i < rs.length), i < j → ∀ (h' : i < (mrk rs).length), RowC ((((wr.setCell ⟨g, j * 5, none⟩ (.int .i64 k)).setCell ⟨g, j * 5 + 1, none⟩ (.int .i64 (k + 1))).setCell ⟨g, j * 5 + 2, none⟩ (.int .i64 (k + 1 + 1))).setCell ⟨g, j * 5 + 3, none⟩ (.int .i64 (k + 1 + 1 + 1))) g (i * 5) (mrk rs)[i] (c i) (cp i)) := hid (fun i h h1 h' => ((((HA.out i h h1 h').setg (fun e => (HC.out i h).2.2 e.symm) (by omega) _).setg (fun e => (HC.out i h).2.2 e.symm) (by omega) _).setg (fun e => (HC.out i h).2.2 e.symm) (by omega) _).setg (fun e => (HC.out i h).2.2 e.symm) (by omega) _)
      have HZ4 : Hid (∀ i (h : i < rs.length), j + 1 ≤ i → RowC ((((wr.setCell ⟨g, j * 5, none⟩ (.int .i64 k)).setCell ⟨g, j * 5 + 1, none⟩ (.int .i64 (k + 1))).setCell ⟨g, j * 5 + 2, none⟩ (.int .i64 (k + 1 + 1))).setCell ⟨g, j * 5 + 3, none⟩ (.int .i64 (k + 1 + 1 + 1))) g (i * 5) rs[i] (c i) (cp i)) := hid (fun i h h1 => ((((HZ.out i h (by omega)).setg (fun e => (HC.out i h).2.2 e.symm) (by omega) _).setg (fun e => (HC.out i h).2.2 e.symm) (by omega) _).setg (fun e => (HC.out i h).2.2 e.symm) (by omega) _).setg (fun e => (HC.out i h).2.2 e.symm) (by omega) _)
      have HX : Hid (((((wr.setCell ⟨g, j * 5, none⟩ (.int .i64 k)).setCell ⟨g, j * 5 + 1, none⟩ (.int .i64 (k + 1))).setCell ⟨g, j * 5 + 2, none⟩ (.int .i64 (k + 1 + 1))).setCell ⟨g, j * 5 + 3, none⟩ (.int .i64 (k + 1 + 1 + 1))).cell? ⟨g, j * 5, none⟩ = some (.int .i64 k) ∧ ((((wr.setCell ⟨g, j * 5, none⟩ (.int .i64 k)).setCell ⟨g, j * 5 + 1, none⟩ (.int .i64 (k + 1))).setCell ⟨g, j * 5 + 2, none⟩ (.int .i64 (k + 1 + 1))).setCell ⟨g, j * 5 + 3, none⟩ (.int .i64 (k + 1 + 1 + 1))).cell? ⟨g, j * 5 + 1, none⟩ = some (.int .i64 (k + 1)) ∧ ((((wr.setCell ⟨g, j * 5, none⟩ (.int .i64 k)).setCell ⟨g, j * 5 + 1, none⟩ (.int .i64 (k + 1))).setCell ⟨g, j * 5 + 2, none⟩ (.int .i64 (k + 1 + 1))).setCell ⟨g, j * 5 + 3, none⟩ (.int .i64 (k + 1 + 1 + 1))).cell? ⟨g, j * 5 + 2, none⟩ = some (.int .i64 (k + 2)) ∧ ((((wr.setCell ⟨g, j * 5, none⟩ (.int .i64 k)).setCell ⟨g, j * 5 + 1, none⟩ (.int .i64 (k + 1))).setCell ⟨g, j * 5 + 2, none⟩ (.int .i64 (k + 1 + 1))).setCell ⟨g, j * 5 + 3, none⟩ (.int .i64 (k + 1 + 1 + 1))).cell? ⟨g, j * 5 + 3, none⟩ = some (.int .i64 (k + 3)) ∧ ((((wr.setCell ⟨g, j * 5, none⟩ (.int .i64 k)).setCell ⟨g, j * 5 + 1, none⟩ (.int .i64 (k + 1))).setCell ⟨g, j * 5 + 2, none⟩ (.int .i64 (k + 1 + 1))).setCell ⟨g, j * 5 + 3, none⟩ (.int .i64 (k + 1 + 1 + 1))).cell? ⟨g, j * 5 + 4, none⟩ = some (.slice (some ⟨c j, 0, none⟩) ps.length (cp j))) := hid ⟨x0, x1, x2, x3, z4'⟩
      clear x0 x1 x2 x3 p4 q4 q5 z1 z2 z3 y1 y2 y3 HM HT HA HZ
      go_wp2_with fail
      refine MP.out.mono ?_
      rintro e w1 ⟨rfl, hp1, hg⟩
      have hgne : some g ≠ some (c j) := fun e => hcg (by cases e; rfl)
      have HM5 := hid (mid_grown HM4.out hg hcb hch)
      have HT5 : Hid (w1.there g 0 (n * 5)) := hid (fun i hi' => by
        obtain ⟨s1, s2⟩ := HT4.out i hi'
        have hgs : g < ((((wr.setCell ⟨g, j * 5, none⟩ (.int .i64 k)).setCell ⟨g, j * 5 + 1, none⟩ (.int .i64 (k + 1))).setCell ⟨g, j * 5 + 2, none⟩ (.int .i64 (k + 1 + 1))).setCell ⟨g, j * 5 + 3, none⟩ (.int .i64 (k + 1 + 1 + 1))).heap.size := by have := HM4.out.2.2.2.1; omega
        have hb := hg.block g hgs hgne
        simp only [World.cell?, World.frozen?, hb]; exact ⟨s1, s2⟩)
      have HA5 : Hid (∀ i (h : i < rs.length), i < j + 1 → ∀ (h' : i < (mrk rs).length), RowC w1 g (i * 5) (mrk rs)[i] (c i) (cp i)) := hid (fun i h h1 h' => by
        by_cases e : i = j
        · subst e
          rw [HMA.out]
          obtain ⟨s0, s1, s2, s3, s4⟩ := HX.out
          refine ⟨hg.cell s0 hgne, hg.cell s1 hgne, hg.cell s2 hgne, hg.cell s3 hgne, ?_, ?_⟩
          · rw [tkk_len]; exact hg.cell s4 hgne
          · rw [show k + 4 = k + 1 + 1 + 1 + 1 by omega]; exact hp1
        · exact (HA4.out i h (by omega) h').grown hg hcg (HDJ.out i h e))
      have HZ5 : Hid (∀ i (h : i < rs.length), j + 1 ≤ i → RowC w1 g (i * 5) rs[i] (c i) (cp i)) := hid (fun i h h1 => (HZ4.out i h h1).grown hg hcg (HDJ.out i h (by omega)))
      have HK5 : Hid (k + 1 + 1 + 1 + 1 + 2 * (ps.length : Int) = kk rs (j + 1)) := hid (by rw [HKN.out]; omega)
      clear hg hp1 MP HM4 HT4 HA4 HZ4 HX z4' z1' z2' z3' y1' y2' y3'
      go_wp2_with fail
      go_roundw
      case rel => exact ⟨j + 1, _, by go_num, rfl, by omega, HK5, HM5, HT5, HA5, HZ5⟩
      case measure => simp [intOf]; omega
    · obtain rfl : j = n := by omega
      have c1 : (j : Int) ≤ (j : Int) := by omega
      go_wp2_with fail
      go_ret
      obtain ⟨e1, e2⟩ := HF.out wr k HKJ.out HA.out
      exact ⟨e1, e2, HM.out⟩
set_option maxHeartbeats 400000 in
theorem mark_rowsX (base hi : Nat) (now : Int) (a : Option Addr) (n cap : Nat) (rs : List Rw) (xs : List El) (w : World) (hn : rs.length = n) (hm : rs.length ≤ 1048576) (hl : ∀ m (h : m < rs.length), rs[m].2.2.2.2.length ≤ 1048576) (h : RowsX base hi w (.slice a n cap) rs xs) : Calls Tryz.prog 12 #[.agg #[.int .i64 now, .slice a n cap], .int .i64 1] w fun e w' => e = .returned (.int .i64 (kk rs rs.length)) ∧ Rws (fun _ => True) w' a (mrk rs) ∧ Mid base hi w w' := by
  subst hn
  have hB : Below w.heap.size w (w.alloc (.cells #[.int .i64 now, .slice a rs.length cap] 30)) := balloc (Below.refl _ _) _
  have HM : Hid (Calls Tryz.prog 30 #[.slice a rs.length cap, .int .i64 1] (w.alloc (.cells #[.int .i64 now, .slice a rs.length cap] 30)) fun e w' => e = .returned (.int .i64 (kk rs rs.length)) ∧ Rws (fun _ => True) w' a (mrk rs) ∧ Mid base hi (w.alloc (.cells #[.int .i64 now, .slice a rs.length cap] 30)) w') := hid (by
    have hX := h.below hB
    rcases hX.rows with ⟨rfl, _, e⟩ | ⟨g, cp', e, h1, h2, h3, h4, h5, c, cpf, h6, h7⟩
    · cases e
      go_enter Tryz.func30, Tryz.ntmps30
      go_wp2_with fail
      go_loopw [1, 5] (fun tk' ti wr => tk' = .int .i64 1 ∧ ti = .int .i64 0 ∧ wr = (w.alloc (.cells #[.int .i64 now, .slice none 0 0] 30))) (fun _ _ _ => 0)
      case atStart => exact ⟨rfl, rfl, rfl⟩
      case round =>
        obtain ⟨rfl, rfl, rfl⟩ := hrel
        go_wp2_with fail
        go_ret
        exact ⟨by simp [kk], .inl (by simp [mrk]), mid_refl _ _ _⟩
    · cases e
      refine (mark_rowSX base hi g cap rs c cpf _ h1 h2 h3 hm hl h5 (fun j hj => (h6 j hj).1) (fun j hj => ⟨(h6 j hj).2.2.2.1, (h6 j hj).2.2.2.2.1, (h6 j hj).2.2.2.2.2⟩) h7).mono ?_
      rintro e w' ⟨rfl, hr, hmid⟩
      refine ⟨rfl, .inr ⟨g, 0, rfl, by have := hmid.2.2.2.1; omega, fun j hj => ?_⟩, hmid⟩
      rw [Nat.zero_add]
      have hj' := hj
      rw [mrk_len] at hj'
      have e2 := mrk_at hj'
      refine (hr j hj).at ?_ ?_
      · rw [e2]; simp only [tkk_len]; exact (h6 j hj').2.1
      · rw [e2]; simp only [tkk_len]; exact (h6 j hj').2.2.1)
  clear h hl
  go_enter Tryz.func12, Tryz.ntmps12
  go_wp2_with fail
  refine HM.out.mono ?_
  rintro e w1 ⟨rfl, hr, hmid⟩
  have HRR := hid hr
  have HMM := hid (mid_trans (mid_below hB) hmid)
  clear hmid hr
  go_wp2_with fail
  go_ret
  exact ⟨rfl, HRR.out, HMM.out⟩
set_option maxRecDepth 100000 in
set_option maxHeartbeats 2000000 in
theorem held_rowSX {N : Nat → Prop} (a : Option Addr) (n cap : Nat) (rs : List Rw) (w : World) (hn : rs.length = n) (hm : n ≤ 1048576) (hl : ∀ m (h : m < rs.length), rs[m].2.2.2.2.length ≤ 1048576) (h : Rws N w a (mrk rs)) : Calls Tryz.prog 32 #[.slice a n cap, .int .i64 1] w fun e w' => e = .returned (.int .i64 (kk rs n)) ∧ w' = w := by
  have HL := hid hl
  have HR := hid h
  have HN := hid hn
  have HK := hid (kk_bound hl)
  clear hl h hn
  have HF : Hid (∀ k : Int, k = kk rs n → Ending.returned (.int .i64 k) = .returned (.int .i64 (kk rs n))) := hid (fun k e => by rw [e])
  go_enter Tryz.func32, Tryz.ntmps32
  go_wp2_with fail
  go_loopw [1, 5] (fun tk' ti wr => ∃ j : Nat, ∃ k : Int, ti = .int .i64 j ∧ tk' = .int .i64 k ∧ j ≤ n ∧ Hid (k = kk rs j) ∧ wr = w) (fun _ ti _ => n - (intOf ti).toNat)
  case atStart => exact ⟨0, 1, rfl, rfl, Nat.zero_le _, hid (by simp [kk]), rfl⟩
  case round =>
    obtain ⟨j, k, rfl, rfl, hj, HKJ, hw⟩ := hrel
    subst hw
    by_cases hlt : j < n
    · have c1 : (j : Int) < (n : Int) := by omega
      have hjr : j < rs.length := by rw [HN.out]; exact hlt
      obtain ⟨hk0, hk1⟩ := HK.out j (by omega)
      rw [← HKJ.out] at hk0 hk1
      have hk2 : k ≤ 2199027449858 := by omega
      have HKN := hid (kk_next hjr)
      rw [← HKJ.out] at HKN
      have hma := mrk_at hjr
      rw [← HKJ.out] at hma
      obtain ⟨b, o, rfl, hbs, a', cap', k0, k1, k2, k3, k4, k5, k6, k7, _⟩ := HR.out.at j (by rw [mrk_len]; exact hjr)
      rw [hma] at k0 k1 k2 k3 k4 k5 k6 k7
      simp only [tkk_len] at k0 k1 k2 k3 k4 k5 k6 k7
      have hnp := HL.out j hjr
      generalize hps : rs[j].2.2.2.2.length = np at *
      clear hps hma
      rw [show k + 2 = k + 1 + 1 by omega] at k2
      rw [show k + 3 = k + 1 + 1 + 1 by omega] at k3
      rw [show k + 4 = k + 1 + 1 + 1 + 1 by omega] at k7
      have HP := hid (held_ptsK wr a' cap' np (k + 1 + 1 + 1 + 1) (by omega) (by omega) hnp k7)
      have HK5 : Hid (k + 1 + 1 + 1 + 1 + 2 * (np : Int) = kk rs (j + 1)) := hid (by rw [HKN.out]; omega)
      have hpos : ¬ (k + 1 + 1 + 1 + 1 + 2 * (np : Int) < 0) := by omega
      clear k5 k6 k7
      go_wp2_with fail
      refine HP.out.mono ?_
      rintro e w1 ⟨rfl, hw1⟩
      replace hw1 := hw1.symm
      subst hw1
      go_wp2_with fail
      go_roundw
      case rel => exact ⟨j + 1, _, by go_num, rfl, by omega, HK5, by first | rfl | trivial⟩
      case measure => simp [intOf]; omega
    · obtain rfl : j = n := by omega
      have c1 : (j : Int) ≤ (j : Int) := by omega
      go_wp2_with fail
      go_ret
      exact ⟨HF.out k HKJ.out, rfl⟩
set_option maxHeartbeats 400000 in
theorem held_rowsX {N : Nat → Prop} (now : Int) (a : Option Addr) (n cap : Nat) (rs : List Rw) (w : World) (hn : rs.length = n) (hm : n ≤ 1048576) (hl : ∀ m (h : m < rs.length), rs[m].2.2.2.2.length ≤ 1048576) (h : Rws N w a (mrk rs)) : Calls Tryz.prog 14 #[.agg #[.int .i64 now, .slice a n cap], .int .i64 1] w fun e w' => e = .returned (.int .i64 (kk rs n)) ∧ Below w.heap.size w w' := by
  have hB : Below w.heap.size w (w.alloc (.cells #[.int .i64 now, .slice a n cap] 30)) := balloc (Below.refl _ _) _
  have HM := hid (held_rowSX a n cap rs _ hn hm hl (h.below hB))
  have hkp := (kk_bound hl n (by omega)).1
  clear h hl
  have hz : ¬ (kk rs n < 0) := by omega
  generalize kk rs n = kn at *
  go_enter Tryz.func14, Tryz.ntmps14
  go_wp2_with fail
  refine HM.out.mono ?_
  rintro e w1 ⟨rfl, hw⟩
  replace hw := hw.symm
  subst hw
  go_wp2_with fail
  go_ret
  exact ⟨rfl, hB⟩
end Go.Proofs.YtckhhmhfdciokaaGreat
namespace Go.Proofs.YtckhhmhfdciokaaGreat
open Go.RowKit
set_option linter.unusedSimpArgs false
set_option linter.unusedVariables false
/-- Rows as the law hands them in: each list of points has an address. -/
def RwsS (w : World) (B : Nat) (rs : List Rw) : Prop := B < w.heap.size ∧ ∀ j (h : j < rs.length), ∃ c cp, c < w.heap.size ∧ w.cell? ⟨B, j * 5, none⟩ = some (.int .i64 rs[j].1) ∧ w.cell? ⟨B, j * 5 + 1, none⟩ = some (.int .i64 rs[j].2.1) ∧ w.cell? ⟨B, j * 5 + 2, none⟩ = some (.int .i64 rs[j].2.2.1) ∧ w.cell? ⟨B, j * 5 + 3, none⟩ = some (.int .i64 rs[j].2.2.2.1) ∧ w.cell? ⟨B, j * 5 + 4, none⟩ = some (.slice (some ⟨c, 0, none⟩) rs[j].2.2.2.2.length cp) ∧ rs[j].2.2.2.2.length ≤ 1099511627776 ∧ Pts w (some ⟨c, 0, none⟩) rs[j].2.2.2.2
theorem rwsS_of {N : Nat → Prop} {hi : Nat} {w : World} {B : Nat} {rs : List Rw} (hB : B < w.heap.size) (h : RwsAt N w B 0 rs) (ho : RwsO hi w B rs) (hh : hi ≤ w.heap.size) : RwsS w B rs := by
  refine ⟨hB, fun j hj => ?_⟩
  obtain ⟨a, cap, h0, h1, h2, h3, h4, h5, h6, h7, h8⟩ := h j hj
  obtain ⟨c, q0, q1, q2, q3⟩ := ho j hj
  simp only [Nat.zero_add] at h0 h1 h2 h3 h4
  rw [h4] at q0
  cases q0
  exact ⟨c, _, by omega, h0, h1, h2, h3, h4, h6, h7⟩
theorem RwsS.below {w w' : World} {B : Nat} {rs : List Rw} (h : RwsS w B rs) (H : Below w.heap.size w w') : RwsS w' B rs := by
  refine ⟨Nat.lt_of_lt_of_le h.1 H.size, fun j hj => ?_⟩
  obtain ⟨c, cp, a0, a1, a2, a3, a4, a5, a6, a7⟩ := h.2 j hj
  exact ⟨c, cp, Nat.lt_of_lt_of_le a0 H.size, keepcell H a1, keepcell H a2, keepcell H a3, keepcell H a4, keepcell H a5, a6, a7.below H⟩
theorem flt_next {rs : List Rw} {p : Rw → Bool} {i : Nat} (hi : i < rs.length) : (rs.take (i + 1)).filter p = if p rs[i] = true then (rs.take i).filter p ++ [rs[i]] else (rs.take i).filter p := by
  rw [List.take_add_one, List.getElem?_eq_getElem hi, List.filter_append]
  by_cases h : p rs[i] = true
  · simp [h]
  · simp [h]
theorem make_rows0 (n : Nat) (hn : n ≤ 1099511627776) (w : World) : (Instr.makeSlice 28 (.int .i64 0) (.int .i64 n)).run Tryz.prog w = .ok (.slice (some ⟨w.heap.size, 0, none⟩) 0 n) (w.alloc (.cells (madeCells #[.int .i64 0, .int .i64 0, .int .i64 0, .int .i64 0, .slice none 0 0] (n * 5)) 55)) := by
  obtain ⟨i0, hi, hz0, hz1, hz2⟩ := info_parts Tryz.infoRow
  have := run_make (P := Tryz.prog) w 28 55 i0 _ Tryz.underlying28 hi hz0 .i64 .i64 0 n (by omega) (by omega) (by rw [hz2]; omega) (by omega)
  rw [hz1] at this
  exact this
theorem kept_form {base hi : Nat} {w : World} {v : Value} {rs : List Rw} {xs : List El} (h : RowsX base hi w v rs xs) : ∃ a cap, v = .slice a rs.length cap := by
  rcases h.rows with ⟨rfl, _, e⟩ | ⟨g, cap, e, _⟩
  · exact ⟨none, 0, e⟩
  · exact ⟨_, cap, e⟩
set_option maxRecDepth 100000 in
set_option maxHeartbeats 2000000 in
theorem kept_copied (B : Nat) (rs : List Rw) (w : World) (hm : rs.length ≤ 1099511627776) (h : RwsS w B rs) : Calls Tryz.prog 41 #[.slice (some ⟨B, 0, none⟩) rs.length rs.length, .func (.func 42) #[] #[]] w fun e w' => ∃ v xs, e = .returned v ∧ RowsX w.heap.size w'.heap.size w' v (rs.filter allb) xs ∧ Below w.heap.size w w' := by
  obtain ⟨i0, hi0, hz0, hz1, hz2⟩ := info_parts Tryz.infoRow
  have HR := hid h
  clear h
  have hmk := make_rows0 rs.length hm
  obtain ⟨n, hn⟩ : ∃ n, n = rs.length := ⟨_, rfl⟩
  have HN := hid hn.symm
  rw [← hn] at hm hmk ⊢
  clear hn
  have hB0 : Below w.heap.size w (w.alloc (.cells (madeCells #[.int .i64 0, .int .i64 0, .int .i64 0, .int .i64 0, .slice none 0 0] (n * 5)) 55)) := balloc (Below.refl _ _) _
  have HI : Hid (RowsX w.heap.size (w.alloc (.cells (madeCells #[.int .i64 0, .int .i64 0, .int .i64 0, .int .i64 0, .slice none 0 0] (n * 5)) 55)).heap.size (w.alloc (.cells (madeCells #[.int .i64 0, .int .i64 0, .int .i64 0, .int .i64 0, .slice none 0 0] (n * 5)) 55)) (.slice (some ⟨w.heap.size, 0, none⟩) 0 n) [] []) := hid (by
    have := World.ownsRow_made (base := w.heap.size) (e := 55) (size := 5) w (madeCells #[.int .i64 0, .int .i64 0, .int .i64 0, .int .i64 0, .slice none 0 0] (n * 5)) n (Nat.le_refl _) (by unfold maxLen; omega) (size_madeCells _ _)
    exact RowsX.nil this (fun g e => by simp [Value.ownBlock] at e; subst e; simp) (Nat.le_refl _))
  go_enter Tryz.func41, Tryz.ntmps41
  go_upto_region 2 with fail
  generalize w.alloc (.cells (madeCells #[.int .i64 0, .int .i64 0, .int .i64 0, .int .i64 0, .slice none 0 0] (n * 5)) 55) = W0 at *
  clear hmk
  go_wp2_with fail
  go_loopw [5, 15] (fun tv ti wr => ∃ i : Nat, ∃ xs : List El, ti = .int .i64 i ∧ i ≤ n ∧ Hid (RowsX w.heap.size wr.heap.size wr tv ((rs.take i).filter allb) xs) ∧ Hid (Below w.heap.size w wr)) (fun _ ti _ => n - (intOf ti).toNat)
  case atStart => exact ⟨0, [], rfl, Nat.zero_le _, HI, hid hB0⟩
  case round =>
    clear HI hB0
    obtain ⟨i, xs, rfl, hi, HV, HBW⟩ := hrel
    obtain ⟨a5, c5, rfl⟩ := kept_form HV.out
    have hwX := HBW.out.size
    by_cases hlt : i < n
    · have d1 : (i : Int) < (n : Int) := by omega
      have hir : i < rs.length := by rw [HN.out]; exact hlt
      obtain ⟨ci, cpi, k9, k0, k1, k2, k3, k4, k6, k7⟩ := (HR.out.below HBW.out).2 i hir
      have hbx : Below wr.heap.size wr (wr.alloc (.cells #[.int .i64 rs[i].1, .int .i64 rs[i].2.1, .int .i64 rs[i].2.2.1, .int .i64 rs[i].2.2.2.1, .slice (some ⟨ci, 0, none⟩) rs[i].2.2.2.2.length cpi] 55)) := balloc (Below.refl _ _) _
      have HT := hid (fun (W : World) (hb : Below wr.heap.size wr W) => copied_1 rs[i] ci 0 cpi W k6 (Nat.lt_of_lt_of_le k9 hb.size) (k7.below hb))
      have HX := hid (flt_next (p := allb) hir)
      have hil : ((rs.take i).filter allb).length ≤ i := by have := List.length_filter_le allb (rs.take i); simp at this; omega
      have HK6 := hid k6
      have HSN : Hid (∀ (r : Rw), rs[i] = r → (r.1, r.2.1, r.2.2.1, r.2.2.2.1, r.2.2.2.2) = rs[i]) := hid (fun r e => by rw [e])
      clear k6 k7 k9
      unfold RT rwv at HT
      obtain ⟨r, hr⟩ : ∃ r, r = rs[i] := ⟨_, rfl⟩
      rw [← hr] at k0 k1 k2 k3 k4 HT HX HK6 hbx
      generalize hpr : allb r = q2 at HX HT
      clear hpr hr HSN
      generalize (rs.take i).filter allb = zs at *
      obtain ⟨id, fr, te, kd, ps⟩ := r
      simp only at k0 k1 k2 k3 k4 HT hbx HK6
      have hps : ps.length ≤ 1099511627776 := HK6.out
      go_upto_region 5 with fail
      have gx := new_alloc wr wr.heap.size (.cells #[.int .i64 id, .int .i64 fr, .int .i64 te, .int .i64 kd, .slice (some ⟨ci, 0, none⟩) ps.length cpi] 55) rfl
      have HI1 := hid (HV.out.below hbx)
      have HB1 := hid (btrans HBW.out hbx)
      have HT1 := hid (HT.out _ hbx)
      have hs1 := hbx.size
      clear k0 k1 k2 k3 k4 HT hbx HV
      generalize wr.alloc (.cells #[.int .i64 id, .int .i64 fr, .int .i64 te, .int .i64 kd, .slice (some ⟨ci, 0, none⟩) ps.length cpi] 55) = W1 at *
      generalize wr.heap.size = X at *
      obtain ⟨⟨x0, x1, x2, x3, x4⟩, _⟩ := cell5g gx
      clear gx
      go_wp2_with fail
      refine HT1.out.mono ?_
      rintro e z ⟨g, cp, rfl, hcp, hgs, ho, hz⟩
      have HBz := hid (btrans HB1.out hz)
      have HIz := hid (HI1.out.below hz)
      have HO := hid ho
      have hzs := hz.size
      have hwz := HBz.out.size
      clear hz x0 x1 x2 x3 x4 HT1 HI1 HB1 ho
      cases q2
      · go_wp2_with fail
        have hal : Below z.heap.size z (z.alloc (.cells #[.int .i64 id, .int .i64 fr, .int .i64 te, .int .i64 kd, .slice (some ⟨g, 0, none⟩) ps.length cp] 55)) := balloc (Below.refl _ _) _
        have HV2 : Hid (RowsX w.heap.size (z.alloc (.cells #[.int .i64 id, .int .i64 fr, .int .i64 te, .int .i64 kd, .slice (some ⟨g, 0, none⟩) ps.length cp] 55)).heap.size (z.alloc (.cells #[.int .i64 id, .int .i64 fr, .int .i64 te, .int .i64 kd, .slice (some ⟨g, 0, none⟩) ps.length cp] 55)) (.slice a5 zs.length c5) ((rs.take (i + 1)).filter allb) xs) := hid (by
          rw [HX.out]
          simpa using (HIz.out.below hal).mono (Nat.le_refl _) (Nat.le_trans (by omega) hal.size) (Nat.le_refl _))
        have HBa := hid (btrans HBz.out hal)
        clear hal
        go_roundw
        case rel => exact ⟨i + 1, xs, by go_num, by omega, HV2, HBa⟩
        case measure => simp [intOf]; omega
      · have HX2 : Hid ((rs.take (i + 1)).filter allb = zs ++ [(id, fr, te, kd, ps)]) := hid (by rw [HX.out]; simp)
        clear HX
        go_upto_region 7 with fail
        have hal : Below z.heap.size z (z.alloc (.cells #[.int .i64 id, .int .i64 fr, .int .i64 te, .int .i64 kd, .slice (some ⟨g, 0, none⟩) ps.length cp] 55)) := balloc (Below.refl _ _) _
        have gy := new_alloc z z.heap.size (.cells #[.int .i64 id, .int .i64 fr, .int .i64 te, .int .i64 kd, .slice (some ⟨g, 0, none⟩) ps.length cp] 55) rfl
        have HIa := hid (HIz.out.below hal)
        have HBa := hid (btrans HBz.out hal)
        have HOa := hid (HO.out.below hal)
        have has : z.heap.size < (z.alloc (.cells #[.int .i64 id, .int .i64 fr, .int .i64 te, .int .i64 kd, .slice (some ⟨g, 0, none⟩) ps.length cp] 55)).heap.size := by simp
        clear hal HO HIz HBz
        generalize z.alloc (.cells #[.int .i64 id, .int .i64 fr, .int .i64 te, .int .i64 kd, .slice (some ⟨g, 0, none⟩) ps.length cp] 55) = Z at *
        obtain ⟨⟨x0, x1, x2, x3, x4⟩, _⟩ := cell5g gy
        clear gy
        have hownZ := HIa.out.2.1
        have hgZ := HOa.out.1
        go_wp2_with (at_builtin; (refine wpList_append_lies _ rfl (.tmp 26) (.tmp 28) 28 rfl w.heap.size 55 i0 _ 5 56 Tryz.underlying28 hi0 hz0 hz1 hz2 rfl (by decide) (.slice a5 zs.length c5) zs.length (flat5 xs) rfl (hownZ.alloc _) ⟨Z.heap.size, 0, none⟩ 1 1 (ev (elR (id, fr, te, kd, ps) g cp)) rfl rfl (World.news_of_block (cs := #[.int .i64 id, .int .i64 fr, .int .i64 te, .int .i64 kd, .slice (some ⟨g, 0, none⟩) ps.length cp]) (t := 55) (fr := (0, 0)) (heap_alloc_new Z _)) (by simp [ev, elR, Value.oneCell']) (by omega) (by unfold maxLen; omega) (by omega) (by simp; omega) (Z.heap.size + 1) (by simp) ?_; intro gg cq w2 hown2 hgrow hat hlt2))
        have hal2 : Below Z.heap.size Z (Z.alloc (.cells #[.int .i64 id, .int .i64 fr, .int .i64 te, .int .i64 kd, .slice (some ⟨g, 0, none⟩) ps.length cp] 55)) := balloc (Below.refl _ _) _
        have hsn := RowsX.snoc (r := (id, fr, te, kd, ps)) (c := g) (cp := cp) (HIa.out.below hal2) (by omega) (by omega) (by simp; omega) hcp hps (HOa.out.below hal2) hown2 hgrow (by simpa using hat) hlt2
        have hb2 : Below w.heap.size w w2 := Below.grown (balloc HBa.out _) hgrow (by simp; omega) (fun k e => (hownZ.lt k e).1)
        have HSN2 : Hid (RowsX w.heap.size w2.heap.size w2 (.slice (some ⟨gg, 0, none⟩) (zs.length + 1) cq) ((rs.take (i + 1)).filter allb) (xs ++ [elR (id, fr, te, kd, ps) g cp])) := hid (by rw [HX2.out]; exact hsn)
        have HB2 := hid hb2
        clear hsn hb2 hown2 hgrow hal2 hownZ
        go_roundw
        case rel => exact ⟨i + 1, _, by go_num, by omega, HSN2, HB2⟩
        case measure => simp [intOf]; omega
    · have d1 : (n : Int) ≤ (i : Int) := by omega
      have hin : i = rs.length := by have := HN.out; omega
      have HF : Hid (RowsX w.heap.size wr.heap.size wr (.slice a5 ((rs.take i).filter allb).length c5) (rs.filter allb) xs) := hid (by have := HV.out; rw [hin, List.take_length] at this ⊢; exact this)
      clear hin HV
      go_wp2_with fail
      go_ret
      exact ⟨_, xs, rfl, HF.out, HBW.out⟩
/-- Rows that a call answers, in memory of its own. -/
def VR (w : World) (now : Int) (rs : List Rw) (e : Ending) (w' : World) : Prop :=
  ∃ a cap xs, e = .returned (.agg #[.int .i64 now, .slice a rs.length cap]) ∧ RowsX w.heap.size w'.heap.size w' (.slice a rs.length cap) rs xs ∧ Below w.heap.size w w'
set_option maxRecDepth 100000 in
set_option maxHeartbeats 1000000 in
theorem rows_copied (now : Int) (B : Nat) (rs : List Rw) (w : World) (hm : rs.length ≤ 1099511627776) (h : RwsS w B rs) : Calls Tryz.prog 23 #[.agg #[.int .i64 now, .slice (some ⟨B, 0, none⟩) rs.length rs.length]] w fun e w' => VR w now rs e w' := by
  have HK := hid (fun (W : World) (hb : Below w.heap.size w W) => kept_copied B rs W hm (h.below hb))
  have hfl : rs.filter allb = rs := List.filter_eq_self.2 (fun _ _ => rfl)
  rw [hfl] at HK
  clear h hfl
  obtain ⟨n, hn⟩ : ∃ n, n = rs.length := ⟨_, rfl⟩
  have HN := hid hn.symm
  unfold VR
  rw [← hn] at hm HK ⊢
  clear hn
  have hB : Below w.heap.size w ((w.alloc (.cells #[.int .i64 now, .slice (some ⟨B, 0, none⟩) n n] 30)).alloc (.cells #[.int .i64 0, .slice none 0 0] 30)) := balloc (balloc (Below.refl _ _) _) _
  have g0 := old_alloc (o' := .cells #[.int .i64 0, .slice none 0 0] 30) (new_alloc w w.heap.size (.cells #[.int .i64 now, .slice (some ⟨B, 0, none⟩) n n] 30) rfl)
  have g1 := new_alloc (w.alloc (.cells #[.int .i64 now, .slice (some ⟨B, 0, none⟩) n n] 30)) (w.heap.size + 1) (.cells #[.int .i64 0, .slice none 0 0] 30) (by simp)
  go_enter Tryz.func23, Tryz.ntmps23
  go_upto_region 1 with fail
  generalize (w.alloc (.cells #[.int .i64 now, .slice (some ⟨B, 0, none⟩) n n] 30)).alloc (.cells #[.int .i64 0, .slice none 0 0] 30) = W at *
  obtain ⟨d0, d1, _, _⟩ := cell2f g0
  have hWs := lt_of_block g1
  go_wp2_with fail
  refine (HK.out _ hB).mono ?_
  rintro e y ⟨v, xs, rfl, hX, hy⟩
  obtain ⟨a, c, rfl⟩ := kept_form hX
  rw [HN.out] at hX
  rw [HN.out]
  replace g0 := keepheap2 hy g0
  replace g1 := keepheap2 hy g1
  have HB := hid (btrans hB hy)
  have HX := hid hX
  clear hB hy hX HK d0 d1
  obtain ⟨d0, d1, f0, f1⟩ := cell2f g0
  obtain ⟨v0, v1, u0, u1⟩ := cell2f g1
  go_wp2_with fail
  have gF := set2r (set_far (q := w.heap.size) (k := 1) (u := .slice a n c) g1 (by omega)) (.int .i64 now) (.slice a n c)
  have bF := bset (bset (bset HB.out (q := w.heap.size) (k := 1) (Nat.le_refl _) (.slice a n c)) (q := w.heap.size + 1) (k := 0) (by omega) (.int .i64 now)) (q := w.heap.size + 1) (k := 1) (by omega) (.slice a n c)
  have xF := (HX.out.frame (w' := ((y.setCell ⟨w.heap.size, 1, none⟩ (.slice a n c)).setCell ⟨w.heap.size + 1, 0, none⟩ (.int .i64 now)).setCell ⟨w.heap.size + 1, 1, none⟩ (.slice a n c)) (fun b h1 h2 => by rw [Below.heap_setCell _ _ _ _ (by dsimp only; omega), Below.heap_setCell _ _ _ _ (by dsimp only; omega), Below.heap_setCell _ _ _ _ (by dsimp only; omega)]) (by simp)).mono (base' := w.heap.size) (hi' := (((y.setCell ⟨w.heap.size, 1, none⟩ (.slice a n c)).setCell ⟨w.heap.size + 1, 0, none⟩ (.int .i64 now)).setCell ⟨w.heap.size + 1, 1, none⟩ (.slice a n c)).heap.size) (by omega) (by simp) (Nat.le_refl _)
  generalize ((y.setCell ⟨w.heap.size, 1, none⟩ (.slice a n c)).setCell ⟨w.heap.size + 1, 0, none⟩ (.int .i64 now)).setCell ⟨w.heap.size + 1, 1, none⟩ (.slice a n c) = wf at *
  obtain ⟨z0, z1, _, _⟩ := cell2f gF
  exact bodyPost_ret (v := .agg #[.int .i64 now, .slice a n c]) (by simp [results, Tryz.results23, go_sem, z0, z1]) rfl ⟨a, c, xs, rfl, xF, bF⟩
def vacb (now : Int) (rs : List Rw) (t : Int) : List Rw := if rowsb now rs = true then rs.filter (vkeep t) else rs
end Go.Proofs.YtckhhmhfdciokaaGreat
namespace Go.Proofs.YtckhhmhfdciokaaGreat
open Go.RowKit
set_option linter.unusedSimpArgs false
set_option linter.unusedVariables false
theorem set1r {w : World} {p : Nat} {o0 o1 : Value} {t : TypeId} (h : w.heap[p]? = some (.cells #[o0, o1] t (0, 0))) (b : Value) : (w.setCell ⟨p, 1, none⟩ b).heap[p]? = some (.cells #[o0, b] t (0, 0)) := by
  have hlt := lt_of_block h
  have h' : w.heap[p] = .cells #[o0, o1] t (0, 0) := by simpa [Array.getElem?_eq_getElem hlt] using h
  show (w.heap.modify p _)[p]? = _
  rw [Array.getElem?_eq_getElem (by simpa using hlt), Array.getElem_modify_self, h']
  rfl
theorem own_nilR {w : World} {B : Nat} : w.ownsRow B 55 5 (.slice none 0 0) 0 [] := ⟨by simp, .inl ⟨rfl, rfl⟩⟩
set_option maxRecDepth 100000 in
set_option maxHeartbeats 4000000 in
theorem spec_copyRows (now : Int) (B : Nat) (rs : List Rw) (w : World) (hm : rs.length ≤ 1099511627776) (h : RwsS w B rs) : Calls Tryz.prog 17 #[.agg #[.int .i64 now, .slice (some ⟨B, 0, none⟩) rs.length rs.length]] w fun e w' => VR w now rs e w' := by
  obtain ⟨i0, hi0, hz0, hz1, hz2⟩ := info_parts Tryz.infoRow
  have HR := hid h
  clear h
  unfold VR
  obtain ⟨n, hn⟩ : ∃ n, n = rs.length := ⟨_, rfl⟩
  have HN := hid hn.symm
  rw [← hn] at hm ⊢
  clear hn
  have hBx : Below w.heap.size w (((w.alloc (.cells #[.int .i64 now, .slice (some ⟨B, 0, none⟩) n n] 30)).alloc (.cells #[.int .i64 0, .slice none 0 0] 30)).alloc (.cells #[.int .i64 now, .slice none 0 0] 30)) := balloc (balloc (balloc (Below.refl _ _) _) _) _
  have g0 := old_alloc (o' := .cells #[.int .i64 now, .slice none 0 0] 30) (old_alloc (o' := .cells #[.int .i64 0, .slice none 0 0] 30) (new_alloc w w.heap.size (.cells #[.int .i64 now, .slice (some ⟨B, 0, none⟩) n n] 30) rfl))
  have g1 := old_alloc (o' := .cells #[.int .i64 now, .slice none 0 0] 30) (new_alloc (w.alloc (.cells #[.int .i64 now, .slice (some ⟨B, 0, none⟩) n n] 30)) (w.heap.size + 1) (.cells #[.int .i64 0, .slice none 0 0] 30) (by simp))
  have g2 := new_alloc ((w.alloc (.cells #[.int .i64 now, .slice (some ⟨B, 0, none⟩) n n] 30)).alloc (.cells #[.int .i64 0, .slice none 0 0] 30)) (w.heap.size + 1 + 1) (.cells #[.int .i64 now, .slice none 0 0] 30) (by simp)
  have hs3 : (((w.alloc (.cells #[.int .i64 now, .slice (some ⟨B, 0, none⟩) n n] 30)).alloc (.cells #[.int .i64 0, .slice none 0 0] 30)).alloc (.cells #[.int .i64 now, .slice none 0 0] 30)).heap.size = w.heap.size + 3 := by simp
  go_enter Tryz.func17, Tryz.ntmps17
  go_upto_region 2 with fail
  generalize (((w.alloc (.cells #[.int .i64 now, .slice (some ⟨B, 0, none⟩) n n] 30)).alloc (.cells #[.int .i64 0, .slice none 0 0] 30)).alloc (.cells #[.int .i64 now, .slice none 0 0] 30)) = W0 at *
  have HX0 := hid (RowsX.nil (base := w.heap.size + 3) (hi := W0.heap.size) (own_nilR (w := W0)) (fun g e => by cases e) (Nat.le_refl _))
  go_wp2_with fail
  go_loopw [4] (fun ti wr => ∃ i : Nat, ∃ v : Value, ∃ xs : List El, ti = .int .i64 i ∧ i ≤ n ∧ Hid (RowsX (w.heap.size + 3) wr.heap.size wr v (rs.take i) xs) ∧ Hid (wr.heap[w.heap.size]? = some (.cells #[.int .i64 now, .slice (some ⟨B, 0, none⟩) n n] 30 (0, 0))) ∧ Hid (wr.heap[w.heap.size + 1]? = some (.cells #[.int .i64 0, .slice none 0 0] 30 (0, 0))) ∧ Hid (wr.heap[w.heap.size + 1 + 1]? = some (.cells #[.int .i64 now, v] 30 (0, 0))) ∧ Hid (w.heap.size + 3 ≤ wr.heap.size) ∧ Hid (Below w.heap.size w wr)) (fun ti _ => n - (intOf ti).toNat)
  case atStart => exact ⟨0, _, [], rfl, Nat.zero_le _, HX0, hid g0, hid g1, hid g2, hid (by omega), hid hBx⟩
  case round =>
    clear HX0 g0 g1 g2 hBx hs3
    obtain ⟨i, v, xs, rfl, hi, HV, G0, G1, G2, HS, HBW⟩ := hrel
    obtain ⟨d0, d1, _, _⟩ := cell2f G0.out
    have hws := HS.out
    by_cases hlt : i < n
    · have c1 : (i : Int) < (n : Int) := by omega
      have hir : i < rs.length := by rw [HN.out]; exact hlt
      obtain ⟨ci, cpi, k9, k0, k1, k2, k3, k4, k6, k7⟩ := (HR.out.below HBW.out).2 i hir
      have htk : rs.take (i + 1) = rs.take i ++ [rs[i]] := by rw [List.take_add_one, List.getElem?_eq_getElem hir]; rfl
      have hil : (rs.take i).length ≤ i := by simp; omega
      have HSC := hid (fun (W : World) (hb : Below wr.heap.size wr W) => spec_copyG rs[i].2.2.2.1 ci 0 cpi rs[i].2.2.2.2 W k6 (k7.below hb) (Nat.lt_of_lt_of_le k9 hb.size))
      unfold CP at HSC
      obtain ⟨r, hr⟩ : ∃ r, r = rs[i] := ⟨_, rfl⟩
      rw [← hr] at k0 k1 k2 k3 k4 k6 htk HSC
      have HTK := hid htk
      clear hr htk k7 k9
      generalize rs.take i = zs at *
      obtain ⟨id, fr, te, kd, ps⟩ := r
      simp only at k0 k1 k2 k3 k4 k6 HSC
      go_upto_region 6 with fail
      have hbx : Below wr.heap.size wr (wr.alloc (.cells #[.int .i64 id, .int .i64 fr, .int .i64 te, .int .i64 kd, .slice (some ⟨ci, 0, none⟩) ps.length cpi] 55)) := balloc (Below.refl _ _) _
      have gx := new_alloc wr wr.heap.size (.cells #[.int .i64 id, .int .i64 fr, .int .i64 te, .int .i64 kd, .slice (some ⟨ci, 0, none⟩) ps.length cpi] 55) rfl
      have HV1 := hid (HV.out.below hbx)
      have HG0 := hid (keepheap2 hbx G0.out)
      have HG1 := hid (keepheap2 hbx G1.out)
      have HG2 := hid (keepheap2 hbx G2.out)
      have HB1 := hid (btrans HBW.out hbx)
      have HC1 := hid (HSC.out _ hbx)
      have hs1 : wr.heap.size < (wr.alloc (.cells #[.int .i64 id, .int .i64 fr, .int .i64 te, .int .i64 kd, .slice (some ⟨ci, 0, none⟩) ps.length cpi] 55)).heap.size := by simp
      clear k0 k1 k2 k3 k4 d0 d1 hbx HSC HV G0 G1 G2
      generalize wr.alloc (.cells #[.int .i64 id, .int .i64 fr, .int .i64 te, .int .i64 kd, .slice (some ⟨ci, 0, none⟩) ps.length cpi] 55) = W1 at *
      generalize wr.heap.size = X at *
      obtain ⟨⟨x0, x1, x2, x3, x4⟩, _⟩ := cell5g gx
      go_wp2_with fail
      refine HC1.out.mono ?_
      rintro e y ⟨g, cp, rfl, hcp, hgs, ho, hy⟩
      have gy := keepheap2 hy gx
      have hys := hy.size
      have hwy := (btrans HB1.out hy).size
      have HV2 := hid (HV1.out.below hy)
      have HG0' := hid (keepheap2 hy HG0.out)
      have HG1' := hid (keepheap2 hy HG1.out)
      have HG2' := hid (keepheap2 hy HG2.out)
      have HBy := hid (btrans HB1.out hy)
      have HO := hid ho
      clear hy ho gx HC1 HV1 HG0 HG1 HG2 HB1 x0 x1 x2 x3 x4
      obtain ⟨⟨x0, x1, x2, x3, x4⟩, y0, y1, y2, y3, y4⟩ := cell5g gy
      go_upto_region 7 with fail
      have gq := set34 gy (.int .i64 kd) (.slice (some ⟨g, 0, none⟩) ps.length cp)
      have hfar : ∀ b, b ≠ X → ((y.setCell ⟨X, 3, none⟩ (.int .i64 kd)).setCell ⟨X, 4, none⟩ (.slice (some ⟨g, 0, none⟩) ps.length cp)).heap[b]? = y.heap[b]? := fun b hb => by rw [Below.heap_setCell _ _ _ _ (by dsimp only; omega), Below.heap_setCell _ _ _ _ (by dsimp only; omega)]
      have HV3 := hid (HV2.out.frame (w' := (y.setCell ⟨X, 3, none⟩ (.int .i64 kd)).setCell ⟨X, 4, none⟩ (.slice (some ⟨g, 0, none⟩) ps.length cp)) (fun b h1 h2 => hfar b (by omega)) (by simp))
      have HG0 := hid ((hfar w.heap.size (by omega)).trans HG0'.out)
      have HG1 := hid ((hfar (w.heap.size + 1) (by omega)).trans HG1'.out)
      have g2 := (hfar (w.heap.size + 1 + 1) (by omega)).trans HG2'.out
      have HB3 := hid (bset (bset HBy.out (q := X) (k := 3) (by omega) (.int .i64 kd)) (q := X) (k := 4) (by omega) (.slice (some ⟨g, 0, none⟩) ps.length cp))
      have HO3 := hid (own_blk HO.out (hfar g (by omega)) (by simp; exact HO.out.1))
      have hs3 : ((y.setCell ⟨X, 3, none⟩ (.int .i64 kd)).setCell ⟨X, 4, none⟩ (.slice (some ⟨g, 0, none⟩) ps.length cp)).heap.size = y.heap.size := by simp
      have hs3a := Nat.le_of_eq hs3
      have hs3b := Nat.le_of_eq hs3.symm
      have hgy := HO.out.1
      clear hs3
      clear hfar HV2 HG0' HG1' HG2' HBy HO gy x0 x1 x2 x3 x4 y0 y1 y2 y3 y4
      generalize (y.setCell ⟨X, 3, none⟩ (.int .i64 kd)).setCell ⟨X, 4, none⟩ (.slice (some ⟨g, 0, none⟩) ps.length cp) = Y at *
      obtain ⟨⟨x0, x1, x2, x3, x4⟩, _⟩ := cell5g gq
      obtain ⟨v0, v1, _, _⟩ := cell2f g2
      have hownZ := HV3.out.2.1
      have hal2 : Below Y.heap.size Y (Y.alloc (.cells #[.int .i64 id, .int .i64 fr, .int .i64 te, .int .i64 kd, .slice (some ⟨g, 0, none⟩) ps.length cp] 55)) := balloc (Below.refl _ _) _
      have HGE := hid (keepheap2 hal2 g2)
      have hvb : v.ownBlock ≠ some (w.heap.size + 1 + 1) := fun e => by have := (hownZ.lt _ e).1; omega
      clear gq g2
      go_wp2_with (at_builtin; (refine wpList_append_lies _ rfl (.tmp 26) (.tmp 28) 28 rfl (w.heap.size + 3) 55 i0 _ 5 56 Tryz.underlying28 hi0 hz0 hz1 hz2 rfl (by decide) v zs.length (flat5 xs) rfl (hownZ.alloc _) ⟨Y.heap.size, 0, none⟩ 1 1 (ev (elR (id, fr, te, kd, ps) g cp)) rfl rfl (World.news_of_block (cs := #[.int .i64 id, .int .i64 fr, .int .i64 te, .int .i64 kd, .slice (some ⟨g, 0, none⟩) ps.length cp]) (t := 55) (fr := (0, 0)) (heap_alloc_new Y _)) (by simp [ev, elR, Value.oneCell']) (by omega) (by unfold maxLen; omega) (by omega) (by simp; omega) (Y.heap.size + 1) (by simp) ?_; intro gg cq w2 hown2 hgrow hat hlt2; have g2 := (hgrow.block (w.heap.size + 1 + 1) (lt_of_block HGE.out) (fun e => hvb e.symm)).trans HGE.out; obtain ⟨t0, t1, s0, s1⟩ := cell2f g2))
      have hsn := RowsX.snoc (r := (id, fr, te, kd, ps)) (c := g) (cp := cp) (HV3.out.below hal2) (by omega) (by omega) (by simp; omega) hcp k6 (HO3.out.below hal2) hown2 hgrow (by simpa using hat) hlt2
      have hb2 : Below w.heap.size w w2 := Below.grown (balloc HB3.out _) hgrow (by simp; omega) (fun k e => by have := (hownZ.lt k e).1; omega)
      have hw2 := hgrow.size
      have HG0e := hid ((hgrow.block w.heap.size (by simp; omega) (fun e => by have := (hownZ.lt _ e.symm).1; omega)).trans (keepheap2 hal2 HG0.out))
      have HG1e := hid ((hgrow.block (w.heap.size + 1) (by simp; omega) (fun e => by have := (hownZ.lt _ e.symm).1; omega)).trans (keepheap2 hal2 HG1.out))
      have hfar : ∀ b, b ≠ w.heap.size + 1 + 1 → (w2.setCell ⟨w.heap.size + 1 + 1, 1, none⟩ (.slice (some ⟨gg, 0, none⟩) (zs.length + 1) cq)).heap[b]? = w2.heap[b]? := fun b hb => by rw [Below.heap_setCell _ _ _ _ (by dsimp only; omega)]
      have HF1 := hid ((hsn.frame (w' := w2.setCell ⟨w.heap.size + 1 + 1, 1, none⟩ (.slice (some ⟨gg, 0, none⟩) (zs.length + 1) cq)) (fun b h1 h2 => hfar b (by omega)) (by simp)).mono (hi' := (w2.setCell ⟨w.heap.size + 1 + 1, 1, none⟩ (.slice (some ⟨gg, 0, none⟩) (zs.length + 1) cq)).heap.size) (Nat.le_refl _) (by simp) (Nat.le_refl _))
      rw [← HTK.out] at HF1
      have HF2 := hid ((hfar w.heap.size (by omega)).trans HG0e.out)
      have HF3 := hid ((hfar (w.heap.size + 1) (by omega)).trans HG1e.out)
      have HF4 : Hid ((w2.setCell ⟨w.heap.size + 1 + 1, 1, none⟩ (.slice (some ⟨gg, 0, none⟩) (zs.length + 1) cq)).heap[w.heap.size + 1 + 1]? = some (.cells #[.int .i64 now, .slice (some ⟨gg, 0, none⟩) (zs.length + 1) cq] 30 (0, 0))) := hid (set1r g2 _)
      have HF5 : Hid (w.heap.size + 3 ≤ (w2.setCell ⟨w.heap.size + 1 + 1, 1, none⟩ (.slice (some ⟨gg, 0, none⟩) (zs.length + 1) cq)).heap.size) := hid (by simp at hw2 ⊢; omega)
      have HF6 := hid (bset hb2 (q := w.heap.size + 1 + 1) (k := 1) (by omega) (.slice (some ⟨gg, 0, none⟩) (zs.length + 1) cq))
      clear hsn hb2 hown2 hgrow hal2 hownZ hfar g2 t0 t1 s0 s1 HGE HG0e HG1e
      go_roundw
      case rel => exact ⟨i + 1, _, _, by go_num, by omega, HF1, HF2, HF3, HF4, HF5, HF6⟩
      case measure => simp [intOf]; omega
    · have c1 : (n : Int) ≤ (i : Int) := by omega
      have hin : i = rs.length := by have := HN.out; omega
      have hX : RowsX (w.heap.size + 3) wr.heap.size wr v rs xs := by have := HV.out; rw [hin, List.take_length] at this; exact this
      obtain ⟨a, c, rfl⟩ := kept_form hX
      rw [HN.out] at hX G2
      have HX := hid hX
      clear hin HV hX
      obtain ⟨v0, v1, _, _⟩ := cell2f G1.out
      obtain ⟨t0, t1, _, _⟩ := cell2f G2.out
      obtain ⟨_, _, s0, s1⟩ := cell2f G1.out
      go_wp2_with fail
      have gF := set2r G1.out (.int .i64 now) (.slice a n c)
      have bF := bset (bset HBW.out (q := w.heap.size + 1) (k := 0) (by omega) (.int .i64 now)) (q := w.heap.size + 1) (k := 1) (by omega) (.slice a n c)
      have xF := (HX.out.frame (w' := (wr.setCell ⟨w.heap.size + 1, 0, none⟩ (.int .i64 now)).setCell ⟨w.heap.size + 1, 1, none⟩ (.slice a n c)) (fun b h1 h2 => by rw [Below.heap_setCell _ _ _ _ (by dsimp only; omega), Below.heap_setCell _ _ _ _ (by dsimp only; omega)]) (by simp)).mono (base' := w.heap.size) (hi' := ((wr.setCell ⟨w.heap.size + 1, 0, none⟩ (.int .i64 now)).setCell ⟨w.heap.size + 1, 1, none⟩ (.slice a n c)).heap.size) (by omega) (by simp) (Nat.le_refl _)
      generalize (wr.setCell ⟨w.heap.size + 1, 0, none⟩ (.int .i64 now)).setCell ⟨w.heap.size + 1, 1, none⟩ (.slice a n c) = wf at *
      obtain ⟨z0, z1, _, _⟩ := cell2f gF
      exact bodyPost_ret (v := .agg #[.int .i64 now, .slice a n c]) (by simp [results, Tryz.results17, go_sem, z0, z1]) rfl ⟨a, c, xs, rfl, xF, bF⟩
end Go.Proofs.YtckhhmhfdciokaaGreat
namespace Go.Proofs.YtckhhmhfdciokaaGreat
open Go.RowKit Go.Maps
set_option linter.unusedSimpArgs false
set_option linter.unusedVariables false
theorem keepset9 {w : World} {p q : Addr} {v u : Value} (h : w.cell? p = some v) (hne : p ≠ q) : (w.setCell q u).cell? p = some v := by
  rw [World.cell?_setCell_other _ _ _ _ (by first | exact hne | exact hne.symm)]; exact h
theorem own_set1 {w : World} {base g c n k : Nat} {t : TypeId} {xs : List Value} (h : w.ownsRow base t 5 (.slice (some ⟨g, 0, none⟩) n c) n xs) (x : Value) : (w.setCell ⟨g, k, none⟩ x).ownsRow base t 5 (.slice (some ⟨g, 0, none⟩) n c) n (xs.set k x) := by
  refine ⟨by rw [List.length_set]; exact h.1, ?_⟩
  rcases h.2 with ⟨q, _⟩ | ⟨g', c', cur, e, q1, q2, q3, q4, q5, q6⟩
  · cases q
  · cases e
    refine .inr ⟨g, c, _, rfl, q1, set_at q2, q3, q4, by simp; omega, ?_⟩
    rw [Array.toList_setIfInBounds, List.take_set, q6]
theorem own_kind {w : World} {base n : Nat} {t : TypeId} {v : Value} {xs : List Value} (h : w.ownsRow base t 5 v n xs) {g : Nat} (hg : v.ownBlock = some g) : ∃ cs, w.heap[g]? = some (.cells cs t (0, 0)) := by
  rcases h.2 with ⟨q, _⟩ | ⟨g', c', cur, e, q1, q2, _⟩
  · rw [q] at hg; cases hg
  · rw [e] at hg
    injection hg with hg
    subst hg
    exact ⟨cur, q2⟩
/-- What stands in a row's cells once it is ended. -/
def elT (t : Int) (x : El) : El := (x.1, x.2.1, t, x.2.2.2)
def rwT (t : Int) (r : Rw) : Rw := (r.1, r.2.1, t, r.2.2.2.1, r.2.2.2.2)
theorem flat5_setT (t : Int) : ∀ (xs : List El) (j : Nat) (h : j < xs.length), (flat5 xs).set (j * 5 + 2) (.int .i64 t) = flat5 (xs.set j (elT t xs[j]))
  | [], j, h => by simp at h
  | x :: r, 0, h => by
    show (ev x ++ flat5 r).set 2 _ = ev (elT t x) ++ flat5 r
    rw [List.set_append_left _ _ (by simp [ev])]
    rfl
  | x :: r, j + 1, h => by
    have hr : j < r.length := by simpa using h
    have ih := flat5_setT t r j hr
    show (ev x ++ flat5 r).set _ _ = ev x ++ flat5 (r.set j (elT t (r[j]'hr)))
    rw [List.set_append_right _ _ (by simp [ev]; omega), ← ih]
    congr 2
    simp [ev]; omega
theorem RowsX.setTo {base hi : Nat} {w : World} {g n cap : Nat} {rs : List Rw} {xs : List El} (h : RowsX base hi w (.slice (some ⟨g, 0, none⟩) n cap) rs xs) {j : Nat} (hj : j < rs.length) (t : Int) :
    RowsX base hi (w.setCell ⟨g, j * 5 + 2, none⟩ (.int .i64 t)) (.slice (some ⟨g, 0, none⟩) n cap) (rs.set j (rwT t rs[j])) (xs.set j (elT t (xs[j]'(by rw [h.1]; exact hj)))) := by
  obtain ⟨h1, h2, h3, h4, c, cp, h5, h6⟩ := h
  have hn : n = rs.length := by
    rcases h2.2 with ⟨q, _⟩ | ⟨g', c', cur, e, _⟩
    · cases q
    · injection e with _ e _
  have hxj : j < xs.length := by omega
  subst hn
  refine ⟨by simp [h1], ?_, h3, by simpa using h4, c, cp, fun k hk => ?_, fun a b hab hb => h6 a b hab (by simpa using hb)⟩
  · rw [List.length_set, ← flat5_setT t xs j hxj]
    exact own_set1 h2 _
  · have hk' : k < rs.length := by simpa using hk
    obtain ⟨a1, a2, a3, a4, a5, a6, a7⟩ := h5 k hk'
    have hne : c k ≠ g := fun e => a6 (by rw [e]; rfl)
    have hp : ∀ r : Rw, r.2.2.2.2 = rs[k].2.2.2.2 → r.2.2.2.2.length ≤ cp k ∧ r.2.2.2.2.length ≤ 1099511627776 ∧ base ≤ c k ∧ c k < hi ∧ Value.ownBlock (.slice (some ⟨g, 0, none⟩) rs.length cap) ≠ some (c k) ∧ PtsOwn (w.setCell ⟨g, j * 5 + 2, none⟩ (.int .i64 t)) (c k) r.2.2.2.2 := by
      intro r hr
      rw [hr]
      exact ⟨a2, a3, a4, a5, a6, own_blk a7 (Below.heap_setCell _ _ _ _ (by dsimp only; omega)) (by simp; exact a7.1)⟩
    by_cases e : j = k
    · subst e
      have er : (rs.set j (rwT t rs[j]))[j]'hk = rwT t rs[j] := by simp
      rw [er]
      refine ⟨?_, hp _ rfl⟩
      have ex : xs[j] = elR rs[j] (c j) (cp j) := by rw [List.getElem?_eq_getElem hxj] at a1; injection a1
      rw [List.getElem?_set_self hxj, ex]
      rfl
    · have er : (rs.set j (rwT t rs[j]))[k]'hk = rs[k] := by rw [List.getElem_set_ne e]
      rw [er]
      exact ⟨by rw [List.getElem?_set_ne e]; exact a1, hp _ rfl⟩
/-- A block is none of the rows'. -/
def Off (p : Nat) (v : Value) (xs : List El) : Prop := v.ownBlock ≠ some p ∧ ∀ (j : Nat) (x : El), xs[j]? = some x → x.2.2.2.2.1 ≠ some (⟨p, 0, none⟩ : Addr)
theorem RowsX.but {base hi p : Nat} {w w' : World} {v : Value} {rs : List Rw} {xs : List El} (h : RowsX base hi w v rs xs) (ho : Off p v xs) (hb : ∀ c, c < w.heap.size → c ≠ p → w'.heap[c]? = w.heap[c]?) (hs : w.heap.size ≤ w'.heap.size) : RowsX base hi w' v rs xs := by
  obtain ⟨h1, h2, h3, h4, c, cp, h5, h6⟩ := h
  refine ⟨h1, own_frame h2 (fun g e => hb g (by have := h3 g e; omega) (fun q => ho.1 (by rw [← q]; exact e))), h3, by omega, c, cp, fun j hj => ?_, h6⟩
  obtain ⟨a1, a2, a3, a4, a5, a6, a7⟩ := h5 j hj
  refine ⟨a1, a2, a3, a4, a5, a6, own_blk a7 (hb _ (by omega) (fun q => ?_)) (by omega)⟩
  have := ho.2 j _ a1
  simp only [elR, ne_eq, Option.some.injEq, Addr.mk.injEq, and_true] at this
  exact this q
theorem Off.setTo {p : Nat} {v : Value} {xs : List El} (h : Off p v xs) {j : Nat} (hj : j < xs.length) (t : Int) : Off p v (xs.set j (elT t xs[j])) := by
  refine ⟨h.1, fun k x hx => ?_⟩
  by_cases e : j = k
  · subst e
    rw [List.getElem?_set_self hj] at hx
    injection hx with hx
    rw [← hx]
    show (xs[j]).2.2.2.2.1 ≠ _
    exact h.2 j xs[j] (List.getElem?_eq_getElem hj)
  · rw [List.getElem?_set_ne e] at hx
    exact h.2 k x hx
theorem Off.new {base hi p : Nat} {w : World} {v : Value} {rs : List Rw} {xs : List El} (h : RowsX base hi w v rs xs) (hp : p < base ∨ hi ≤ p) : Off p v xs := by
  obtain ⟨h1, h2, h3, h4, c, cp, h5, h6⟩ := h
  refine ⟨fun e => by have := h3 p e; have := (h2.lt p e).1; omega, fun j x hx => ?_⟩
  have hj : j < rs.length := by rw [← h1]; exact (List.getElem?_eq_some_iff.1 hx).1
  obtain ⟨a1, a2, a3, a4, a5, _⟩ := h5 j hj
  rw [a1] at hx
  injection hx with hx
  rw [← hx]
  simp only [elR, ne_eq, Option.some.injEq, Addr.mk.injEq, and_true]
  omega
theorem Off.snoc {p : Nat} {v : Value} {xs : List El} (h : Off p v xs) {r : Rw} {c cp g n cap : Nat} (hc : c ≠ p) (hg : g ≠ p) : Off p (.slice (some ⟨g, 0, none⟩) n cap) (xs ++ [elR r c cp]) := by
  refine ⟨by simp only [Value.ownBlock, ne_eq, Option.some.injEq]; exact hg, fun j x hx => ?_⟩
  rcases Nat.lt_or_ge j xs.length with hj | hj
  · rw [List.getElem?_append_left hj] at hx
    exact h.2 j x hx
  · rw [List.getElem?_append_right hj] at hx
    have : j - xs.length = 0 := by
      rcases Nat.eq_zero_or_pos (j - xs.length) with q | q
      · exact q
      · rw [List.getElem?_eq_none (by simp; omega)] at hx; cases hx
    rw [this] at hx
    simp at hx
    rw [← hx]
    simp only [elR, ne_eq, Option.some.injEq, Addr.mk.injEq, and_true]
    exact hc
theorem owns_heap {H : Type} {P : Program} {k : TypeId} {R : Value → Option (DataW H × List MemPlace)} {b n : Nat} {D : DataW H} {w w' : World} (h : w.ownsMap P k R b n D) (e : w'.heap[b]? = w.heap[b]?) : w'.ownsMap P k R b n D := by
  obtain ⟨es, clock, h1, h2⟩ := h
  exact ⟨es, clock, e.trans h1, h2⟩
/-- What was answered: rows and whether it was done. -/
def apb (now : Int) (rs : List Rw) (cs : List Ch) : Bool := (decide (now ≤ 1000000000) && decide (rs.length + bgn cs ≤ 300)) && (rowsb now rs && cgs cs)
def aprs (now : Int) (rs : List Rw) (cs : List Ch) : List Rw := if apb now rs cs = true then apl (now + 1) rs cs else rs
def apnow (now : Int) (rs : List Rw) (cs : List Ch) : Int := if apb now rs cs = true then now + 1 else now
def APR (w : World) (now : Int) (rs : List Rw) (cs : List Ch) (e : Ending) (w' : World) : Prop :=
  ∃ v xs, e = .returned (.tuple #[.agg #[.int .i64 (apnow now rs cs), v], .bool (apb now rs cs)]) ∧ RowsX w.heap.size w'.heap.size w' v (aprs now rs cs) xs ∧ Below w.heap.size w w'
end Go.Proofs.YtckhhmhfdciokaaGreat
