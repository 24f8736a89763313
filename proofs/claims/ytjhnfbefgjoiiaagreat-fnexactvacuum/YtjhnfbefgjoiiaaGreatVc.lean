/- The marks of rows that are in memory of their own, to the number. -/
import Derived.Test.YtjhnfbefgjoiiaaGreatVb
namespace Go.Proofs.YtjhnfbefgjoiiaaGreat
open Go.RowKit
set_option linter.unusedSimpArgs false
set_option linter.unusedVariables false
set_option maxRecDepth 100000 in
set_option maxHeartbeats 2000000 in
theorem mark_rowSX (base hi g cap : Nat) (rs : List Rw) (c cp : Nat → Nat) (w : World) (hbg : base ≤ g) (hgh : g < hi) (hih : hi ≤ w.heap.size) (hm : rs.length ≤ 1048576) (hl : ∀ m (h : m < rs.length), rs[m].2.2.2.2.length ≤ 1048576) (ht : w.there g 0 (rs.length * 5)) (hr : ∀ j (h : j < rs.length), RowC w g (j * 5) rs[j] (c j) (cp j)) (hc : ∀ j, j < rs.length → base ≤ c j ∧ c j < hi ∧ c j ≠ g) (hd : ∀ i j, i < j → j < rs.length → c i ≠ c j) : Calls Tryz.prog 33 #[.slice (some ⟨g, 0, none⟩) rs.length cap, .int .i64 1] w fun e w' => e = .returned (.int .i64 (kk rs rs.length)) ∧ (∀ j (h : j < (mrk rs).length), RowC w' g (j * 5) (mrk rs)[j] (c j) (cp j)) ∧ Mid base hi w w' := by
  have HL := hid hl
  have HR := hid hr
  have HC := hid hc
  have HD : Hid (∀ i j, i ≠ j → i < rs.length → j < rs.length → c i ≠ c j) := hid (fun i j hne hi' hj' => by
    rcases Nat.lt_or_gt_of_ne hne with h | h
    · exact hd i j h hj'
    · exact fun e => hd j i h hi' e.symm)
  have HK := hid (kk_bound hl)
  clear hl hr hc hd
  obtain ⟨n, hn⟩ : ∃ n, n = rs.length := ⟨_, rfl⟩
  have HN := hid hn.symm
  rw [← hn] at hm ht ⊢
  clear hn
  have HTT := hid ht
  clear ht
  have HF : Hid (∀ (W : World) (q : Int), q = kk rs n → (∀ i (h : i < rs.length), i < n → ∀ (h' : i < (mrk rs).length), RowC W g (i * 5) (mrk rs)[i] (c i) (cp i)) → (Ending.returned (.int .i64 q) = .returned (.int .i64 (kk rs n)) ∧ ∀ j (h : j < (mrk rs).length), RowC W g (j * 5) (mrk rs)[j] (c j) (cp j))) := hid (fun W q hq h => ⟨by rw [hq], fun j hj => by
    have hj' := hj
    rw [mrk_len] at hj'
    exact h j hj' (by rw [HN.out] at hj'; exact hj') hj⟩)
  have hmid0 := mid_refl base hi w
  go_enter Tryz.func33, Tryz.ntmps33
  go_wp2_with fail
  go_loopw [1, 5] (fun tk' ti wr => ∃ j : Nat, ∃ k : Int, ti = .int .i64 j ∧ tk' = .int .i64 k ∧ j ≤ n ∧ Hid (k = kk rs j) ∧ Hid (Mid base hi w wr) ∧ Hid (wr.there g 0 (n * 5)) ∧ Hid (∀ i (h : i < rs.length), i < j → ∀ (h' : i < (mrk rs).length), RowC wr g (i * 5) (mrk rs)[i] (c i) (cp i)) ∧ Hid (∀ i (h : i < rs.length), j ≤ i → RowC wr g (i * 5) rs[i] (c i) (cp i))) (fun _ ti _ => n - (intOf ti).toNat)
  case atStart => exact ⟨0, 1, rfl, rfl, Nat.zero_le _, hid (by simp [kk]), hid hmid0, HTT, hid (fun i h hh => absurd hh (by omega)), hid (fun i h _ => HR.out i h)⟩
  case round =>
    clear hmid0
    obtain ⟨j, k, rfl, rfl, hj, HKJ, HM, HT, HA, HZ⟩ := hrel
    by_cases hlt : j < n
    · have c1 : (j : Int) < (n : Int) := by omega
      have hjr : j < rs.length := by rw [HN.out]; exact hlt
      obtain ⟨hk0, hk1⟩ := HK.out j (by omega)
      rw [← HKJ.out] at hk0 hk1
      have hk2 : k ≤ 2199027449858 := by omega
      have HKN := hid (kk_next hjr)
      rw [← HKJ.out] at HKN
      have HMA := hid (mrk_at hjr)
      rw [← HKJ.out] at HMA
      obtain ⟨_, _, _, _, q4, q5⟩ := HZ.out j hjr (Nat.le_refl _)
      obtain ⟨hcb, hch, hcg⟩ := HC.out j hjr
      have hnp := HL.out j hjr
      have HDJ : Hid (∀ i, i < rs.length → i ≠ j → c j ≠ c i) := hid (fun i hi' hne => fun e => HD.out i j hne hi' hjr e.symm)
      generalize hps : rs[j].2.2.2.2 = ps at *
      clear hps
      obtain ⟨u0, z0, y0⟩ := there_at HT.out (show j * 5 < n * 5 by omega)
      obtain ⟨u1, z1, y1⟩ := there_at HT.out (show j * 5 + 1 < n * 5 by omega)
      obtain ⟨u2, z2, y2⟩ := there_at HT.out (show j * 5 + 2 < n * 5 by omega)
      obtain ⟨u3, z3, y3⟩ := there_at HT.out (show j * 5 + 3 < n * 5 by omega)
      have z1' : (wr.setCell ⟨g, j * 5, none⟩ (.int .i64 k)).cell? ⟨g, j * 5 + 1, none⟩ = some u1 := by rw [World.cell?_setCell_other _ _ _ _ (by simp)]; exact z1
      have z2' : ((wr.setCell ⟨g, j * 5, none⟩ (.int .i64 k)).setCell ⟨g, j * 5 + 1, none⟩ (.int .i64 (k + 1))).cell? ⟨g, j * 5 + 2, none⟩ = some u2 := by rw [World.cell?_setCell_other _ _ _ _ (by simp), World.cell?_setCell_other _ _ _ _ (by simp)]; exact z2
      have z3' : (((wr.setCell ⟨g, j * 5, none⟩ (.int .i64 k)).setCell ⟨g, j * 5 + 1, none⟩ (.int .i64 (k + 1))).setCell ⟨g, j * 5 + 2, none⟩ (.int .i64 (k + 1 + 1))).cell? ⟨g, j * 5 + 3, none⟩ = some u3 := by rw [World.cell?_setCell_other _ _ _ _ (by simp), World.cell?_setCell_other _ _ _ _ (by simp), World.cell?_setCell_other _ _ _ _ (by simp)]; exact z3
      have z4' : ((((wr.setCell ⟨g, j * 5, none⟩ (.int .i64 k)).setCell ⟨g, j * 5 + 1, none⟩ (.int .i64 (k + 1))).setCell ⟨g, j * 5 + 2, none⟩ (.int .i64 (k + 1 + 1))).setCell ⟨g, j * 5 + 3, none⟩ (.int .i64 (k + 1 + 1 + 1))).cell? ⟨g, j * 5 + 4, none⟩ = some (.slice (some ⟨c j, 0, none⟩) ps.length (cp j)) := by rw [World.cell?_setCell_other _ _ _ _ (by simp), World.cell?_setCell_other _ _ _ _ (by simp), World.cell?_setCell_other _ _ _ _ (by simp), World.cell?_setCell_other _ _ _ _ (by simp)]; exact q4
      have x0 : ((((wr.setCell ⟨g, j * 5, none⟩ (.int .i64 k)).setCell ⟨g, j * 5 + 1, none⟩ (.int .i64 (k + 1))).setCell ⟨g, j * 5 + 2, none⟩ (.int .i64 (k + 1 + 1))).setCell ⟨g, j * 5 + 3, none⟩ (.int .i64 (k + 1 + 1 + 1))).cell? ⟨g, j * 5, none⟩ = some (.int .i64 k) := by rw [World.cell?_setCell_other _ _ _ _ (by simp), World.cell?_setCell_other _ _ _ _ (by simp), World.cell?_setCell_other _ _ _ _ (by simp)]; exact World.cell?_setCell_same _ _ _ z0
      have x1 : ((((wr.setCell ⟨g, j * 5, none⟩ (.int .i64 k)).setCell ⟨g, j * 5 + 1, none⟩ (.int .i64 (k + 1))).setCell ⟨g, j * 5 + 2, none⟩ (.int .i64 (k + 1 + 1))).setCell ⟨g, j * 5 + 3, none⟩ (.int .i64 (k + 1 + 1 + 1))).cell? ⟨g, j * 5 + 1, none⟩ = some (.int .i64 (k + 1)) := by rw [World.cell?_setCell_other _ _ _ _ (by simp), World.cell?_setCell_other _ _ _ _ (by simp)]; exact World.cell?_setCell_same _ _ _ z1'
      have x2 : ((((wr.setCell ⟨g, j * 5, none⟩ (.int .i64 k)).setCell ⟨g, j * 5 + 1, none⟩ (.int .i64 (k + 1))).setCell ⟨g, j * 5 + 2, none⟩ (.int .i64 (k + 1 + 1))).setCell ⟨g, j * 5 + 3, none⟩ (.int .i64 (k + 1 + 1 + 1))).cell? ⟨g, j * 5 + 2, none⟩ = some (.int .i64 (k + 2)) := by rw [World.cell?_setCell_other _ _ _ _ (by simp)]; rw [show k + 2 = k + 1 + 1 by omega]; exact World.cell?_setCell_same _ _ _ z2'
      have x3 : ((((wr.setCell ⟨g, j * 5, none⟩ (.int .i64 k)).setCell ⟨g, j * 5 + 1, none⟩ (.int .i64 (k + 1))).setCell ⟨g, j * 5 + 2, none⟩ (.int .i64 (k + 1 + 1))).setCell ⟨g, j * 5 + 3, none⟩ (.int .i64 (k + 1 + 1 + 1))).cell? ⟨g, j * 5 + 3, none⟩ = some (.int .i64 (k + 3)) := by rw [show k + 3 = k + 1 + 1 + 1 by omega]; exact World.cell?_setCell_same _ _ _ z3'
      have y1' : (wr.setCell ⟨g, j * 5, none⟩ (.int .i64 k)).frozen? ⟨g, j * 5 + 1, none⟩ = false := by rw [World.frozen?_setCell]; exact y1
      have y2' : ((wr.setCell ⟨g, j * 5, none⟩ (.int .i64 k)).setCell ⟨g, j * 5 + 1, none⟩ (.int .i64 (k + 1))).frozen? ⟨g, j * 5 + 2, none⟩ = false := by rw [World.frozen?_setCell, World.frozen?_setCell]; exact y2
      have y3' : (((wr.setCell ⟨g, j * 5, none⟩ (.int .i64 k)).setCell ⟨g, j * 5 + 1, none⟩ (.int .i64 (k + 1))).setCell ⟨g, j * 5 + 2, none⟩ (.int .i64 (k + 1 + 1))).frozen? ⟨g, j * 5 + 3, none⟩ = false := by rw [World.frozen?_setCell, World.frozen?_setCell, World.frozen?_setCell]; exact y3
      have p4 : PtsOwn ((((wr.setCell ⟨g, j * 5, none⟩ (.int .i64 k)).setCell ⟨g, j * 5 + 1, none⟩ (.int .i64 (k + 1))).setCell ⟨g, j * 5 + 2, none⟩ (.int .i64 (k + 1 + 1))).setCell ⟨g, j * 5 + 3, none⟩ (.int .i64 (k + 1 + 1 + 1))) (c j) ps := own_blk q5 (by rw [Below.heap_setCell _ _ _ _ (by dsimp only; omega), Below.heap_setCell _ _ _ _ (by dsimp only; omega), Below.heap_setCell _ _ _ _ (by dsimp only; omega), Below.heap_setCell _ _ _ _ (by dsimp only; omega)]) (by simp only [World.size_setCell]; exact q5.1)
      have MP := hid (mark_ptsK _ (c j) ps.length (cp j) ps (k + 1 + 1 + 1 + 1) (by omega) (by omega) hnp rfl p4)
      have HM4 := hid (show Mid base hi w ((((wr.setCell ⟨g, j * 5, none⟩ (.int .i64 k)).setCell ⟨g, j * 5 + 1, none⟩ (.int .i64 (k + 1))).setCell ⟨g, j * 5 + 2, none⟩ (.int .i64 (k + 1 + 1))).setCell ⟨g, j * 5 + 3, none⟩ (.int .i64 (k + 1 + 1 + 1))) from mid_set (mid_set (mid_set (mid_set HM.out hbg hgh _) hbg hgh _) hbg hgh _) hbg hgh _)
      have HT4 := hid (show ((((wr.setCell ⟨g, j * 5, none⟩ (.int .i64 k)).setCell ⟨g, j * 5 + 1, none⟩ (.int .i64 (k + 1))).setCell ⟨g, j * 5 + 2, none⟩ (.int .i64 (k + 1 + 1))).setCell ⟨g, j * 5 + 3, none⟩ (.int .i64 (k + 1 + 1 + 1))).there g 0 (n * 5) from there_set (there_set (there_set (there_set HT.out _) _) _) _)
      have HA4 : Hid (∀ i (h : i < rs.length), i < j → ∀ (h' : i < (mrk rs).length), RowC ((((wr.setCell ⟨g, j * 5, none⟩ (.int .i64 k)).setCell ⟨g, j * 5 + 1, none⟩ (.int .i64 (k + 1))).setCell ⟨g, j * 5 + 2, none⟩ (.int .i64 (k + 1 + 1))).setCell ⟨g, j * 5 + 3, none⟩ (.int .i64 (k + 1 + 1 + 1))) g (i * 5) (mrk rs)[i] (c i) (cp i)) := hid (fun i h h1 h' => ((((HA.out i h h1 h').setg (fun e => (HC.out i h).2.2 e.symm) (by omega) _).setg (fun e => (HC.out i h).2.2 e.symm) (by omega) _).setg (fun e => (HC.out i h).2.2 e.symm) (by omega) _).setg (fun e => (HC.out i h).2.2 e.symm) (by omega) _)
      have HZ4 : Hid (∀ i (h : i < rs.length), j + 1 ≤ i → RowC ((((wr.setCell ⟨g, j * 5, none⟩ (.int .i64 k)).setCell ⟨g, j * 5 + 1, none⟩ (.int .i64 (k + 1))).setCell ⟨g, j * 5 + 2, none⟩ (.int .i64 (k + 1 + 1))).setCell ⟨g, j * 5 + 3, none⟩ (.int .i64 (k + 1 + 1 + 1))) g (i * 5) rs[i] (c i) (cp i)) := hid (fun i h h1 => ((((HZ.out i h (by omega)).setg (fun e => (HC.out i h).2.2 e.symm) (by omega) _).setg (fun e => (HC.out i h).2.2 e.symm) (by omega) _).setg (fun e => (HC.out i h).2.2 e.symm) (by omega) _).setg (fun e => (HC.out i h).2.2 e.symm) (by omega) _)
      have HX : Hid (((((wr.setCell ⟨g, j * 5, none⟩ (.int .i64 k)).setCell ⟨g, j * 5 + 1, none⟩ (.int .i64 (k + 1))).setCell ⟨g, j * 5 + 2, none⟩ (.int .i64 (k + 1 + 1))).setCell ⟨g, j * 5 + 3, none⟩ (.int .i64 (k + 1 + 1 + 1))).cell? ⟨g, j * 5, none⟩ = some (.int .i64 k) ∧ ((((wr.setCell ⟨g, j * 5, none⟩ (.int .i64 k)).setCell ⟨g, j * 5 + 1, none⟩ (.int .i64 (k + 1))).setCell ⟨g, j * 5 + 2, none⟩ (.int .i64 (k + 1 + 1))).setCell ⟨g, j * 5 + 3, none⟩ (.int .i64 (k + 1 + 1 + 1))).cell? ⟨g, j * 5 + 1, none⟩ = some (.int .i64 (k + 1)) ∧ ((((wr.setCell ⟨g, j * 5, none⟩ (.int .i64 k)).setCell ⟨g, j * 5 + 1, none⟩ (.int .i64 (k + 1))).setCell ⟨g, j * 5 + 2, none⟩ (.int .i64 (k + 1 + 1))).setCell ⟨g, j * 5 + 3, none⟩ (.int .i64 (k + 1 + 1 + 1))).cell? ⟨g, j * 5 + 2, none⟩ = some (.int .i64 (k + 2)) ∧ ((((wr.setCell ⟨g, j * 5, none⟩ (.int .i64 k)).setCell ⟨g, j * 5 + 1, none⟩ (.int .i64 (k + 1))).setCell ⟨g, j * 5 + 2, none⟩ (.int .i64 (k + 1 + 1))).setCell ⟨g, j * 5 + 3, none⟩ (.int .i64 (k + 1 + 1 + 1))).cell? ⟨g, j * 5 + 3, none⟩ = some (.int .i64 (k + 3)) ∧ ((((wr.setCell ⟨g, j * 5, none⟩ (.int .i64 k)).setCell ⟨g, j * 5 + 1, none⟩ (.int .i64 (k + 1))).setCell ⟨g, j * 5 + 2, none⟩ (.int .i64 (k + 1 + 1))).setCell ⟨g, j * 5 + 3, none⟩ (.int .i64 (k + 1 + 1 + 1))).cell? ⟨g, j * 5 + 4, none⟩ = some (.slice (some ⟨c j, 0, none⟩) ps.length (cp j))) := hid ⟨x0, x1, x2, x3, z4'⟩
      clear x0 x1 x2 x3 p4 q4 q5 z1 z2 z3 y1 y2 y3 HM HT HA HZ
      go_wp2_with fail
      refine MP.out.mono ?_
      rintro e w1 ⟨rfl, hp1, hg⟩
      have hgne : some g ≠ some (c j) := fun e => hcg (by cases e; rfl)
      have HM5 := hid (mid_grown HM4.out hg hcb hch)
      have HT5 : Hid (w1.there g 0 (n * 5)) := hid (fun i hi' => by
        obtain ⟨s1, s2⟩ := HT4.out i hi'
        have hgs : g < ((((wr.setCell ⟨g, j * 5, none⟩ (.int .i64 k)).setCell ⟨g, j * 5 + 1, none⟩ (.int .i64 (k + 1))).setCell ⟨g, j * 5 + 2, none⟩ (.int .i64 (k + 1 + 1))).setCell ⟨g, j * 5 + 3, none⟩ (.int .i64 (k + 1 + 1 + 1))).heap.size := by have := HM4.out.2.2.2.1; omega
        have hb := hg.block g hgs hgne
        simp only [World.cell?, World.frozen?, hb]; exact ⟨s1, s2⟩)
      have HA5 : Hid (∀ i (h : i < rs.length), i < j + 1 → ∀ (h' : i < (mrk rs).length), RowC w1 g (i * 5) (mrk rs)[i] (c i) (cp i)) := hid (fun i h h1 h' => by
        by_cases e : i = j
        · subst e
          rw [HMA.out]
          obtain ⟨s0, s1, s2, s3, s4⟩ := HX.out
          refine ⟨hg.cell s0 hgne, hg.cell s1 hgne, hg.cell s2 hgne, hg.cell s3 hgne, ?_, ?_⟩
          · rw [tkk_len]; exact hg.cell s4 hgne
          · rw [show k + 4 = k + 1 + 1 + 1 + 1 by omega]; exact hp1
        · exact (HA4.out i h (by omega) h').grown hg hcg (HDJ.out i h e))
      have HZ5 : Hid (∀ i (h : i < rs.length), j + 1 ≤ i → RowC w1 g (i * 5) rs[i] (c i) (cp i)) := hid (fun i h h1 => (HZ4.out i h h1).grown hg hcg (HDJ.out i h (by omega)))
      have HK5 : Hid (k + 1 + 1 + 1 + 1 + 2 * (ps.length : Int) = kk rs (j + 1)) := hid (by rw [HKN.out]; omega)
      clear hg hp1 MP HM4 HT4 HA4 HZ4 HX z4' z1' z2' z3' y1' y2' y3'
      go_wp2_with fail
      go_roundw
      case rel => exact ⟨j + 1, _, by go_num, rfl, by omega, HK5, HM5, HT5, HA5, HZ5⟩
      case measure => simp [intOf]; omega
    · obtain rfl : j = n := by omega
      have c1 : (j : Int) ≤ (j : Int) := by omega
      go_wp2_with fail
      go_ret
      obtain ⟨e1, e2⟩ := HF.out wr k HKJ.out HA.out
      exact ⟨e1, e2, HM.out⟩
set_option maxHeartbeats 400000 in
theorem mark_rowsX (base hi : Nat) (now : Int) (a : Option Addr) (n cap : Nat) (rs : List Rw) (xs : List El) (w : World) (hn : rs.length = n) (hm : rs.length ≤ 1048576) (hl : ∀ m (h : m < rs.length), rs[m].2.2.2.2.length ≤ 1048576) (h : RowsX base hi w (.slice a n cap) rs xs) : Calls Tryz.prog 11 #[.agg #[.int .i64 now, .slice a n cap], .int .i64 1] w fun e w' => e = .returned (.int .i64 (kk rs rs.length)) ∧ Rws (fun _ => True) w' a (mrk rs) ∧ Mid base hi w w' := by
  subst hn
  have hB : Below w.heap.size w (w.alloc (.cells #[.int .i64 now, .slice a rs.length cap] 28)) := balloc (Below.refl _ _) _
  have HM : Hid (Calls Tryz.prog 33 #[.slice a rs.length cap, .int .i64 1] (w.alloc (.cells #[.int .i64 now, .slice a rs.length cap] 28)) fun e w' => e = .returned (.int .i64 (kk rs rs.length)) ∧ Rws (fun _ => True) w' a (mrk rs) ∧ Mid base hi (w.alloc (.cells #[.int .i64 now, .slice a rs.length cap] 28)) w') := hid (by
    have hX := h.below hB
    rcases hX.rows with ⟨rfl, _, e⟩ | ⟨g, cp', e, h1, h2, h3, h4, h5, c, cpf, h6, h7⟩
    · cases e
      go_enter Tryz.func33, Tryz.ntmps33
      go_wp2_with fail
      go_loopw [1, 5] (fun tk' ti wr => tk' = .int .i64 1 ∧ ti = .int .i64 0 ∧ wr = (w.alloc (.cells #[.int .i64 now, .slice none 0 0] 28))) (fun _ _ _ => 0)
      case atStart => exact ⟨rfl, rfl, rfl⟩
      case round =>
        obtain ⟨rfl, rfl, rfl⟩ := hrel
        go_wp2_with fail
        go_ret
        exact ⟨by simp [kk], .inl (by simp [mrk]), mid_refl _ _ _⟩
    · cases e
      refine (mark_rowSX base hi g cap rs c cpf _ h1 h2 h3 hm hl h5 (fun j hj => (h6 j hj).1) (fun j hj => ⟨(h6 j hj).2.2.2.1, (h6 j hj).2.2.2.2.1, (h6 j hj).2.2.2.2.2⟩) h7).mono ?_
      rintro e w' ⟨rfl, hr, hmid⟩
      refine ⟨rfl, .inr ⟨g, 0, rfl, by have := hmid.2.2.2.1; omega, fun j hj => ?_⟩, hmid⟩
      rw [Nat.zero_add]
      have hj' := hj
      rw [mrk_len] at hj'
      have e2 := mrk_at hj'
      refine (hr j hj).at ?_ ?_
      · rw [e2]; simp only [tkk_len]; exact (h6 j hj').2.1
      · rw [e2]; simp only [tkk_len]; exact (h6 j hj').2.2.1)
  clear h hl
  go_enter Tryz.func11, Tryz.ntmps11
  go_wp2_with fail
  refine HM.out.mono ?_
  rintro e w1 ⟨rfl, hr, hmid⟩
  have HRR := hid hr
  have HMM := hid (mid_trans (mid_below hB) hmid)
  clear hmid hr
  go_wp2_with fail
  go_ret
  exact ⟨rfl, HRR.out, HMM.out⟩
set_option maxRecDepth 100000 in
set_option maxHeartbeats 2000000 in
theorem held_rowSX {N : Nat → Prop} (a : Option Addr) (n cap : Nat) (rs : List Rw) (w : World) (hn : rs.length = n) (hm : n ≤ 1048576) (hl : ∀ m (h : m < rs.length), rs[m].2.2.2.2.length ≤ 1048576) (h : Rws N w a (mrk rs)) : Calls Tryz.prog 34 #[.slice a n cap, .int .i64 1] w fun e w' => e = .returned (.int .i64 (kk rs n)) ∧ w' = w := by
  have HL := hid hl
  have HR := hid h
  have HN := hid hn
  have HK := hid (kk_bound hl)
  clear hl h hn
  have HF : Hid (∀ k : Int, k = kk rs n → Ending.returned (.int .i64 k) = .returned (.int .i64 (kk rs n))) := hid (fun k e => by rw [e])
  go_enter Tryz.func34, Tryz.ntmps34
  go_wp2_with fail
  go_loopw [1, 5] (fun tk' ti wr => ∃ j : Nat, ∃ k : Int, ti = .int .i64 j ∧ tk' = .int .i64 k ∧ j ≤ n ∧ Hid (k = kk rs j) ∧ wr = w) (fun _ ti _ => n - (intOf ti).toNat)
  case atStart => exact ⟨0, 1, rfl, rfl, Nat.zero_le _, hid (by simp [kk]), rfl⟩
  case round =>
    obtain ⟨j, k, rfl, rfl, hj, HKJ, hw⟩ := hrel
    subst hw
    by_cases hlt : j < n
    · have c1 : (j : Int) < (n : Int) := by omega
      have hjr : j < rs.length := by rw [HN.out]; exact hlt
      obtain ⟨hk0, hk1⟩ := HK.out j (by omega)
      rw [← HKJ.out] at hk0 hk1
      have hk2 : k ≤ 2199027449858 := by omega
      have HKN := hid (kk_next hjr)
      rw [← HKJ.out] at HKN
      have hma := mrk_at hjr
      rw [← HKJ.out] at hma
      obtain ⟨b, o, rfl, hbs, a', cap', k0, k1, k2, k3, k4, k5, k6, k7, _⟩ := HR.out.at j (by rw [mrk_len]; exact hjr)
      rw [hma] at k0 k1 k2 k3 k4 k5 k6 k7
      simp only [tkk_len] at k0 k1 k2 k3 k4 k5 k6 k7
      have hnp := HL.out j hjr
      generalize hps : rs[j].2.2.2.2.length = np at *
      clear hps hma
      rw [show k + 2 = k + 1 + 1 by omega] at k2
      rw [show k + 3 = k + 1 + 1 + 1 by omega] at k3
      rw [show k + 4 = k + 1 + 1 + 1 + 1 by omega] at k7
      have HP := hid (held_ptsK wr a' cap' np (k + 1 + 1 + 1 + 1) (by omega) (by omega) hnp k7)
      have HK5 : Hid (k + 1 + 1 + 1 + 1 + 2 * (np : Int) = kk rs (j + 1)) := hid (by rw [HKN.out]; omega)
      have hpos : ¬ (k + 1 + 1 + 1 + 1 + 2 * (np : Int) < 0) := by omega
      clear k5 k6 k7
      go_wp2_with fail
      refine HP.out.mono ?_
      rintro e w1 ⟨rfl, hw1⟩
      replace hw1 := hw1.symm
      subst hw1
      go_wp2_with fail
      go_roundw
      case rel => exact ⟨j + 1, _, by go_num, rfl, by omega, HK5, by first | rfl | trivial⟩
      case measure => simp [intOf]; omega
    · obtain rfl : j = n := by omega
      have c1 : (j : Int) ≤ (j : Int) := by omega
      go_wp2_with fail
      go_ret
      exact ⟨HF.out k HKJ.out, rfl⟩
set_option maxHeartbeats 400000 in
theorem held_rowsX {N : Nat → Prop} (now : Int) (a : Option Addr) (n cap : Nat) (rs : List Rw) (w : World) (hn : rs.length = n) (hm : n ≤ 1048576) (hl : ∀ m (h : m < rs.length), rs[m].2.2.2.2.length ≤ 1048576) (h : Rws N w a (mrk rs)) : Calls Tryz.prog 12 #[.agg #[.int .i64 now, .slice a n cap], .int .i64 1] w fun e w' => e = .returned (.int .i64 (kk rs n)) ∧ Below w.heap.size w w' := by
  have hB : Below w.heap.size w (w.alloc (.cells #[.int .i64 now, .slice a n cap] 28)) := balloc (Below.refl _ _) _
  have HM := hid (held_rowSX a n cap rs _ hn hm hl (h.below hB))
  have hkp := (kk_bound hl n (by omega)).1
  clear h hl
  have hz : ¬ (kk rs n < 0) := by omega
  generalize kk rs n = kn at *
  go_enter Tryz.func12, Tryz.ntmps12
  go_wp2_with fail
  refine HM.out.mono ?_
  rintro e w1 ⟨rfl, hw⟩
  replace hw := hw.symm
  subst hw
  go_wp2_with fail
  go_ret
  exact ⟨rfl, hB⟩
end Go.Proofs.YtjhnfbefgjoiiaaGreat
