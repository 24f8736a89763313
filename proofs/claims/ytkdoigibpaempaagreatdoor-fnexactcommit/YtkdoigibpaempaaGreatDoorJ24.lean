/- Texts of stores, joined: Xm3, Xh. -/
import Derived.Test.YtkdoigibpaempaaGreatDoorJ23
set_option linter.unusedSimpArgs false
set_option linter.unusedVariables false
namespace Go.Proofs.YtkdoigibpaempaaGreatDoor
open Go.RowKit
set_option maxRecDepth 100000 in
set_option maxHeartbeats 4000000 in
theorem mark_rwsX (base hi : Nat) (v : Value) (xs : List Rw) (k0 : Int) (w : World) (hs : rwS xs) (h0 : 0 ≤ k0) (h1 : k0 ≤ 2000000000000000000) (h : LC KR base hi w v xs) : Calls Tryz.prog 47 #[v, .int .i64 k0] w fun e w' => e = .returned (.int .i64 (kkr k0 xs xs.length)) ∧ LC KR base hi w' v (mkr k0 xs) ∧ Mid base hi w w' := by
  obtain ⟨hih, h⟩ := h
  rcases h with ⟨rfl, rfl⟩ | ⟨g, cap, ss, lo, up, rfl, hcap, hbg, hgh, hth, hel, hd⟩
  · go_enter Tryz.func47, Tryz.ntmps47
    go_wp2_with fail
    go_loopw [1, 5] (fun tk' ti wr => tk' = .int .i64 k0 ∧ ti = .int .i64 0 ∧ wr = w) (fun _ _ _ => 0)
    case atStart => exact ⟨rfl, rfl, rfl⟩
    case round =>
      obtain ⟨rfl, rfl, rfl⟩ := hrel
      go_wp2_with fail
      go_ret
      exact ⟨by simp [kkr, krn], ⟨hih, .inl ⟨by simp [mkr], rfl⟩⟩, mid_refl _ _ _⟩
  have HL := hid hs.2
  have hm := hs.1
  have HE := hid (fun j hj => (hel j hj).1)
  have HC := hid (fun j hj => (hel j hj).2)
  have HD := hid hd
  have HK := hid (kkr_bound (k0 := k0) hs.2)
  clear hs hel hd
  obtain ⟨n, hn⟩ : ∃ n, n = xs.length := ⟨_, rfl⟩
  have HN := hid hn.symm
  rw [← hn] at hm hth hcap ⊢
  have HTT := hid hth
  have HF : Hid (∀ (W : World) (q : Int), q = kkr k0 xs n → Mid base hi w W → W.there g 0 (n * 5) → (∀ i (h : i < xs.length), i < n → ElX KR W g i (mkr1 (kkr k0 xs i) xs[i]) (ss i) (lo i) (up i)) → (Ending.returned (.int .i64 q) = .returned (.int .i64 (kkr k0 xs n)) ∧ LC KR base hi W (.slice (some ⟨g, 0, none⟩) n cap) (mkr k0 xs))) := hid (fun W q hq hM hT h => ⟨by rw [hq], by
    refine ⟨Nat.le_trans hih hM.2.2.2.1, .inr ⟨g, cap, ss, lo, up, by rw [mkr_len, ← hn], by rw [mkr_len, ← hn]; exact hcap, hbg, hgh, by rw [mkr_len, ← hn]; exact hT, fun j hj => ?_, fun i j hne hi' hj => ?_⟩⟩
    · have hj' := hj
      rw [mkr_len] at hj'
      rw [mkr_at hj']
      exact ⟨h j hj' (by omega), HC.out j hj'⟩
    · rw [mkr_len] at hi' hj
      exact HD.out i j hne hi' hj⟩)
  clear hth hcap hn
  have hmid0 := mid_refl base hi w
  have hgw : g < w.heap.size := by omega
  go_enter Tryz.func47, Tryz.ntmps47
  go_wp2_with fail
  go_loopw [1, 5] (fun tk' ti wr => ∃ j : Nat, ∃ k : Int, ti = .int .i64 j ∧ tk' = .int .i64 k ∧ j ≤ n ∧ Hid (k = kkr k0 xs j) ∧ Hid (Mid base hi w wr) ∧ Hid (wr.there g 0 (n * 5)) ∧ Hid (∀ i (h : i < xs.length), i < j → ElX KR wr g i (mkr1 (kkr k0 xs i) xs[i]) (ss i) (lo i) (up i)) ∧ Hid (∀ i (h : i < xs.length), j ≤ i → ElX KR wr g i xs[i] (ss i) (lo i) (up i))) (fun _ ti _ => n - (intOf ti).toNat)
  case atStart => exact ⟨0, k0, rfl, rfl, Nat.zero_le _, hid (by simp [kkr, krn]), hid hmid0, HTT, hid (fun i h hh => absurd hh (by omega)), hid (fun i h _ => HE.out i h)⟩
  case round =>
    clear hmid0
    obtain ⟨j, k, rfl, rfl, hj, HKJ, HM, HT, HA, HZ⟩ := hrel
    by_cases hlt : j < n
    · have c1 : (j : Int) < (n : Int) := by omega
      have hjr : j < xs.length := by rw [HN.out]; exact hlt
      obtain ⟨hk0, hk1⟩ := HK.out j (by omega)
      rw [← HKJ.out] at hk0 hk1
      have hk2 : k ≤ 4400000000000000000 := by omega
      have hk3 : 0 ≤ k := by omega
      have HKN := hid (kkr_next (k0 := k0) hjr)
      rw [← HKJ.out] at HKN
      obtain ⟨zc, zs⟩ := HZ.out j hjr (Nat.le_refl _)
      obtain ⟨hcb, hch, hcg⟩ := HC.out j hjr
      have hws := HM.out.2.2.2.1
      obtain ⟨_, c, cp, esv, b1, b2, b3, b4, b5⟩ := zs
      have hnp := HL.out j hjr
      have HMK : Hid (∀ W, (∀ t, t < 5 → W.cell? ⟨g, j * 5 + t, none⟩ = ([.int .i64 k, .int .i64 (k + 1), .int .i64 (k + 2), .int .i64 (k + 3), ss j] : List Value)[t]?) → PtsOwn W c (tkk (k + 4) xs[j].2.2.2.2.length) → up j ≤ W.heap.size → ElX KR W g j (mkr1 (kkr k0 xs j) xs[j]) (ss j) (lo j) (up j)) := hid (fun W h1 h2 h3 => by
        rw [← HKJ.out]
        refine ⟨h1, h3, c, cp, ?_, ?_, ?_, b3, b4, h2⟩
        · simp only [mkr1, tkk_len]; exact esv
        · simp only [mkr1, tkk_len]; exact b1
        · simp only [mkr1, tkk_len]; exact b2)
      generalize hps : xs[j].2.2.2.2 = ps at *
      clear hps
      obtain ⟨sv, hsv⟩ : ∃ sv, sv = ss j := ⟨_, rfl⟩
      have HSJ := hid hsv
      rw [← hsv] at zc HMK esv
      clear hsv
      subst esv
      have q3 := zc 4 (by decide)
      simp only [KR, List.getElem?_cons_succ, List.getElem?_cons_zero] at q3
      have HDJ : Hid (∀ i, i < xs.length → i ≠ j → up i ≤ lo j ∨ up j ≤ lo i) := hid (fun i hi' hne => HD.out i j hne hi' hjr)
      obtain ⟨u0, z0, y0⟩ := there_at HT.out (show j * 5 < n * 5 by omega)
      obtain ⟨u1, z1, y1⟩ := there_at HT.out (show j * 5 + 1 < n * 5 by omega)
      obtain ⟨u2, z2, y2⟩ := there_at HT.out (show j * 5 + 2 < n * 5 by omega)
      obtain ⟨u3, z3, y3⟩ := there_at HT.out (show j * 5 + 3 < n * 5 by omega)
      have z1' : ∀ a0, (wr.setCell ⟨g, j * 5, none⟩ a0).cell? ⟨g, j * 5 + 1, none⟩ = some u1 := fun a0 => by rw [World.cell?_setCell_other _ _ _ _ (by simp)]; exact z1
      have y1' : ∀ a0, (wr.setCell ⟨g, j * 5, none⟩ a0).frozen? ⟨g, j * 5 + 1, none⟩ = false := fun a0 => by rw [World.frozen?_setCell]; exact y1
      have z2' : ∀ a0 a1, ((wr.setCell ⟨g, j * 5, none⟩ a0).setCell ⟨g, j * 5 + 1, none⟩ a1).cell? ⟨g, j * 5 + 2, none⟩ = some u2 := fun a0 a1 => by rw [World.cell?_setCell_other _ _ _ _ (by simp), World.cell?_setCell_other _ _ _ _ (by simp)]; exact z2
      have y2' : ∀ a0 a1, ((wr.setCell ⟨g, j * 5, none⟩ a0).setCell ⟨g, j * 5 + 1, none⟩ a1).frozen? ⟨g, j * 5 + 2, none⟩ = false := fun a0 a1 => by rw [World.frozen?_setCell, World.frozen?_setCell]; exact y2
      have z3' : ∀ a0 a1 a2, (((wr.setCell ⟨g, j * 5, none⟩ a0).setCell ⟨g, j * 5 + 1, none⟩ a1).setCell ⟨g, j * 5 + 2, none⟩ a2).cell? ⟨g, j * 5 + 3, none⟩ = some u3 := fun a0 a1 a2 => by rw [World.cell?_setCell_other _ _ _ _ (by simp), World.cell?_setCell_other _ _ _ _ (by simp), World.cell?_setCell_other _ _ _ _ (by simp)]; exact z3
      have y3' : ∀ a0 a1 a2, (((wr.setCell ⟨g, j * 5, none⟩ a0).setCell ⟨g, j * 5 + 1, none⟩ a1).setCell ⟨g, j * 5 + 2, none⟩ a2).frozen? ⟨g, j * 5 + 3, none⟩ = false := fun a0 a1 a2 => by rw [World.frozen?_setCell, World.frozen?_setCell, World.frozen?_setCell]; exact y3
      have zl' : ∀ a0 a1 a2 a3, ((((wr.setCell ⟨g, j * 5, none⟩ a0).setCell ⟨g, j * 5 + 1, none⟩ a1).setCell ⟨g, j * 5 + 2, none⟩ a2).setCell ⟨g, j * 5 + 3, none⟩ a3).cell? ⟨g, j * 5 + 4, none⟩ = some (.slice (some ⟨c, 0, none⟩) ps.length cp) := fun a0 a1 a2 a3 => by rw [World.cell?_setCell_other _ _ _ _ (by simp), World.cell?_setCell_other _ _ _ _ (by simp), World.cell?_setCell_other _ _ _ _ (by simp), World.cell?_setCell_other _ _ _ _ (by simp)]; exact q3
      have HM3 := hid (fun a0 a1 a2 a3 => (mid_set (mid_set (mid_set (mid_set (HM.out) hbg hgh a0) hbg hgh a1) hbg hgh a2) hbg hgh a3 : Mid base hi w ((((wr.setCell ⟨g, j * 5, none⟩ a0).setCell ⟨g, j * 5 + 1, none⟩ a1).setCell ⟨g, j * 5 + 2, none⟩ a2).setCell ⟨g, j * 5 + 3, none⟩ a3)))
      have HT3 := hid (fun a0 a1 a2 a3 => (there_set (there_set (there_set (there_set (HT.out) a0) a1) a2) a3 : ((((wr.setCell ⟨g, j * 5, none⟩ a0).setCell ⟨g, j * 5 + 1, none⟩ a1).setCell ⟨g, j * 5 + 2, none⟩ a2).setCell ⟨g, j * 5 + 3, none⟩ a3).there g 0 (n * 5)))
      have HA3 : Hid (∀ a0 a1 a2 a3 i (h : i < xs.length), i < j → ElX KR ((((wr.setCell ⟨g, j * 5, none⟩ a0).setCell ⟨g, j * 5 + 1, none⟩ a1).setCell ⟨g, j * 5 + 2, none⟩ a2).setCell ⟨g, j * 5 + 3, none⟩ a3) g i (mkr1 (kkr k0 xs i) xs[i]) (ss i) (lo i) (up i)) := hid (fun a0 a1 a2 a3 i h h1 => (((((HA.out i h h1).set (HC.out i h).2.2 (by show _ < i * 5 ∨ i * 5 + 5 ≤ _; omega) a0).set (HC.out i h).2.2 (by show _ < i * 5 ∨ i * 5 + 5 ≤ _; omega) a1).set (HC.out i h).2.2 (by show _ < i * 5 ∨ i * 5 + 5 ≤ _; omega) a2).set (HC.out i h).2.2 (by show _ < i * 5 ∨ i * 5 + 5 ≤ _; omega) a3))
      have HZ3 : Hid (∀ a0 a1 a2 a3 i (h : i < xs.length), j + 1 ≤ i → ElX KR ((((wr.setCell ⟨g, j * 5, none⟩ a0).setCell ⟨g, j * 5 + 1, none⟩ a1).setCell ⟨g, j * 5 + 2, none⟩ a2).setCell ⟨g, j * 5 + 3, none⟩ a3) g i xs[i] (ss i) (lo i) (up i)) := hid (fun a0 a1 a2 a3 i h h1 => (((((HZ.out i h (by omega)).set (HC.out i h).2.2 (by show _ < i * 5 ∨ i * 5 + 5 ≤ _; omega) a0).set (HC.out i h).2.2 (by show _ < i * 5 ∨ i * 5 + 5 ≤ _; omega) a1).set (HC.out i h).2.2 (by show _ < i * 5 ∨ i * 5 + 5 ≤ _; omega) a2).set (HC.out i h).2.2 (by show _ < i * 5 ∨ i * 5 + 5 ≤ _; omega) a3))
      have x0 : ∀ a0 a1 a2 a3, ((((wr.setCell ⟨g, j * 5, none⟩ a0).setCell ⟨g, j * 5 + 1, none⟩ a1).setCell ⟨g, j * 5 + 2, none⟩ a2).setCell ⟨g, j * 5 + 3, none⟩ a3).cell? ⟨g, j * 5, none⟩ = some a0 := fun a0 a1 a2 a3 => by rw [World.cell?_setCell_other _ _ _ _ (by simp), World.cell?_setCell_other _ _ _ _ (by simp), World.cell?_setCell_other _ _ _ _ (by simp)]; exact World.cell?_setCell_same _ _ _ z0
      have x1 : ∀ a0 a1 a2 a3, ((((wr.setCell ⟨g, j * 5, none⟩ a0).setCell ⟨g, j * 5 + 1, none⟩ a1).setCell ⟨g, j * 5 + 2, none⟩ a2).setCell ⟨g, j * 5 + 3, none⟩ a3).cell? ⟨g, j * 5 + 1, none⟩ = some a1 := fun a0 a1 a2 a3 => by rw [World.cell?_setCell_other _ _ _ _ (by simp), World.cell?_setCell_other _ _ _ _ (by simp)]; exact World.cell?_setCell_same _ _ _ (z1' a0)
      have x2 : ∀ a0 a1 a2 a3, ((((wr.setCell ⟨g, j * 5, none⟩ a0).setCell ⟨g, j * 5 + 1, none⟩ a1).setCell ⟨g, j * 5 + 2, none⟩ a2).setCell ⟨g, j * 5 + 3, none⟩ a3).cell? ⟨g, j * 5 + 2, none⟩ = some a2 := fun a0 a1 a2 a3 => by rw [World.cell?_setCell_other _ _ _ _ (by simp)]; exact World.cell?_setCell_same _ _ _ (z2' a0 a1)
      have x3 : ∀ a0 a1 a2 a3, ((((wr.setCell ⟨g, j * 5, none⟩ a0).setCell ⟨g, j * 5 + 1, none⟩ a1).setCell ⟨g, j * 5 + 2, none⟩ a2).setCell ⟨g, j * 5 + 3, none⟩ a3).cell? ⟨g, j * 5 + 3, none⟩ = some a3 := fun a0 a1 a2 a3 => by exact World.cell?_setCell_same _ _ _ (z3' a0 a1 a2)
      have HX := hid (fun a0 a1 a2 a3 => (⟨x0 a0 a1 a2 a3, x1 a0 a1 a2 a3, x2 a0 a1 a2 a3, x3 a0 a1 a2 a3, zl' a0 a1 a2 a3⟩ : ((((wr.setCell ⟨g, j * 5, none⟩ a0).setCell ⟨g, j * 5 + 1, none⟩ a1).setCell ⟨g, j * 5 + 2, none⟩ a2).setCell ⟨g, j * 5 + 3, none⟩ a3).cell? ⟨g, j * 5, none⟩ = some a0 ∧ ((((wr.setCell ⟨g, j * 5, none⟩ a0).setCell ⟨g, j * 5 + 1, none⟩ a1).setCell ⟨g, j * 5 + 2, none⟩ a2).setCell ⟨g, j * 5 + 3, none⟩ a3).cell? ⟨g, j * 5 + 1, none⟩ = some a1 ∧ ((((wr.setCell ⟨g, j * 5, none⟩ a0).setCell ⟨g, j * 5 + 1, none⟩ a1).setCell ⟨g, j * 5 + 2, none⟩ a2).setCell ⟨g, j * 5 + 3, none⟩ a3).cell? ⟨g, j * 5 + 2, none⟩ = some a2 ∧ ((((wr.setCell ⟨g, j * 5, none⟩ a0).setCell ⟨g, j * 5 + 1, none⟩ a1).setCell ⟨g, j * 5 + 2, none⟩ a2).setCell ⟨g, j * 5 + 3, none⟩ a3).cell? ⟨g, j * 5 + 3, none⟩ = some a3 ∧ ((((wr.setCell ⟨g, j * 5, none⟩ a0).setCell ⟨g, j * 5 + 1, none⟩ a1).setCell ⟨g, j * 5 + 2, none⟩ a2).setCell ⟨g, j * 5 + 3, none⟩ a3).cell? ⟨g, j * 5 + 4, none⟩ = some (.slice (some ⟨c, 0, none⟩) ps.length cp)))
      have HP3 := hid (fun a0 a1 a2 a3 => (own_blk b5 (by rw [Below.heap_setCell _ _ _ _ (by dsimp only; omega), Below.heap_setCell _ _ _ _ (by dsimp only; omega), Below.heap_setCell _ _ _ _ (by dsimp only; omega), Below.heap_setCell _ _ _ _ (by dsimp only; omega)]) (by simp only [World.size_setCell]; exact b5.1) : PtsOwn ((((wr.setCell ⟨g, j * 5, none⟩ a0).setCell ⟨g, j * 5 + 1, none⟩ a1).setCell ⟨g, j * 5 + 2, none⟩ a2).setCell ⟨g, j * 5 + 3, none⟩ a3) c ps))
      have HSZ := hid (fun a0 a1 a2 a3 => (by simp only [World.size_setCell] : ((((wr.setCell ⟨g, j * 5, none⟩ a0).setCell ⟨g, j * 5 + 1, none⟩ a1).setCell ⟨g, j * 5 + 2, none⟩ a2).setCell ⟨g, j * 5 + 3, none⟩ a3).heap.size = wr.heap.size))
      clear b5 zc
      clear HM HT HA HZ q3 z1 y1 z2 y2 z3 y3 x0 x1 x2 x3
      go_wp2_with fail
      refine (mark_ptsK _ c ps.length cp ps (k + 1 + 1 + 1 + 1) (by omega) (by omega) hnp rfl (HP3.out _ _ _ _)).mono ?_
      rintro e w1 ⟨rfl, hp1, hg⟩
      have hgne : some g ≠ some c := fun e => by cases e; omega
      have hsz1 := hg.size
      rw [HSZ.out] at hsz1
      have HM5 := hid (mid_grown (HM3.out (.int .i64 k) (.int .i64 (k + 1)) (.int .i64 (k + 1 + 1)) (.int .i64 (k + 1 + 1 + 1))) hg (by omega) (by omega))
      have HT5 : Hid (w1.there g 0 (n * 5)) := hid (fun i hi' => by
        obtain ⟨s1, s2⟩ := HT3.out (.int .i64 k) (.int .i64 (k + 1)) (.int .i64 (k + 1 + 1)) (.int .i64 (k + 1 + 1 + 1)) i hi'
        have hb := hg.block g (by rw [HSZ.out]; omega) hgne
        simp only [World.cell?, World.frozen?, hb]; exact ⟨s1, s2⟩)
      have HFR : Hid (∀ i, i < xs.length → i ≠ j → ∀ q, lo i ≤ q → q < up i → q < wr.heap.size → w1.heap[q]? = _) := hid (fun i hi' hne q q1 q2 q3 => hg.block q (by rw [HSZ.out]; exact q3) (fun e => by cases e; have := HDJ.out i hi' hne; omega))
      have HA5 : Hid (∀ i (h : i < xs.length), i < j + 1 → ElX KR w1 g i (mkr1 (kkr k0 xs i) xs[i]) (ss i) (lo i) (up i)) := hid (fun i h h1 => by
        by_cases e : i = j
        · subst e
          obtain ⟨s0, s1, s2, s3, s4⟩ := HX.out (.int .i64 k) (.int .i64 (k + 1)) (.int .i64 (k + 1 + 1)) (.int .i64 (k + 1 + 1 + 1))
          rw [← HSJ.out]
          refine HMK.out w1 (fun t ht => ?_) (by rw [show k + 4 = k + 1 + 1 + 1 + 1 by omega]; exact hp1) (by omega)
          rcases (show t = 0 ∨ t = 1 ∨ t = 2 ∨ t = 3 ∨ t = 4 by omega) with e | e | e | e | e <;> subst e
          · exact hg.cell s0 hgne
          · exact hg.cell s1 hgne
          · show _ = some (Value.int .i64 (k + 2)); rw [show k + 2 = k + 1 + 1 by omega]; exact hg.cell s2 hgne
          · show _ = some (Value.int .i64 (k + 3)); rw [show k + 3 = k + 1 + 1 + 1 by omega]; exact hg.cell s3 hgne
          · exact hg.cell s4 hgne
        · have hx := HA3.out (.int .i64 k) (.int .i64 (k + 1)) (.int .i64 (k + 1 + 1)) (.int .i64 (k + 1 + 1 + 1)) i h (by omega)
          have htp := KR.top hx.2
          rw [HSZ.out] at htp
          exact hx.blk (hg.block g (by rw [HSZ.out]; omega) hgne) (fun q q1 q2 => HFR.out i h e q q1 q2 (by omega)) (by rw [HSZ.out]; exact hsz1))
      have HZ5 : Hid (∀ i (h : i < xs.length), j + 1 ≤ i → ElX KR w1 g i xs[i] (ss i) (lo i) (up i)) := hid (fun i h h1 => by
        have hx := HZ3.out (.int .i64 k) (.int .i64 (k + 1)) (.int .i64 (k + 1 + 1)) (.int .i64 (k + 1 + 1 + 1)) i h h1
        have htp := KR.top hx.2
        rw [HSZ.out] at htp
        exact hx.blk (hg.block g (by rw [HSZ.out]; omega) hgne) (fun q q1 q2 => HFR.out i h (by omega) q q1 q2 (by omega)) (by rw [HSZ.out]; exact hsz1))
      have HK5 : Hid (k + 1 + 1 + 1 + 1 + 2 * (ps.length : Int) = kkr k0 xs (j + 1)) := hid (by rw [HKN.out]; omega)
      clear hg hp1 HM3 HT3 HA3 HZ3 HX HFR HP3 HSZ zl' z1' z2' z3' y1' y2' y3' 
      go_wp2_with fail
      go_roundw
      case rel => exact ⟨j + 1, _, by go_num, rfl, by omega, HK5, HM5, HT5, HA5, HZ5⟩
      case measure => simp [intOf]; omega
    · obtain rfl : j = n := by omega
      have c1 : (j : Int) ≤ (j : Int) := by omega
      go_wp2_with fail
      go_ret
      obtain ⟨e1, e2⟩ := HF.out wr k HKJ.out HM.out HT.out HA.out
      exact ⟨e1, e2, HM.out⟩
end Go.Proofs.YtkdoigibpaempaaGreatDoor
namespace Go.Proofs.YtkdoigibpaempaaGreatDoor
open Go.RowKit
theorem bnes (b : Bool) : (b != b) = false := by cases b <;> rfl
set_option maxRecDepth 100000 in
set_option maxHeartbeats 2000000 in
theorem held_chsX {N : Nat → Prop} (a : Option Addr) (n cap : Nat) (xs : List Ch) (k0 : Int) (w : World) (hn : xs.length = n) (hs : chS xs) (h0 : 0 ≤ k0) (h1 : k0 ≤ 4500000000000000000) (h : Chs N 1099511627776 w a (mkc k0 xs)) : Calls Tryz.prog 50 #[.slice a n cap, .int .i64 k0] w fun e w' => e = .returned (.int .i64 (kkc k0 xs n)) ∧ w' = w := by
  have hm := hs.1
  rw [hn] at hm
  have HL := hid hs.2
  have HR := hid h
  have HN := hid hn
  have HK := hid (kkc_bound (k0 := k0) hs.2)
  clear hs h hn
  have HF : Hid (∀ k : Int, k = kkc k0 xs n → Ending.returned (.int .i64 k) = .returned (.int .i64 (kkc k0 xs n))) := hid (fun k e => by rw [e])
  go_enter Tryz.func50, Tryz.ntmps50
  go_wp2_with fail
  go_loopw [1, 5] (fun tk' ti wr => ∃ j : Nat, ∃ k : Int, ti = .int .i64 j ∧ tk' = .int .i64 k ∧ j ≤ n ∧ Hid (k = kkc k0 xs j) ∧ wr = w) (fun _ ti _ => n - (intOf ti).toNat)
  case atStart => exact ⟨0, k0, rfl, rfl, Nat.zero_le _, hid (by simp [kkc, kcn]), rfl⟩
  case round =>
    obtain ⟨j, k, rfl, rfl, hj, HKJ, hw⟩ := hrel
    subst hw
    by_cases hlt : j < n
    · have c1 : (j : Int) < (n : Int) := by omega
      have hjr : j < xs.length := by rw [HN.out]; exact hlt
      obtain ⟨hk0, hk1⟩ := HK.out j (by omega)
      rw [← HKJ.out] at hk0 hk1
      have hk2 : k ≤ 4600000000000000000 := by omega
      have hk3 : 0 ≤ k := by omega
      have HKN := hid (kkc_next (k0 := k0) hjr)
      rw [← HKJ.out] at HKN
      have hma := mkc_at (k0 := k0) hjr
      rw [← HKJ.out] at hma
      obtain ⟨b, o, rfl, hbs, a', cap', q0, q1, q2, q4, q5, q6, q7, _⟩ := HR.out.at j (by rw [mkc_len]; exact hjr)
      rw [hma] at q0 q1 q2 q4 q5 q6 q7
      simp only [mke, tkk_len] at q0 q1 q2 q4 q5 q6 q7
      have hnp := HL.out j hjr
      generalize hps : xs[j].2.2.2.length = np at *
      clear hps hma
      rw [show k + 2 = k + 1 + 1 by omega] at q2
      rw [show k + 3 = k + 1 + 1 + 1 by omega] at q7
      have HP := hid (held_ptsK wr a' cap' np (k + 1 + 1 + 1) (by omega) (by omega) hnp q7)
      have HK5 : Hid (k + 1 + 1 + 1 + 2 * (np : Int) = kkc k0 xs (j + 1)) := hid (by rw [HKN.out]; omega)
      have hpos : ¬ (k + 1 + 1 + 1 + 2 * (np : Int) < 0) := by omega
      have hbb := bnes ((k + 1) % 3 == 0)
      clear q5 q6 q7
      go_wp2_with fail
      refine HP.out.mono ?_
      rintro e w1 ⟨rfl, hw1⟩
      replace hw1 := hw1.symm
      subst hw1
      go_wp2_with fail
      go_roundw
      case rel => exact ⟨j + 1, _, by go_num, rfl, by omega, HK5, by first | rfl | trivial⟩
      case measure => simp [intOf]; omega
    · obtain rfl : j = n := by omega
      have c1 : (j : Int) ≤ (j : Int) := by omega
      go_wp2_with fail
      go_ret
      exact ⟨HF.out k HKJ.out, rfl⟩
set_option maxRecDepth 100000 in
set_option maxHeartbeats 2000000 in
theorem held_txsX {N : Nat → Prop} (a : Option Addr) (n cap : Nat) (xs : List Tx) (k0 : Int) (w : World) (hn : xs.length = n) (hs : txS xs) (h0 : 0 ≤ k0) (h1 : k0 ≤ 2000000000000000000) (h : Txs N 1099511627776 w a (mks k0 xs)) : Calls Tryz.prog 27 #[.slice a n cap, .int .i64 k0] w fun e w' => e = .returned (.int .i64 (kkt k0 xs n)) ∧ w' = w := by
  have hm := hs.1
  rw [hn] at hm
  have HL := hid hs.2
  have HR := hid h
  have HN := hid hn
  have HK := hid (kkt_bound (k0 := k0) hs.2)
  clear hs h hn
  have HF : Hid (∀ k : Int, k = kkt k0 xs n → Ending.returned (.int .i64 k) = .returned (.int .i64 (kkt k0 xs n))) := hid (fun k e => by rw [e])
  go_enter Tryz.func27, Tryz.ntmps27
  go_wp2_with fail
  go_loopw [1, 5] (fun tk' ti wr => ∃ j : Nat, ∃ k : Int, ti = .int .i64 j ∧ tk' = .int .i64 k ∧ j ≤ n ∧ Hid (k = kkt k0 xs j) ∧ wr = w) (fun _ ti _ => n - (intOf ti).toNat)
  case atStart => exact ⟨0, k0, rfl, rfl, Nat.zero_le _, hid (by simp [kkt, ktn]), rfl⟩
  case round =>
    obtain ⟨j, k, rfl, rfl, hj, HKJ, hw⟩ := hrel
    subst hw
    by_cases hlt : j < n
    · have c1 : (j : Int) < (n : Int) := by omega
      have hjr : j < xs.length := by rw [HN.out]; exact hlt
      obtain ⟨hk0, hk1⟩ := HK.out j (by omega)
      rw [← HKJ.out] at hk0 hk1
      have hk2 : k ≤ 4400000000000000000 := by omega
      have hk3 : 0 ≤ k := by omega
      have HKN := hid (kkt_next (k0 := k0) hjr)
      rw [← HKJ.out] at HKN
      have hma := mks_at (k0 := k0) hjr
      rw [← HKJ.out] at hma
      obtain ⟨b, o, rfl, hbs, a', cap', q0, q1, q2, q4, q5, q6, _⟩ := HR.out.at j (by rw [mks_len]; exact hjr)
      rw [hma] at q0 q1 q2 q4 q5 q6
      simp only [mkt, mkc_len] at q0 q1 q2 q4 q5 q6
      have hcs := HL.out j hjr
      generalize hps : xs[j].2.2 = cs at *
      clear hps hma
      rw [show k + 2 = k + 1 + 1 by omega] at q6
      rw [show k + 2 = k + 1 + 1 by omega] at HKN
      have HP := hid (held_chsX a' cs.length cap' cs (k + 1 + 1) wr rfl hcs (by omega) (by omega) q6)
      have HK5 : Hid (kkc (k + 1 + 1) cs cs.length = kkt k0 xs (j + 1)) := hid HKN.out.symm
      obtain ⟨kq0, kq1⟩ := kkc_bound (k0 := k + 1 + 1) hcs.2 cs.length (Nat.le_refl _)
      generalize kkc (k + 1 + 1) cs cs.length = kq at *
      have hpos : ¬ (kq < 0) := by omega
      have hbb := bnes ((k + 1) % 3 == 0)
      clear q4 q5 q6
      go_wp2_with fail
      refine HP.out.mono ?_
      rintro e w1 ⟨rfl, hw1⟩
      replace hw1 := hw1.symm
      subst hw1
      go_wp2_with fail
      go_roundw
      case rel => exact ⟨j + 1, _, by go_num, rfl, by omega, HK5, by first | rfl | trivial⟩
      case measure => simp [intOf]; omega
    · obtain rfl : j = n := by omega
      have c1 : (j : Int) ≤ (j : Int) := by omega
      go_wp2_with fail
      go_ret
      exact ⟨HF.out k HKJ.out, rfl⟩
set_option maxRecDepth 100000 in
set_option maxHeartbeats 2000000 in
theorem held_rwsX {N : Nat → Prop} (a : Option Addr) (n cap : Nat) (xs : List Rw) (k0 : Int) (w : World) (hn : xs.length = n) (hs : rwS xs) (h0 : 0 ≤ k0) (h1 : k0 ≤ 2000000000000000000) (h : Rws N w a (mkr k0 xs)) : Calls Tryz.prog 49 #[.slice a n cap, .int .i64 k0] w fun e w' => e = .returned (.int .i64 (kkr k0 xs n)) ∧ w' = w := by
  have hm := hs.1
  rw [hn] at hm
  have HL := hid hs.2
  have HR := hid h
  have HN := hid hn
  have HK := hid (kkr_bound (k0 := k0) hs.2)
  clear hs h hn
  have HF : Hid (∀ k : Int, k = kkr k0 xs n → Ending.returned (.int .i64 k) = .returned (.int .i64 (kkr k0 xs n))) := hid (fun k e => by rw [e])
  go_enter Tryz.func49, Tryz.ntmps49
  go_wp2_with fail
  go_loopw [1, 5] (fun tk' ti wr => ∃ j : Nat, ∃ k : Int, ti = .int .i64 j ∧ tk' = .int .i64 k ∧ j ≤ n ∧ Hid (k = kkr k0 xs j) ∧ wr = w) (fun _ ti _ => n - (intOf ti).toNat)
  case atStart => exact ⟨0, k0, rfl, rfl, Nat.zero_le _, hid (by simp [kkr, krn]), rfl⟩
  case round =>
    obtain ⟨j, k, rfl, rfl, hj, HKJ, hw⟩ := hrel
    subst hw
    by_cases hlt : j < n
    · have c1 : (j : Int) < (n : Int) := by omega
      have hjr : j < xs.length := by rw [HN.out]; exact hlt
      obtain ⟨hk0, hk1⟩ := HK.out j (by omega)
      rw [← HKJ.out] at hk0 hk1
      have hk2 : k ≤ 4400000000000000000 := by omega
      have hk3 : 0 ≤ k := by omega
      have HKN := hid (kkr_next (k0 := k0) hjr)
      rw [← HKJ.out] at HKN
      have hma := mkr_at (k0 := k0) hjr
      rw [← HKJ.out] at hma
      obtain ⟨b, o, rfl, hbs, a', cap', q0, q1, q2, q3, q4, q5, q6, q7, _⟩ := HR.out.at j (by rw [mkr_len]; exact hjr)
      rw [hma] at q0 q1 q2 q3 q4 q5 q6 q7
      simp only [mkr1, tkk_len] at q0 q1 q2 q3 q4 q5 q6 q7
      have hnp := HL.out j hjr
      generalize hps : xs[j].2.2.2.2.length = np at *
      clear hps hma
      rw [show k + 2 = k + 1 + 1 by omega] at q2
      rw [show k + 3 = k + 1 + 1 + 1 by omega] at q3
      rw [show k + 4 = k + 1 + 1 + 1 + 1 by omega] at q7
      have HP := hid (held_ptsK wr a' cap' np (k + 1 + 1 + 1 + 1) (by omega) (by omega) hnp q7)
      have HK5 : Hid (k + 1 + 1 + 1 + 1 + 2 * (np : Int) = kkr k0 xs (j + 1)) := hid (by rw [HKN.out]; omega)
      have hpos : ¬ (k + 1 + 1 + 1 + 1 + 2 * (np : Int) < 0) := by omega
      clear q5 q6 q7
      go_wp2_with fail
      refine HP.out.mono ?_
      rintro e w1 ⟨rfl, hw1⟩
      replace hw1 := hw1.symm
      subst hw1
      go_wp2_with fail
      go_roundw
      case rel => exact ⟨j + 1, _, by go_num, rfl, by omega, HK5, by first | rfl | trivial⟩
      case measure => simp [intOf]; omega
    · obtain rfl : j = n := by omega
      have c1 : (j : Int) ≤ (j : Int) := by omega
      go_wp2_with fail
      go_ret
      exact ⟨HF.out k HKJ.out, rfl⟩
set_option maxHeartbeats 400000 in
theorem markRowsX_of (w : World) (now : Int) (a : Option Addr) (cap : Nat) (rs : List Rw) (kr : Int) (b1 u1 : Nat) (HM : ∀ w', LC KR b1 u1 w' (.slice a rs.length cap) rs → Calls Tryz.prog 47 #[.slice a rs.length cap, .int .i64 1] w' fun e w'' => e = .returned (.int .i64 kr) ∧ LC KR b1 u1 w'' (.slice a rs.length cap) (mkr 1 rs) ∧ Mid b1 u1 w' w'') (h : LC KR b1 u1 w (.slice a rs.length cap) rs) : Calls Tryz.prog 24 #[.agg #[.int .i64 now, .slice a rs.length cap], .int .i64 1] w fun e w' => e = .returned (.int .i64 kr) ∧ LC KR b1 u1 w' (.slice a rs.length cap) (mkr 1 rs) ∧ Mid b1 u1 w w' := by
  have hB : Below w.heap.size w (w.alloc (.cells #[.int .i64 now, .slice a rs.length cap] 31)) := balloc (Below.refl _ _) _
  have H := hid (HM _ (h.below hB))
  clear HM h
  go_enter Tryz.func24, Tryz.ntmps24
  go_wp2_with fail
  refine H.out.mono ?_
  rintro e y ⟨rfl, r1, m1⟩
  have HR := hid r1
  have HB := hid (mid_trans (mid_below (lo := b1) (hi := u1) hB) m1)
  clear r1 m1 hB
  go_wp2_with fail
  go_ret
  exact ⟨rfl, HR.out, HB.out⟩
set_option maxHeartbeats 400000 in
theorem heldRowsX_of (now : Int) (a : Option Addr) (cap : Nat) (rs : List Rw) (kr : Int) (w : World) (hk : ¬ kr < 0) (HM : ∀ w', Below w.heap.size w w' → Calls Tryz.prog 49 #[.slice a rs.length cap, .int .i64 1] w' fun e w'' => e = .returned (.int .i64 kr) ∧ w'' = w') : Calls Tryz.prog 26 #[.agg #[.int .i64 now, .slice a rs.length cap], .int .i64 1] w fun e w' => e = .returned (.int .i64 kr) ∧ Below w.heap.size w w' := by
  have hB : Below w.heap.size w (w.alloc (.cells #[.int .i64 now, .slice a rs.length cap] 31)) := balloc (Below.refl _ _) _
  have H := hid (HM _ hB)
  clear HM
  go_enter Tryz.func26, Tryz.ntmps26
  go_wp2_with fail
  refine H.out.mono ?_
  rintro e y ⟨rfl, hy⟩
  replace hy := hy.symm
  subst hy
  go_wp2_with fail
  go_ret
  exact ⟨rfl, hB⟩
def kst (rs : List Rw) (ts : List Tx) : Int := kkt (kkr 1 rs rs.length) ts ts.length
theorem kst_pos {rs : List Rw} {ts : List Tx} (hr : rwS rs) (ht : txS ts) : (1 ≤ kkr 1 rs rs.length ∧ kkr 1 rs rs.length ≤ 2199027449858) ∧ 1 ≤ kst rs ts := by
  obtain ⟨a, b⟩ := kkr_bound (k0 := 1) hr.2 rs.length (Nat.le_refl _)
  obtain ⟨c, d⟩ := kkt_bound (k0 := kkr 1 rs rs.length) ht.2 ts.length (Nat.le_refl _)
  have := hr.1
  refine ⟨⟨a, by omega⟩, by unfold kst; omega⟩
set_option maxRecDepth 100000 in
set_option maxHeartbeats 1000000 in
theorem mark_storeX (b1 u1 b2 u2 lo hi : Nat) (now : Int) (a ta : Option Addr) (cap tcap : Nat) (rs : List Rw) (ts : List Tx) (w : World) (hr : rwS rs) (ht : txS ts) (e1 : lo ≤ b1) (e2 : u1 ≤ hi) (e3 : lo ≤ b2) (e4 : u2 ≤ hi) (e5 : u1 ≤ b2 ∨ u2 ≤ b1) (e6 : hi ≤ w.heap.size) (h1 : LC KR b1 u1 w (.slice a rs.length cap) rs) (h2 : LC KT b2 u2 w (.slice ta ts.length tcap) ts) : Calls Tryz.prog 9 #[.agg #[.int .i64 now, .slice a rs.length cap, .slice ta ts.length tcap], .int .i64 1] w fun e w' => e = .returned (.int .i64 (kst rs ts)) ∧ LC KR b1 u1 w' (.slice a rs.length cap) (mkr 1 rs) ∧ LC KT b2 u2 w' (.slice ta ts.length tcap) (mks (kkr 1 rs rs.length) ts) ∧ Mid lo hi w w' := by
  have H1 := hid h1
  have H2 := hid h2
  obtain ⟨⟨p1, p2⟩, p3⟩ := kst_pos hr ht
  have HM := hid (fun w' (h : LC KR b1 u1 w' (.slice a rs.length cap) rs) => mark_rwsX b1 u1 (.slice a rs.length cap) rs 1 w' hr (by omega) (by omega) h)
  have HT := hid (fun w' (h : LC KT b2 u2 w' (.slice ta ts.length tcap) ts) => mark_txsX b2 u2 (.slice ta ts.length tcap) ts (kkr 1 rs rs.length) w' ht (by omega) (by omega) h)
  have HKS : Hid (kkt (kkr 1 rs rs.length) ts ts.length = kst rs ts) := hid rfl
  rw [HKS.out] at HT
  clear h1 h2 HKS
  generalize kst rs ts = ks at *
  generalize kkr 1 rs rs.length = kr at *
  go_enter Tryz.func9, Tryz.ntmps9
  go_wp2_with fail
  have gS := new_alloc w w.heap.size (.cells #[.int .i64 now, .slice a rs.length cap, .slice ta ts.length tcap] 34) rfl
  have hal : Below w.heap.size w (w.alloc (.cells #[.int .i64 now, .slice a rs.length cap, .slice ta ts.length tcap] 34)) := balloc (Below.refl _ _) _
  have hwz : w.heap.size < (w.alloc (.cells #[.int .i64 now, .slice a rs.length cap, .slice ta ts.length tcap] 34)).heap.size := by simp
  replace H1 := hid (H1.out.below hal)
  replace H2 := hid (H2.out.below hal)
  have HMB := hid (mid_below (lo := lo) (hi := hi) hal)
  clear hal
  generalize w.alloc (.cells #[.int .i64 now, .slice a rs.length cap, .slice ta ts.length tcap] 34) = W at *
  refine (markRowsX_of _ now a cap rs kr b1 u1 (HM.out) H1.out).mono ?_
  rintro e y ⟨rfl, r1, m1⟩
  have g1 : y.heap[w.heap.size]? = _ := (mid_blk m1 hwz (by omega)).trans gS
  have R1 := hid r1
  have HM1 := hid m1
  replace H2 := hid (H2.out.frame (fun c c1 c2 => mid_blk m1 (by have := H2.out.1; omega) (by omega)) m1.2.2.2.1)
  obtain ⟨⟨x0, x1, x2⟩, _⟩ := cellk3 g1
  clear r1 m1 g1 gS
  go_wp2_with fail
  refine (HT.out _ H2.out).mono ?_
  rintro e z ⟨rfl, r2, m2⟩
  have R2 := hid r2
  have R3 := hid (R1.out.frame (fun c c1 c2 => mid_blk m2 (by have := R1.out.1; omega) (by omega)) m2.2.2.2.1)
  have HM3 := hid (mid_trans (mid_trans HMB.out (mid_wide HM1.out e1 e2)) (mid_wide m2 e3 e4))
  clear r2 m2
  go_wp2_with fail
  go_ret
  exact ⟨rfl, R3.out, R2.out, HM3.out⟩
set_option maxHeartbeats 1000000 in
theorem held_storeX {N1 N2 : Nat → Prop} (now : Int) (a ta : Option Addr) (cap tcap : Nat) (rs : List Rw) (ts : List Tx) (w : World) (hr : rwS rs) (ht : txS ts) (h1 : Rws N1 w a (mkr 1 rs)) (h2 : Txs N2 1099511627776 w ta (mks (kkr 1 rs rs.length) ts)) : Calls Tryz.prog 10 #[.agg #[.int .i64 now, .slice a rs.length cap, .slice ta ts.length tcap], .int .i64 1] w fun e w' => e = .returned (.int .i64 (kst rs ts)) ∧ Below w.heap.size w w' := by
  obtain ⟨⟨p1, p2⟩, p3⟩ := kst_pos hr ht
  have HM := hid (fun w' (h : Below w.heap.size w w') => held_rwsX a rs.length cap rs 1 w' rfl hr (by omega) (by omega) (h1.below h))
  have HT := hid (fun w' (h : Below w.heap.size w w') => held_txsX ta ts.length tcap ts (kkr 1 rs rs.length) w' rfl ht (by omega) (by omega) (h2.below h))
  have HKS : Hid (kkt (kkr 1 rs rs.length) ts ts.length = kst rs ts) := hid rfl
  rw [HKS.out] at HT
  clear h1 h2 HKS
  generalize kst rs ts = ks at *
  generalize kkr 1 rs rs.length = kr at *
  have n1 : ¬ kr < 0 := by omega
  have n2 : ¬ ks < 0 := by omega
  go_enter Tryz.func10, Tryz.ntmps10
  go_wp2_with fail
  have gS := new_alloc w w.heap.size (.cells #[.int .i64 now, .slice a rs.length cap, .slice ta ts.length tcap] 34) rfl
  have hB : Below w.heap.size w (w.alloc (.cells #[.int .i64 now, .slice a rs.length cap, .slice ta ts.length tcap] 34)) := balloc (Below.refl _ _) _
  generalize w.alloc (.cells #[.int .i64 now, .slice a rs.length cap, .slice ta ts.length tcap] 34) = W at *
  refine (heldRowsX_of now a cap rs kr W (by omega) (fun w' h => HM.out w' (btrans hB h))).mono ?_
  rintro e y ⟨rfl, hy⟩
  have g1 := keepheap2 hy gS
  replace hB := btrans hB hy
  obtain ⟨⟨x0, x1, x2⟩, _⟩ := cellk3 g1
  clear hy gS g1
  go_wp2_with fail
  refine (HT.out _ hB).mono ?_
  rintro e z ⟨rfl, hz⟩
  replace hz := hz.symm
  subst hz
  go_wp2_with fail
  go_ret
  exact ⟨rfl, hB⟩
end Go.Proofs.YtkdoigibpaempaaGreatDoor
