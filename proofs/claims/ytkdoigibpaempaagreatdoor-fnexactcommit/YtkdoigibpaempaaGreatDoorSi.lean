import Derived.Test.YtkdoigibpaempaaGreatDoorJ20
set_option linter.unusedSimpArgs false
set_option linter.unusedVariables false
namespace Go.Proofs.YtkdoigibpaempaaGreatDoor
open Go.RowKit
theorem grown_cell {w w' : World} {c B k : Nat} (g : w.grownBy w' (some c)) (hB : B < w.heap.size) (h : c ≠ B) : w'.cell? ⟨B, k, none⟩ = w.cell? ⟨B, k, none⟩ := by
  have := g.block B hB (by intro e; injection e; omega)
  simp only [World.cell?, this]
theorem mid_wide {lo hi lo' hi' : Nat} {w w' : World} (h : Mid lo' hi' w w') (h1 : lo ≤ lo') (h2 : hi' ≤ hi) : Mid lo hi w w' := ⟨h.1, h.2.1, h.2.2.1, h.2.2.2.1, fun k hk h3 => h.2.2.2.2 k hk (by omega)⟩
theorem ChO.mid {lo' hi' hi : Nat} {w w' : World} {B o : Nat} {x : Ch} (h : ChO hi w B o x) (k : Mid lo' hi' w w') (ht : ∀ d m, d < w.heap.size → w.there d 0 m → w'.there d 0 m) (hh : hi ≤ w.heap.size) (hB : hi' ≤ B) : ChO hi w' B o x := by
  obtain ⟨c, h0, h1, h2, h3⟩ := h
  exact ⟨c, mid_cell k h0 (.inr hB), h1, h2, ht _ _ (by omega) h3⟩
theorem ChsO.mid {lo' hi' hi : Nat} {w w' : World} {B : Nat} {xs : List Ch} (h : ChsO hi w B xs) (k : Mid lo' hi' w w') (ht : ∀ d m, d < w.heap.size → w.there d 0 m → w'.there d 0 m) (hb : B < w.heap.size) (hh : hi ≤ w.heap.size) (hB : hi' ≤ B) : ChsO hi w' B xs := ⟨ht _ _ hb h.1, fun j hj => (h.2 j hj).mid k ht hh hB⟩
theorem TxO.mid {lo' hi' hi : Nat} {w w' : World} {B o c : Nat} {x : Tx} (h : TxO hi w B o x c) (k : Mid lo' hi' w w') (ht : ∀ d m, d < w.heap.size → w.there d 0 m → w'.there d 0 m) (hh : hi ≤ w.heap.size) (hB : B < lo' ∨ hi' ≤ B) (hc : hi' ≤ c) : TxO hi w' B o x c := by
  obtain ⟨h0, h1, h2, h3⟩ := h
  exact ⟨mid_cell k h0 hB, h1, h2, h3.mid k ht (by omega) hh hc⟩
theorem TxsO.mid {lo' hi' hi : Nat} {w w' : World} {B : Nat} {xs : List Tx} (h : TxsO hi w B xs) (k : Mid lo' hi' w w') (ht : ∀ d m, d < w.heap.size → w.there d 0 m → w'.there d 0 m) (hb : B < w.heap.size) (hh : hi ≤ w.heap.size) (hB : hi' ≤ B) : TxsO hi w' B xs := by
  obtain ⟨h1, c, f, h2, h3⟩ := h
  exact ⟨ht _ _ hb h1, c, f, fun j hj => ⟨(h2 j hj).1.mid k ht (by have := (h2 j hj).2; omega) (.inr hB) (by have := (h2 j hj).1.2.1; omega), (h2 j hj).2⟩, h3⟩
set_option maxRecDepth 100000 in
set_option maxHeartbeats 2000000 in
theorem mark_chs (lo hi B : Nat) (xs : List Ch) (k0 : Int) (w : World) (hlo : lo ≤ B) (hBh : B < hi) (hih : hi ≤ w.heap.size) (hs : chS xs) (h0 : 0 ≤ k0) (h1 : k0 ≤ 4000000000000000000) (ho : ChsO hi w B xs) : Calls Tryz.prog 48 #[.slice (some ⟨B, 0, none⟩) xs.length xs.length, .int .i64 k0] w fun e w' => (∃ v : Int, e = .returned (.int .i64 v) ∧ 0 ≤ v ∧ v ≤ k0 + 2199026401280) ∧ Mid lo hi w w' ∧ (∀ d m, d < w.heap.size → w.there d 0 m → w'.there d 0 m) := by
  have HL := hid hs.2
  have HO := hid ho.2
  have hm := hs.1
  have HTT := hid ho.1
  clear hs ho
  obtain ⟨n, hn⟩ : ∃ n, n = xs.length := ⟨_, rfl⟩
  have HN := hid hn.symm
  rw [← hn] at hm HTT ⊢
  clear hn
  go_enter Tryz.func48, Tryz.ntmps48
  go_wp2_with fail
  go_loopw [1, 5] (fun tk' ti wr => ∃ j : Nat, ∃ k : Int, ti = .int .i64 j ∧ tk' = .int .i64 k ∧ j ≤ n ∧ 0 ≤ k ∧ k ≤ k0 + (j : Int) * 2097155 ∧ Hid (Mid lo hi w wr) ∧ Hid (∀ d m, w.there d 0 m → wr.there d 0 m) ∧ Hid (∀ i, j ≤ i → i < n → wr.cell? ⟨B, i * 4 + 3, none⟩ = w.cell? ⟨B, i * 4 + 3, none⟩)) (fun _ ti _ => n - (intOf ti).toNat)
  case atStart => exact ⟨0, k0, rfl, rfl, Nat.zero_le _, by omega, by omega, hid (mid_refl _ _ _), hid (fun _ _ h => h), hid (fun _ _ _ => rfl)⟩
  case round =>
    obtain ⟨j, k, rfl, rfl, hj, hk0, hk1, HM, HT, HC⟩ := hrel
    by_cases hlt : j < n
    · have c1 : (j : Int) < (n : Int) := by omega
      have hjr : j < xs.length := by rw [HN.out]; exact hlt
      obtain ⟨c, q0, q1, q2, q3⟩ := HO.out j hjr
      have hnp := HL.out j hjr
      generalize xs[j].2.2.2.length = np at *
      have hk2 : k ≤ 4000002199026401280 := by omega
      have hT := HT.out _ _ HTT.out
      rw [← HC.out j (Nat.le_refl _) hlt] at q0
      obtain ⟨u0, z0, y0⟩ := there_at hT (show j * 4 < n * 4 by omega)
      obtain ⟨u1, z1, y1⟩ := there_at hT (show j * 4 + 1 < n * 4 by omega)
      obtain ⟨u2, z2, y2⟩ := there_at hT (show j * 4 + 2 < n * 4 by omega)
      have z1' : ∀ a0, (wr.setCell ⟨B, j * 4, none⟩ a0).cell? ⟨B, j * 4 + 1, none⟩ = some u1 := fun a0 => by rw [World.cell?_setCell_other _ _ _ _ (by simp)]; exact z1
      have z2' : ∀ a0 a1, ((wr.setCell ⟨B, j * 4, none⟩ a0).setCell ⟨B, j * 4 + 1, none⟩ a1).cell? ⟨B, j * 4 + 2, none⟩ = some u2 := fun a0 a1 => by rw [World.cell?_setCell_other _ _ _ _ (by simp), World.cell?_setCell_other _ _ _ _ (by simp)]; exact z2
      have z3' : ∀ a0 a1 a2, (((wr.setCell ⟨B, j * 4, none⟩ a0).setCell ⟨B, j * 4 + 1, none⟩ a1).setCell ⟨B, j * 4 + 2, none⟩ a2).cell? ⟨B, j * 4 + 3, none⟩ = some (.slice (some ⟨c, 0, none⟩) np np) := fun a0 a1 a2 => by rw [World.cell?_setCell_other _ _ _ _ (by simp), World.cell?_setCell_other _ _ _ _ (by simp), World.cell?_setCell_other _ _ _ _ (by simp)]; exact q0
      have y1' : ∀ a0, (wr.setCell ⟨B, j * 4, none⟩ a0).frozen? ⟨B, j * 4 + 1, none⟩ = false := fun a0 => by rw [World.frozen?_setCell]; exact y1
      have y2' : ∀ a0 a1, ((wr.setCell ⟨B, j * 4, none⟩ a0).setCell ⟨B, j * 4 + 1, none⟩ a1).frozen? ⟨B, j * 4 + 2, none⟩ = false := fun a0 a1 => by rw [World.frozen?_setCell, World.frozen?_setCell]; exact y2
      have HM3 := hid (fun a0 a1 a2 => (mid_set (mid_set (mid_set HM.out hlo hBh a0) hlo hBh a1) hlo hBh a2 : Mid lo hi w (((wr.setCell ⟨B, j * 4, none⟩ a0).setCell ⟨B, j * 4 + 1, none⟩ a1).setCell ⟨B, j * 4 + 2, none⟩ a2)))
      have HT3 := hid (fun a0 a1 a2 d m (h : w.there d 0 m) => (there_set (there_set (there_set (HT.out d m h) a0) a1) a2 : (((wr.setCell ⟨B, j * 4, none⟩ a0).setCell ⟨B, j * 4 + 1, none⟩ a1).setCell ⟨B, j * 4 + 2, none⟩ a2).there d 0 m))
      have HC3 := hid (fun a0 a1 a2 i (h1 : j + 1 ≤ i) (h2 : i < n) => (by
        rw [World.cell?_setCell_other _ _ _ _ (by intro e; injection e; omega), World.cell?_setCell_other _ _ _ _ (by intro e; injection e; omega), World.cell?_setCell_other _ _ _ _ (by intro e; injection e; omega)]
        exact HC.out i (by omega) h2 : (((wr.setCell ⟨B, j * 4, none⟩ a0).setCell ⟨B, j * 4 + 1, none⟩ a1).setCell ⟨B, j * 4 + 2, none⟩ a2).cell? ⟨B, i * 4 + 3, none⟩ = w.cell? ⟨B, i * 4 + 3, none⟩))
      have HQ3 := hid q3
      have hws := HM.out.2.2.2.1
      clear hT z1 z2 y1 y2 HM HT HC q3 q0
      go_wp2_with fail
      refine (mark_ptsN _ c np (k + 1 + 1 + 1) (by omega) (by omega) hnp (by simp only [World.size_setCell]; omega) (HT3.out _ _ _ _ _ HQ3.out)).mono ?_
      rintro e w1 ⟨rfl, hg, hth⟩
      have HM5 := hid (mid_grown (HM3.out _ _ _) hg (by omega) q2)
      have HT5 := hid (fun d m (h : w.there d 0 m) => hth d m (HT3.out _ _ _ d m h))
      have HC5 : Hid (∀ i, j + 1 ≤ i → i < n → w1.cell? ⟨B, i * 4 + 3, none⟩ = w.cell? ⟨B, i * 4 + 3, none⟩) := hid (fun i h1 h2 => (grown_cell hg (by simp only [World.size_setCell]; omega) (by omega)).trans (HC3.out _ _ _ i h1 h2))
      clear hg hth HM3 HT3 HC3 z0 z1' z2' z3' y0 y1' y2'
      go_wp2_with fail
      go_roundw
      case rel => exact ⟨j + 1, _, by go_num, rfl, by omega, by omega, by omega, HM5, HT5, HC5⟩
      case measure => simp [intOf]; omega
    · have c1 : (n : Int) ≤ (j : Int) := by omega
      go_wp2_with fail
      go_ret
      exact ⟨⟨_, rfl, hk0, by omega⟩, HM.out, fun d m _ h => HT.out d m h⟩
set_option maxRecDepth 100000 in
set_option maxHeartbeats 2000000 in
theorem mark_txs (lo hi B : Nat) (xs : List Tx) (k0 : Int) (w : World) (hlo : lo ≤ B) (hBh : B < hi) (hih : hi ≤ w.heap.size) (hs : txS xs) (h0 : 0 ≤ k0) (h1 : k0 ≤ 1000000000000000000) (ho : TxsO hi w B xs) : Calls Tryz.prog 25 #[.slice (some ⟨B, 0, none⟩) xs.length xs.length, .int .i64 k0] w fun e w' => (∃ v : Int, e = .returned (.int .i64 v) ∧ 0 ≤ v) ∧ Mid lo hi w w' ∧ (∀ d m, d < w.heap.size → w.there d 0 m → w'.there d 0 m) := by
  have HL := hid hs.2
  have hm := hs.1
  have HTT := hid ho.1
  obtain ⟨cf, hf, hw1, hw2⟩ := ho.2
  have HW1 := hid hw1
  have HW2 := hid hw2
  clear hs ho hw1 hw2
  obtain ⟨n, hn⟩ : ∃ n, n = xs.length := ⟨_, rfl⟩
  have HN := hid hn.symm
  rw [← hn] at hm HTT ⊢
  clear hn
  go_enter Tryz.func25, Tryz.ntmps25
  go_wp2_with fail
  go_loopw [1, 5] (fun tk' ti wr => ∃ j : Nat, ∃ k : Int, ti = .int .i64 j ∧ tk' = .int .i64 k ∧ j ≤ n ∧ 0 ≤ k ∧ k ≤ k0 + (j : Int) * 2199026401282 ∧ Hid (Mid lo hi w wr) ∧ Hid (∀ d m, d < w.heap.size → w.there d 0 m → wr.there d 0 m) ∧ Hid (∀ i (hi : i < xs.length), j ≤ i → TxO (hf i) wr B (i * 3) xs[i] (cf i))) (fun _ ti _ => n - (intOf ti).toNat)
  case atStart => exact ⟨0, k0, rfl, rfl, Nat.zero_le _, by omega, by omega, hid (mid_refl _ _ _), hid (fun _ _ _ h => h), hid (fun i hi _ => (HW1.out i hi).1)⟩
  case round =>
    obtain ⟨j, k, rfl, rfl, hj, hk0, hk1, HM, HT, HX⟩ := hrel
    by_cases hlt : j < n
    · have c1 : (j : Int) < (n : Int) := by omega
      have hjr : j < xs.length := by rw [HN.out]; exact hlt
      obtain ⟨q0, q1, q2, q3⟩ := HX.out j hjr (Nat.le_refl _)
      have hle := (HW1.out j hjr).2
      have HLJ := hid (HL.out j hjr)
      have HW3 : Hid (∀ i (h : i < xs.length), j + 1 ≤ i → hf i ≤ hi ∧ hf j ≤ cf i) := hid (fun i h h' => ⟨(HW1.out i h).2, HW2.out j i (by omega) h⟩)
      generalize hxc : xs[j].2.2 = xc at *
      generalize cf j = cj at *
      generalize hf j = hj' at *
      have hk2 : k ≤ 3400000000000000000 := by omega
      have hT := HT.out _ _ (by omega) HTT.out
      obtain ⟨u0, z0, y0⟩ := there_at hT (show j * 3 < n * 3 by omega)
      obtain ⟨u1, z1, y1⟩ := there_at hT (show j * 3 + 1 < n * 3 by omega)
      have z1' : ∀ a0, (wr.setCell ⟨B, j * 3, none⟩ a0).cell? ⟨B, j * 3 + 1, none⟩ = some u1 := fun a0 => by rw [World.cell?_setCell_other _ _ _ _ (by simp)]; exact z1
      have z2' : ∀ a0 a1, ((wr.setCell ⟨B, j * 3, none⟩ a0).setCell ⟨B, j * 3 + 1, none⟩ a1).cell? ⟨B, j * 3 + 2, none⟩ = some (.slice (some ⟨cj, 0, none⟩) xc.length xc.length) := fun a0 a1 => by rw [World.cell?_setCell_other _ _ _ _ (by simp), World.cell?_setCell_other _ _ _ _ (by simp)]; exact q0
      have y1' : ∀ a0, (wr.setCell ⟨B, j * 3, none⟩ a0).frozen? ⟨B, j * 3 + 1, none⟩ = false := fun a0 => by rw [World.frozen?_setCell]; exact y1
      have HM3 := hid (fun a0 a1 => (mid_set (mid_set HM.out hlo hBh a0) hlo hBh a1 : Mid lo hi w ((wr.setCell ⟨B, j * 3, none⟩ a0).setCell ⟨B, j * 3 + 1, none⟩ a1)))
      have HT3 := hid (fun a0 a1 d m (h' : d < w.heap.size) (h : w.there d 0 m) => (there_set (there_set (HT.out d m h' h) a0) a1 : ((wr.setCell ⟨B, j * 3, none⟩ a0).setCell ⟨B, j * 3 + 1, none⟩ a1).there d 0 m))
      have HQ3 := hid (fun a0 a1 => ((q3.set (by omega) a0).set (by omega) a1 : ChsO hj' ((wr.setCell ⟨B, j * 3, none⟩ a0).setCell ⟨B, j * 3 + 1, none⟩ a1) cj xc))
      have HX3 := hid (fun a0 a1 i (h : i < xs.length) (h' : j + 1 ≤ i) => (((HX.out i h (by omega)).set (.inr ⟨rfl, by omega⟩) a0).set (.inr ⟨rfl, by omega⟩) a1 : TxO (hf i) ((wr.setCell ⟨B, j * 3, none⟩ a0).setCell ⟨B, j * 3 + 1, none⟩ a1) B (i * 3) xs[i] (cf i)))
      have hws := HM.out.2.2.2.1
      clear hT z1 y1 HM HT HX q3 q0
      go_wp2_with fail
      refine (mark_chs cj hj' cj xc (k + 1 + 1) _ (Nat.le_refl _) q2 (by simp only [World.size_setCell]; omega) HLJ.out (by omega) (by omega) (HQ3.out _ _)).mono ?_
      rintro e w1 ⟨⟨v, rfl, hv0, hv1⟩, hg, hth⟩
      have HM5 := hid (mid_trans (HM3.out _ _) (mid_wide hg (by omega) hle))
      have HT5 := hid (fun d m (h' : d < w.heap.size) (h : w.there d 0 m) => hth d m (by simp only [World.size_setCell]; omega) (HT3.out _ _ d m h' h))
      have HX5 : Hid (∀ i (h : i < xs.length), j + 1 ≤ i → TxO (hf i) w1 B (i * 3) xs[i] (cf i)) := hid (fun i h h' => by
        have e1 := HW3.out i h h'
        exact (HX3.out _ _ i h h').mid hg hth (by simp only [World.size_setCell]; omega) (.inl q1) e1.2)
      clear hg hth HM3 HT3 HX3 HQ3 z0 z1' z2' y0 y1'
      go_wp2_with fail
      go_roundw
      case rel => exact ⟨j + 1, _, by go_num, rfl, by omega, by omega, by omega, HM5, HT5, HX5⟩
      case measure => simp [intOf]; omega
    · have c1 : (n : Int) ≤ (j : Int) := by omega
      go_wp2_with fail
      go_ret
      exact ⟨⟨_, rfl, hk0⟩, HM.out, HT.out⟩
set_option maxRecDepth 100000 in
set_option maxHeartbeats 2000000 in
theorem mark_rowSB (lo hi B : Nat) (rs : List Rw) (w : World) (hlo : lo ≤ B) (hBh : B < hi) (hih : hi ≤ w.heap.size) (hm : rs.length ≤ 1048576) (hl : ∀ m (h : m < rs.length), rs[m].2.2.2.2.length ≤ 1048576) (ht : w.there B 0 (rs.length * 5)) (ho : RwsO hi w B rs) : Calls Tryz.prog 47 #[.slice (some ⟨B, 0, none⟩) rs.length rs.length, .int .i64 1] w fun e w' => (∃ v : Int, e = .returned (.int .i64 v) ∧ 0 ≤ v ∧ v ≤ 2199027449858) ∧ Mid lo hi w w' ∧ (∀ d m, d < w.heap.size → w.there d 0 m → w'.there d 0 m) := by
  have HL := hid hl
  have HO := hid ho
  clear hl ho
  obtain ⟨n, hn⟩ : ∃ n, n = rs.length := ⟨_, rfl⟩
  have HN := hid hn.symm
  rw [← hn] at hm ht ⊢
  clear hn
  have HTT := hid ht
  clear ht
  go_enter Tryz.func47, Tryz.ntmps47
  go_wp2_with fail
  go_loopw [1, 5] (fun tk' ti wr => ∃ j : Nat, ∃ k : Int, ti = .int .i64 j ∧ tk' = .int .i64 k ∧ j ≤ n ∧ 0 ≤ k ∧ k ≤ 1 + (j : Int) * 2097156 ∧ Hid (Mid lo hi w wr) ∧ Hid (∀ d m, w.there d 0 m → wr.there d 0 m) ∧ Hid (∀ i, j ≤ i → i < n → wr.cell? ⟨B, i * 5 + 4, none⟩ = w.cell? ⟨B, i * 5 + 4, none⟩)) (fun _ ti _ => n - (intOf ti).toNat)
  case atStart => exact ⟨0, 1, rfl, rfl, Nat.zero_le _, by omega, by omega, hid (mid_refl _ _ _), hid (fun _ _ h => h), hid (fun _ _ _ => rfl)⟩
  case round =>
    obtain ⟨j, k, rfl, rfl, hj, hk0, hk1, HM, HT, HC⟩ := hrel
    by_cases hlt : j < n
    · have c1 : (j : Int) < (n : Int) := by omega
      have hjr : j < rs.length := by rw [HN.out]; exact hlt
      obtain ⟨c, q0, q1, q2, q3⟩ := HO.out j hjr
      have hnp := HL.out j hjr
      generalize rs[j].2.2.2.2.length = np at *
      have hk2 : k ≤ 2199027449858 := by omega
      have hT := HT.out _ _ HTT.out
      rw [← HC.out j (Nat.le_refl _) hlt] at q0
      obtain ⟨u0, z0, y0⟩ := there_at hT (show j * 5 < n * 5 by omega)
      obtain ⟨u1, z1, y1⟩ := there_at hT (show j * 5 + 1 < n * 5 by omega)
      obtain ⟨u2, z2, y2⟩ := there_at hT (show j * 5 + 2 < n * 5 by omega)
      obtain ⟨u3, z3, y3⟩ := there_at hT (show j * 5 + 3 < n * 5 by omega)
      have z1' : (wr.setCell ⟨B, j * 5, none⟩ (.int .i64 k)).cell? ⟨B, j * 5 + 1, none⟩ = some u1 := by
        rw [World.cell?_setCell_other _ _ _ _ (by simp)]; exact z1
      have z2' : ((wr.setCell ⟨B, j * 5, none⟩ (.int .i64 k)).setCell ⟨B, j * 5 + 1, none⟩ (.int .i64 (k + 1))).cell? ⟨B, j * 5 + 2, none⟩ = some u2 := by
        rw [World.cell?_setCell_other _ _ _ _ (by simp), World.cell?_setCell_other _ _ _ _ (by simp)]; exact z2
      have z3' : (((wr.setCell ⟨B, j * 5, none⟩ (.int .i64 k)).setCell ⟨B, j * 5 + 1, none⟩ (.int .i64 (k + 1))).setCell ⟨B, j * 5 + 2, none⟩ (.int .i64 (k + 1 + 1))).cell? ⟨B, j * 5 + 3, none⟩ = some u3 := by
        rw [World.cell?_setCell_other _ _ _ _ (by simp), World.cell?_setCell_other _ _ _ _ (by simp), World.cell?_setCell_other _ _ _ _ (by simp)]; exact z3
      have z4' : ((((wr.setCell ⟨B, j * 5, none⟩ (.int .i64 k)).setCell ⟨B, j * 5 + 1, none⟩ (.int .i64 (k + 1))).setCell ⟨B, j * 5 + 2, none⟩ (.int .i64 (k + 1 + 1))).setCell ⟨B, j * 5 + 3, none⟩ (.int .i64 (k + 1 + 1 + 1))).cell? ⟨B, j * 5 + 4, none⟩ = some (.slice (some ⟨c, 0, none⟩) np np) := by
        rw [World.cell?_setCell_other _ _ _ _ (by simp), World.cell?_setCell_other _ _ _ _ (by simp), World.cell?_setCell_other _ _ _ _ (by simp), World.cell?_setCell_other _ _ _ _ (by simp)]; exact q0
      have y1' : (wr.setCell ⟨B, j * 5, none⟩ (.int .i64 k)).frozen? ⟨B, j * 5 + 1, none⟩ = false := by rw [World.frozen?_setCell]; exact y1
      have y2' : ((wr.setCell ⟨B, j * 5, none⟩ (.int .i64 k)).setCell ⟨B, j * 5 + 1, none⟩ (.int .i64 (k + 1))).frozen? ⟨B, j * 5 + 2, none⟩ = false := by rw [World.frozen?_setCell, World.frozen?_setCell]; exact y2
      have y3' : (((wr.setCell ⟨B, j * 5, none⟩ (.int .i64 k)).setCell ⟨B, j * 5 + 1, none⟩ (.int .i64 (k + 1))).setCell ⟨B, j * 5 + 2, none⟩ (.int .i64 (k + 1 + 1))).frozen? ⟨B, j * 5 + 3, none⟩ = false := by rw [World.frozen?_setCell, World.frozen?_setCell, World.frozen?_setCell]; exact y3
      have hsz : c < ((((wr.setCell ⟨B, j * 5, none⟩ (.int .i64 k)).setCell ⟨B, j * 5 + 1, none⟩ (.int .i64 (k + 1))).setCell ⟨B, j * 5 + 2, none⟩ (.int .i64 (k + 1 + 1))).setCell ⟨B, j * 5 + 3, none⟩ (.int .i64 (k + 1 + 1 + 1))).heap.size := by
        have := HM.out.2.2.2.1
        simp only [World.size_setCell]; omega
      have hM4 : Mid lo hi w ((((wr.setCell ⟨B, j * 5, none⟩ (.int .i64 k)).setCell ⟨B, j * 5 + 1, none⟩ (.int .i64 (k + 1))).setCell ⟨B, j * 5 + 2, none⟩ (.int .i64 (k + 1 + 1))).setCell ⟨B, j * 5 + 3, none⟩ (.int .i64 (k + 1 + 1 + 1))) := mid_set (mid_set (mid_set (mid_set HM.out hlo hBh _) hlo hBh _) hlo hBh _) hlo hBh _
      have hT4 : ∀ d m, w.there d 0 m → ((((wr.setCell ⟨B, j * 5, none⟩ (.int .i64 k)).setCell ⟨B, j * 5 + 1, none⟩ (.int .i64 (k + 1))).setCell ⟨B, j * 5 + 2, none⟩ (.int .i64 (k + 1 + 1))).setCell ⟨B, j * 5 + 3, none⟩ (.int .i64 (k + 1 + 1 + 1))).there d 0 m := fun d m h => there_set (there_set (there_set (there_set (HT.out d m h) _) _) _) _
      have hC4 : ∀ i, j + 1 ≤ i → i < n → ((((wr.setCell ⟨B, j * 5, none⟩ (.int .i64 k)).setCell ⟨B, j * 5 + 1, none⟩ (.int .i64 (k + 1))).setCell ⟨B, j * 5 + 2, none⟩ (.int .i64 (k + 1 + 1))).setCell ⟨B, j * 5 + 3, none⟩ (.int .i64 (k + 1 + 1 + 1))).cell? ⟨B, i * 5 + 4, none⟩ = w.cell? ⟨B, i * 5 + 4, none⟩ := fun i h1 h2 => by
        rw [World.cell?_setCell_other _ _ _ _ (by intro e; injection e; omega), World.cell?_setCell_other _ _ _ _ (by intro e; injection e; omega), World.cell?_setCell_other _ _ _ _ (by intro e; injection e; omega), World.cell?_setCell_other _ _ _ _ (by intro e; injection e; omega)]
        exact HC.out i (by omega) h2
      have HM4 := hid hM4
      have HT4 := hid hT4
      have HC4 := hid hC4
      have MP := hid (mark_ptsN _ c np (k + 1 + 1 + 1 + 1) (by omega) (by omega) hnp hsz (hT4 _ _ q3))
      clear hM4 hT4 hC4 q0 q3 hT z1 z2 z3 y1 y2 y3 HM HT HC
      go_wp2_with fail
      refine MP.out.mono ?_
      rintro e w1 ⟨rfl, hg, hth⟩
      have HM5 := hid (mid_grown HM4.out hg (by omega) q2)
      have HT5 := hid (fun d m (h : w.there d 0 m) => hth d m (HT4.out d m h))
      have HC5 : Hid (∀ i, j + 1 ≤ i → i < n → w1.cell? ⟨B, i * 5 + 4, none⟩ = w.cell? ⟨B, i * 5 + 4, none⟩) := hid (fun i h1 h2 => by
        rw [← HC4.out i h1 h2]
        have hBs : B < ((((wr.setCell ⟨B, j * 5, none⟩ (.int .i64 k)).setCell ⟨B, j * 5 + 1, none⟩ (.int .i64 (k + 1))).setCell ⟨B, j * 5 + 2, none⟩ (.int .i64 (k + 1 + 1))).setCell ⟨B, j * 5 + 3, none⟩ (.int .i64 (k + 1 + 1 + 1))).heap.size := by omega
        have := hg.block B hBs (by intro e; injection e; omega)
        simp only [World.cell?, this])
      clear hg hth MP HM4 HT4 HC4 hsz
      go_wp2_with fail
      go_roundw
      case rel => exact ⟨j + 1, _, by go_num, rfl, by omega, by omega, by omega, HM5, HT5, HC5⟩
      case measure => simp [intOf]; omega
    · have c1 : (n : Int) ≤ (j : Int) := by omega
      go_wp2_with fail
      go_ret
      exact ⟨⟨_, rfl, hk0, by omega⟩, HM.out, fun d m _ h => HT.out d m h⟩
set_option maxHeartbeats 400000 in
theorem mark_rowsB (lo hi B : Nat) (now : Int) (rs : List Rw) (w : World) (hlo : lo ≤ B) (hBh : B < hi) (hih : hi ≤ w.heap.size) (hm : rs.length ≤ 1048576) (hl : ∀ m (h : m < rs.length), rs[m].2.2.2.2.length ≤ 1048576) (ht : w.there B 0 (rs.length * 5)) (ho : RwsO hi w B rs) : Calls Tryz.prog 24 #[.agg #[.int .i64 now, .slice (some ⟨B, 0, none⟩) rs.length rs.length], .int .i64 1] w fun e w' => (∃ v : Int, e = .returned (.int .i64 v) ∧ 0 ≤ v ∧ v ≤ 2199027449858) ∧ Mid lo hi w w' ∧ (∀ d m, d < w.heap.size → w.there d 0 m → w'.there d 0 m) := by
  have hB : Below w.heap.size w (w.alloc (.cells #[.int .i64 now, .slice (some ⟨B, 0, none⟩) rs.length rs.length] 31)) := balloc (Below.refl _ _) _
  have HM := hid (mark_rowSB lo hi B rs _ hlo hBh (Nat.le_trans hih hB.size) hm hl (there_below ht (by omega) hB) (ho.below hih hB))
  clear ht ho hl
  go_enter Tryz.func24, Tryz.ntmps24
  go_wp2_with fail
  refine HM.out.mono ?_
  rintro e w1 ⟨⟨v, rfl, hv, hv'⟩, hmid, hth⟩
  have HTH := hid (fun d m (h' : d < w.heap.size) (h : w.there d 0 m) => hth d m (Nat.lt_of_lt_of_le h' hB.size) (there_below h h' hB))
  have HMM := hid (mid_trans (mid_below hB) hmid)
  clear hmid hth
  go_wp2_with fail
  go_ret
  exact ⟨⟨_, rfl, hv, hv'⟩, HMM.out, HTH.out⟩
set_option maxRecDepth 100000 in
set_option maxHeartbeats 2000000 in
theorem mark_store (lo hi hR B T : Nat) (now : Int) (rs : List Rw) (ts : List Tx) (w : World) (hlo : lo ≤ B) (hB1 : B < hR) (hB2 : hR ≤ T) (hTh : T < hi) (hih : hi ≤ w.heap.size) (hm : rs.length ≤ 1048576) (hl : ∀ m (h : m < rs.length), rs[m].2.2.2.2.length ≤ 1048576) (hs : txS ts) (hth : w.there B 0 (rs.length * 5)) (hro : RwsO hR w B rs) (hto : TxsO hi w T ts) : Calls Tryz.prog 9 #[.agg #[.int .i64 now, .slice (some ⟨B, 0, none⟩) rs.length rs.length, .slice (some ⟨T, 0, none⟩) ts.length ts.length], .int .i64 1] w fun e w' => (∃ v : Int, e = .returned (.int .i64 v) ∧ 0 ≤ v) ∧ Mid lo hi w w' := by
  have HR := hid (fun (W : World) (hb : Below w.heap.size w W) => mark_rowsB lo hR B now rs W hlo hB1 (by have := hb.size; omega) hm hl (there_below hth (by omega) hb) (hro.below (by omega) hb))
  have HT := hid (fun (W W' : World) (v : Int) (hb : Below w.heap.size w W) (hd : Mid lo hR W W') (ht : ∀ d m, d < W.heap.size → W.there d 0 m → W'.there d 0 m) (hv0 : 0 ≤ v) (hv1 : v ≤ 2199027449858) => mark_txs lo hi T ts v W' (by omega) hTh (by have := hb.size; have := hd.2.2.2.1; omega) hs hv0 (by omega) ((hto.below (by omega) hih hb).mid hd ht (by have := hb.size; omega) (by have := hb.size; omega) hB2))
  clear hth hro hto hl hs
  generalize rs.length = n at *
  generalize ts.length = tn at *
  have hB0 : Below w.heap.size w (w.alloc (.cells #[.int .i64 now, .slice (some ⟨B, 0, none⟩) n n, .slice (some ⟨T, 0, none⟩) tn tn] 34)) := balloc (Below.refl _ _) _
  have g0 := new_alloc w w.heap.size (.cells #[.int .i64 now, .slice (some ⟨B, 0, none⟩) n n, .slice (some ⟨T, 0, none⟩) tn tn] 34) rfl
  have hsz : w.heap.size < (w.alloc (.cells #[.int .i64 now, .slice (some ⟨B, 0, none⟩) n n, .slice (some ⟨T, 0, none⟩) tn tn] 34)).heap.size := by simp
  go_enter Tryz.func9, Tryz.ntmps9
  go_upto_region 1 with fail
  generalize w.alloc (.cells #[.int .i64 now, .slice (some ⟨B, 0, none⟩) n n, .slice (some ⟨T, 0, none⟩) tn tn] 34) = W0 at *
  obtain ⟨⟨d0, d1, d2⟩, _⟩ := cellk3 g0
  have HR0 := hid (HR.out W0 hB0)
  clear g0 HR
  go_wp2_with fail
  refine HR0.out.mono ?_
  rintro e w1 ⟨⟨v, rfl, hv0, hv1⟩, hmid, hth⟩
  have d2' := mid_cell hmid d2 (.inr (by omega))
  have HT0 := hid (HT.out W0 w1 v hB0 hmid hth hv0 hv1)
  have HM1 := hid (mid_trans (mid_below hB0 : Mid lo hi w W0) (mid_wide hmid (Nat.le_refl _) (by omega)))
  clear d0 d1 d2 HT HR0 hmid hth hB0
  go_wp2_with fail
  refine HT0.out.mono ?_
  rintro e w2 ⟨⟨v2, rfl, hv2⟩, hmid2, _⟩
  have HM2 := hid (mid_trans HM1.out hmid2)
  clear hmid2 HM1 HT0 d2'
  go_wp2_with fail
  go_ret
  exact ⟨⟨_, rfl, hv2⟩, HM2.out⟩
end Go.Proofs.YtkdoigibpaempaaGreatDoor
