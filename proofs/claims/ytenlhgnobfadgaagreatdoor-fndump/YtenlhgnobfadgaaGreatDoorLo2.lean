import Derived.Test.YtenlhgnobfadgaaGreatDoorJ23
import Derived.Deep.RegionHeld3
set_option maxRecDepth 100000
set_option maxHeartbeats 4000000
set_option linter.unusedSimpArgs false
set_option linter.unusedVariables false
namespace Go.Proofs.YtenlhgnobfadgaaGreatDoor
open Go.RowKit
theorem txo_set {w : World} {g o q k : Nat} {u : Value} {l : List ByteArray} (h : TxO w g o l) (hne : q ≠ g) : TxO (w.setCell ⟨q, k, none⟩ u) g o l := h.kept (grown_set w q k u) (by simpa using hne)
theorem spec_l03ReadO (ws : List ByteArray) (g o cap n : Nat) (w : World) (hn : ws.length = n) (hw0 : 0 < n) (hw1 : n ≤ 1048577) (hsz : ∀ x ∈ ws, x.size ≤ 1048576) (hT : TxO w g o ws) : Calls Tryz.prog 21 #[.slice (some ⟨g, o, none⟩) n cap] w fun e w' => RSA w (rso ws) e w' := by
 have HNL := hid hn
 have HSZ := hid hsz
 have HT := hid hT
 have hgl := hT.lt
 clear hT hsz hn
 obtain ⟨x, hx⟩ : ∃ x, x = ws.getD 0 ⟨#[]⟩ := ⟨_, rfl⟩
 have HX := hid hx
 clear hx
 have hni : (0 : Int) < (n : Int) := by omega
 go_enter Tryz.func21, Tryz.ntmps21
 go_wp2_with fail
 have hb0 : Below w.heap.size w ((w.alloc (.cells #[.int .i64 0, .slice none 0 0] 48)).alloc (.cells #[.int .i64 (-1), .slice none 0 0] 48)) := balloc (balloc (Below.refl _ _) _) _
 have g2 := old_alloc (o' := (.cells #[.int .i64 (-1), .slice none 0 0] 48)) (new_alloc w w.heap.size (.cells #[.int .i64 0, .slice none 0 0] 48) rfl)
 have g4 := new_alloc (w.alloc (.cells #[.int .i64 0, .slice none 0 0] 48)) (w.heap.size + 1) (.cells #[.int .i64 (-1), .slice none 0 0] 48) (by simp)
 replace HT := hid (HT.out.kept (grown_all hb0 none) (by simp))
 have hB := hb0
 generalize ((w.alloc (.cells #[.int .i64 0, .slice none 0 0] 48)).alloc (.cells #[.int .i64 (-1), .slice none 0 0] 48)) = W at *
 clear hb0
 go_loopw [5] (fun ti wr => ∃ i : Nat, ti = .int .i64 i ∧ i ≤ 4 ∧ Hid (TxO wr g o ws) ∧ Hid (wr.heap[w.heap.size]? = some (.cells #[.int .i64 0, .slice none 0 0] 48 (0, 0))) ∧ Hid (wr.heap[w.heap.size + 1]? = some (.cells #[.int .i64 (kdi x i), .slice none 0 0] 48 (0, 0))) ∧ Hid (Below w.heap.size w wr)) (fun ti _ => 4 - (intOf ti).toNat)
 case atStart => exact ⟨0, rfl, Nat.zero_le _, HT, hid g2, hid (by rw [show kdi x 0 = -1 by unfold kdi; split <;> simp]; exact g4), hid hB⟩
 case round =>
  clear HT g2 g4 hB
  obtain ⟨i, rfl, hi, HT, G2, G4, HBW⟩ := hrel
  by_cases hlt : i < 4
  ·have c1 : (i : Int) < 4 := by omega
   have hc0 : wr.cell? ⟨g, o, none⟩ = some (.string x) := by
    have h0 : 0 < ws.length := by rw [HNL.out]; exact hw0
    rw [HX.out, List.getD_eq_getElem?_getD, List.getElem?_eq_getElem h0]; exact HT.out.cell 0 h0
   by_cases hk : kdr x = some i
   ·have q0 := kw_same (x := x) (m := i) (by omega) hk
    go_wp2_with fail
    refine wp_region_held_drew (S := (fun w' => w'.cell? ⟨g, o, none⟩ = some (.string x))) (by kernel_rfl) ?_ (fun hHeld => ?_)
    ·exact hc0
    have g2 := G2.out
    have g4 := G4.out
    have hB := HBW.out
    replace g2 : wr.drew.heap[w.heap.size]? = some (.cells #[.int .i64 0, .slice none 0 0] 48 (0, 0)) := g2
    replace g4 : wr.drew.heap[w.heap.size + 1]? = some (.cells #[.int .i64 (kdi x i), .slice none 0 0] 48 (0, 0)) := g4
    replace HT : Hid (TxO wr.drew g o ws) := hid (HT.out.kept (grown_drew (grown_same wr none) 1) (by simp))
    replace hB := bdrew hB
    replace hc0 : wr.drew.cell? ⟨g, o, none⟩ = some (.string x) := hc0
    clear G2 G4 HBW
    generalize wr.drew = z0 at *
    refine tkR ?_ 1 rfl (fun _ _ _ h => h) hHeld ?_ ?_
    rotate_left
    ·intro w hSw; (try dsimp only at hSw); go_simp; try (with_reducible rfl)
    try simp only [sq]
    refine tkR ?_ 4 rfl (fun _ _ _ h => h) hHeld ?_ ?_
    rotate_left
    ·intro w hSw; (try dsimp only at hSw); go_simp; try (with_reducible rfl)
    try simp only [sq]
    refine tkR ?_ 5 rfl (fun _ _ _ h => h) hHeld ?_ ?_
    rotate_left
    ·intro w hSw; (try dsimp only at hSw); go_simp; try (with_reducible rfl)
    try simp only [sq]
    refine tkR ?_ 6 rfl (fun _ _ _ h => h) hHeld ?_ ?_
    rotate_left
    ·intro w hSw; (try dsimp only at hSw); go_simp; try (with_reducible rfl)
    try simp only [sq]
    refine rd1 0 rfl (fun K hK => ?_)
    try simp only [sq]
    go_simp
    go_at_call 55
    refine (names_r _).mono ?_
    rintro e z1 ⟨rfl, hw⟩
    have hnm := names_cell z0 i (by omega)
    rw [← hw] at hnm
    have hb9 : Below z0.heap.size z0 z1 := by rw [hw]; exact balloc (Below.refl _ _) _
    clear hw
    replace hc0 := keepcell hb9 hc0
    replace g2 := keepheap hb9 g2
    replace g4 := keepheap hb9 g4
    replace HT := hid (HT.out.kept (grown_all hb9 none) (by simp))
    replace hB := btrans hB hb9
    have hl0 : z0.heap.size < z1.heap.size := World.block_lt_of_cell? z1 _ hnm
    go_wp2_with fail
    refine hK.out _ _ ?_ (fun hHeld => ?_)
    ·(repeat' apply And.intro) <;> (with_reducible repeat (first | assumption | refine keepset ?_ (by dsimp only; omega) | refine keepdrew ?_ | refine keepcell (by assumption) ?_ | refine keepalloc ?_ _))
    clear hK K
    try simp only [sq]
    clear hb9
    refine tkR ?_ 2 rfl (fun _ _ _ h => h) hHeld ?_ ?_
    rotate_left
    ·intro w hSw; (try dsimp only at hSw); go_simp; try (with_reducible rfl)
    try simp only [sq]
    refine rd1 3 rfl (fun K hK => ?_)
    try simp only [sq]
    go_simp
    refine hK.out _ _ ?_ (fun hHeld => ?_)
    ·(repeat' apply And.intro) <;> (with_reducible repeat (first | assumption | refine keepset ?_ (by dsimp only; omega) | refine keepdrew ?_ | refine keepcell (by assumption) ?_ | refine keepalloc ?_ _))
    clear hK K
    try simp only [sq]
    refine tkR ?_ 7 rfl (fun _ _ _ h => h) hHeld ?_ ?_
    rotate_left
    ·intro w hSw; (try dsimp only at hSw); go_simp; try (with_reducible rfl)
    try simp only [sq]
    refine wpAnyH_done (by kernel_rfl) ?_ _
    obtain ⟨u0', u1', u2', u3'⟩ := cell2g g4
    go_wp2_with fail
    go_roundw
    case rel => exact ⟨i + 1, by go_num, by omega, hid (txo_set HT.out (by omega)), hid (set_far g2 (by omega)), hid (by rw [kdi_hit hk]; exact set2_0s g4), hid (bset hB (by omega) _)⟩
    case measure => simp [intOf]; omega
   ·have q0 := kw_other (x := x) (m := i) (by omega) hk
    go_wp2_with fail
    refine wp_region_held_drew (S := (fun w' => w'.cell? ⟨g, o, none⟩ = some (.string x))) (by kernel_rfl) ?_ (fun hHeld => ?_)
    ·exact hc0
    have g2 := G2.out
    have g4 := G4.out
    have hB := HBW.out
    replace g2 : wr.drew.heap[w.heap.size]? = some (.cells #[.int .i64 0, .slice none 0 0] 48 (0, 0)) := g2
    replace g4 : wr.drew.heap[w.heap.size + 1]? = some (.cells #[.int .i64 (kdi x i), .slice none 0 0] 48 (0, 0)) := g4
    replace HT : Hid (TxO wr.drew g o ws) := hid (HT.out.kept (grown_drew (grown_same wr none) 1) (by simp))
    replace hB := bdrew hB
    replace hc0 : wr.drew.cell? ⟨g, o, none⟩ = some (.string x) := hc0
    clear G2 G4 HBW
    generalize wr.drew = z0 at *
    refine tkR ?_ 1 rfl (fun _ _ _ h => h) hHeld ?_ ?_
    rotate_left
    ·intro w hSw; (try dsimp only at hSw); go_simp; try (with_reducible rfl)
    try simp only [sq]
    refine tkR ?_ 4 rfl (fun _ _ _ h => h) hHeld ?_ ?_
    rotate_left
    ·intro w hSw; (try dsimp only at hSw); go_simp; try (with_reducible rfl)
    try simp only [sq]
    refine tkR ?_ 5 rfl (fun _ _ _ h => h) hHeld ?_ ?_
    rotate_left
    ·intro w hSw; (try dsimp only at hSw); go_simp; try (with_reducible rfl)
    try simp only [sq]
    refine tkR ?_ 6 rfl (fun _ _ _ h => h) hHeld ?_ ?_
    rotate_left
    ·intro w hSw; (try dsimp only at hSw); go_simp; try (with_reducible rfl)
    try simp only [sq]
    refine rd1 0 rfl (fun K hK => ?_)
    try simp only [sq]
    go_simp
    go_at_call 55
    refine (names_r _).mono ?_
    rintro e z1 ⟨rfl, hw⟩
    have hnm := names_cell z0 i (by omega)
    rw [← hw] at hnm
    have hb9 : Below z0.heap.size z0 z1 := by rw [hw]; exact balloc (Below.refl _ _) _
    clear hw
    replace hc0 := keepcell hb9 hc0
    replace g2 := keepheap hb9 g2
    replace g4 := keepheap hb9 g4
    replace HT := hid (HT.out.kept (grown_all hb9 none) (by simp))
    replace hB := btrans hB hb9
    have hl0 : z0.heap.size < z1.heap.size := World.block_lt_of_cell? z1 _ hnm
    go_wp2_with fail
    refine hK.out _ _ ?_ (fun hHeld => ?_)
    ·(repeat' apply And.intro) <;> (with_reducible repeat (first | assumption | refine keepset ?_ (by dsimp only; omega) | refine keepdrew ?_ | refine keepcell (by assumption) ?_ | refine keepalloc ?_ _))
    clear hK K
    try simp only [sq]
    clear hb9
    refine tkR ?_ 2 rfl (fun _ _ _ h => h) hHeld ?_ ?_
    rotate_left
    ·intro w hSw; (try dsimp only at hSw); go_simp; try (with_reducible rfl)
    try simp only [sq]
    refine rd1 3 rfl (fun K hK => ?_)
    try simp only [sq]
    go_simp
    refine hK.out _ _ ?_ (fun hHeld => ?_)
    ·(repeat' apply And.intro) <;> (with_reducible repeat (first | assumption | refine keepset ?_ (by dsimp only; omega) | refine keepdrew ?_ | refine keepcell (by assumption) ?_ | refine keepalloc ?_ _))
    clear hK K
    try simp only [sq]
    refine tkR ?_ 7 rfl (fun _ _ _ h => h) hHeld ?_ ?_
    rotate_left
    ·intro w hSw; (try dsimp only at hSw); go_simp; try (with_reducible rfl)
    try simp only [sq]
    refine wpAnyH_done (by kernel_rfl) ?_ _
    go_wp2_with fail
    go_roundw
    case rel => exact ⟨i + 1, by go_num, by omega, HT, hid g2, hid (by rw [kdi_miss hk]; exact g4), hid hB⟩
    case measure => simp [intOf]; omega
  ·have c1' : ¬ (i : Int) < 4 := by omega
   have hk4 : kdi x i = kdi x 4 := by rw [show i = 4 by omega]
   rw [hk4] at G4
   clear hk4
   by_cases hev : n % 2 = 0
   ·have HN := hid (rso_odd (ws := ws) (by rw [HNL.out]; exact hev) (by rw [HNL.out]; exact hw0))
    have ho : ((n : Int).tmod 2 == 0) = true := by
     rw [show (n : Int).tmod 2 = ((n % 2 : Nat) : Int) from rfl, hev]; rfl
    have k2 := G2.out
    have hB := HBW.out
    obtain ⟨y0, y1, y2, y3⟩ := cell2g k2
    go_wp2_with fail
    have gF := (set2 k2 (.int .i64 0) (.slice none 0 0)).1
    have bF := bset (bset hB (q := w.heap.size) (k := 0) (by omega) (.int .i64 0)) (q := w.heap.size) (k := 1) (by omega) (.slice none 0 0)
    generalize (wr.setCell ⟨w.heap.size, 0, none⟩ (.int .i64 0)).setCell ⟨w.heap.size, 1, none⟩ (.slice none 0 0) = wf at *
    obtain ⟨z0, z1, _, _⟩ := cell2g gF
    exact bodyPost_ret (v := .tuple #[.agg #[(.int .i64 0), (.slice none 0 0)], .bool false]) (by simp [results, Tryz.results21, go_sem, z0, z1]) rfl (rsa_no HN.out bF)
   have ho : ((n : Int).tmod 2 == 0) = false := by
    rw [show (n : Int).tmod 2 = ((n % 2 : Nat) : Int) from rfl, show n % 2 = 1 by omega]; rfl
   by_cases hlong : 121 < n
   ·have HN := hid (rso_long (ws := ws) (by rw [HNL.out]; exact hlong))
    have hl' : (121 : Int) < (n : Int) := by omega
    have ho2 : ((n : Int) % 2 == 0) = false := by rw [beq_eq_false_iff_ne]; omega
    have k2 := G2.out
    have hB := HBW.out
    obtain ⟨y0, y1, y2, y3⟩ := cell2g k2
    go_wp2_with fail
    have gF := (set2 k2 (.int .i64 0) (.slice none 0 0)).1
    have bF := bset (bset hB (q := w.heap.size) (k := 0) (by omega) (.int .i64 0)) (q := w.heap.size) (k := 1) (by omega) (.slice none 0 0)
    generalize (wr.setCell ⟨w.heap.size, 0, none⟩ (.int .i64 0)).setCell ⟨w.heap.size, 1, none⟩ (.slice none 0 0) = wf at *
    obtain ⟨z0, z1, _, _⟩ := cell2g gF
    exact bodyPost_ret (v := .tuple #[.agg #[(.int .i64 0), (.slice none 0 0)], .bool false]) (by simp [results, Tryz.results21, go_sem, z0, z1]) rfl (rsa_no HN.out bF)
   have hl' : (n : Int) ≤ 121 := by omega
   have ho2 : ((n : Int) % 2 == 0) = false := by rw [beq_eq_false_iff_ne]; omega
   have hdec : decide ((121 : Int) < (n : Int)) = false := by rw [decide_eq_false_iff_not]; omega
   obtain ⟨np, hnp1, hnp2⟩ : ∃ np, n ≤ 2 * np + 1 ∧ 2 * np + 1 ≤ n := ⟨n / 2, by omega, by omega⟩
   have g2 := G2.out
   have g4 := G4.out
   have hB := HBW.out
   have hV : w.heap.size + 1 < wr.heap.size := lt_of_block g4
   have HO := hid (fun l => rso_kd (ws := ws) (l := l) HX.out)
   generalize kdi x 4 = kd at *
   clear G2 G4 HBW
   go_wp2_with fail
   clear ho ho2 hdec
   have hV0 : wr.heap.size ≤ wr.heap.size := Nat.le_refl _
   obtain ⟨B0, hB0⟩ : ∃ B0, B0 = wr.heap.size := ⟨_, rfl⟩
   rw [← hB0] at hV
   have HLW : Hid (B0 ≤ wr.heap.size ∧ PtRow wr B0 (.slice none 0 0) []) := hid ⟨by omega, ptrow_nilg _ _⟩
   clear hB0 hV0
   obtain ⟨i0, hi0, hz0, hz1, hz2⟩ := info_parts Tryz.infoP2
   go_loopw [6] (fun ti wq => ∃ j : Nat, ∃ v : Value, ∃ l : List (Int × Int), ti = .int .i64 ((2 * j + 1 : Nat) : Int) ∧ j ≤ np ∧ Hid (l.length = j) ∧ Hid (rdp (ws.drop 1) = (rdp (ws.drop (2 * j + 1))).map (fun r => l ++ r)) ∧ Hid (TxO wq g o ws) ∧ Hid (wq.heap[w.heap.size]? = some (.cells #[.int .i64 0, .slice none 0 0] 48 (0, 0))) ∧ Hid (wq.heap[w.heap.size + 1]? = some (.cells #[.int .i64 kd, v] 48 (0, 0))) ∧ Hid (B0 ≤ wq.heap.size ∧ PtRow wq B0 v l) ∧ Hid (Below w.heap.size w wq)) (fun ti _ => 2 * np + 1 - (intOf ti).toNat)
   case atStart => exact ⟨0, _, [], rfl, Nat.zero_le _, hid rfl, hid (by simp), HT, hid g2, hid g4, HLW, hid hB⟩
   case round =>
    clear HT g2 g4 hB HLW
    obtain ⟨j, v, l, rfl, hj, HLn, HR, HT, G2, G4, HL, HBW⟩ := hrel
    by_cases hlt : j < np
    ·have c1 : ((2 * j + 1 : Nat) : Int) < (n : Int) := by omega
     have c2 : ((2 * j + 1 : Nat) : Int) + 1 < (n : Int) := by omega
     have hi1 : 2 * j + 1 < ws.length := by rw [HNL.out]; omega
     have hi2 : 2 * j + 1 + 1 < ws.length := by rw [HNL.out]; omega
     have hc1 := HT.out.cell (2 * j + 1) hi1
     have hc2 := HT.out.cell (2 * j + 1 + 1) hi2
     have hz1' := HSZ.out _ (List.getElem_mem hi1)
     have hz2' := HSZ.out _ (List.getElem_mem hi2)
     have hdr : rdp (ws.drop 1) = (rdp (ws[2 * j + 1] :: ws[2 * j + 1 + 1] :: ws.drop (2 * (j + 1) + 1))).map (fun r => l ++ r) := by
      rw [HR.out, drop2s hi2]
      rfl
     generalize ws[2 * j + 1] = x1 at *
     generalize ws[2 * j + 1 + 1] = x2 at *
     have R1 := hid (fun w => spec_ri x1 hz1' w)
     have R2 := hid (fun w => spec_ri x2 hz2' w)
     have HDR := hid hdr
     clear hdr HR hi1 hi2 hz1' hz2'
     have hgl2 := HT.out.lt
     cases hb : (riB x1 && riB x2)
     ·have HN := hid (rso_rdp (ws := ws) (by
       rw [HDR.out, rdp_no (by cases h1 : riB x1 <;> cases h2 : riB x2 <;> simp_all)]; rfl))
      have k2 := G2.out
      have hB := HBW.out
      obtain ⟨y0, y1, y2, y3⟩ := cell2g k2
      generalize riN x1 = a1 at *
      generalize riN x2 = a2 at *
      generalize riB x1 = b1 at *
      generalize riB x2 = b2 at *
      obtain ⟨rfl⟩ | ⟨rfl, rfl⟩ : b1 = false ∨ (b1 = true ∧ b2 = false) := by cases b1 <;> cases b2 <;> simp_all
      ·go_wp2_with fail
       refine (R1.out _).mono ?_
       rintro e V1 ⟨rfl, hw⟩
       replace hw := hw.symm
       subst hw
       go_wp2_with fail
       refine (R2.out _).mono ?_
       rintro e V1 ⟨rfl, hw⟩
       replace hw := hw.symm
       subst hw
       go_wp2_with fail
       have gF := (set2 k2 (.int .i64 0) (.slice none 0 0)).1
       have bF := bset (bset hB (q := w.heap.size) (k := 0) (by omega) (.int .i64 0)) (q := w.heap.size) (k := 1) (by omega) (.slice none 0 0)
       generalize (wr.setCell ⟨w.heap.size, 0, none⟩ (.int .i64 0)).setCell ⟨w.heap.size, 1, none⟩ (.slice none 0 0) = wf at *
       obtain ⟨z0, z1, _, _⟩ := cell2g gF
       exact bodyPost_ret (v := .tuple #[.agg #[(.int .i64 0), (.slice none 0 0)], .bool false]) (by simp [results, Tryz.results21, go_sem, z0, z1]) rfl (rsa_no HN.out bF)
      ·go_wp2_with fail
       refine (R1.out _).mono ?_
       rintro e V1 ⟨rfl, hw⟩
       replace hw := hw.symm
       subst hw
       go_wp2_with fail
       refine (R2.out _).mono ?_
       rintro e V1 ⟨rfl, hw⟩
       replace hw := hw.symm
       subst hw
       go_wp2_with fail
       have gF := (set2 k2 (.int .i64 0) (.slice none 0 0)).1
       have bF := bset (bset hB (q := w.heap.size) (k := 0) (by omega) (.int .i64 0)) (q := w.heap.size) (k := 1) (by omega) (.slice none 0 0)
       generalize (wr.setCell ⟨w.heap.size, 0, none⟩ (.int .i64 0)).setCell ⟨w.heap.size, 1, none⟩ (.slice none 0 0) = wf at *
       obtain ⟨z0, z1, _, _⟩ := cell2g gF
       exact bodyPost_ret (v := .tuple #[.agg #[(.int .i64 0), (.slice none 0 0)], .bool false]) (by simp [results, Tryz.results21, go_sem, z0, z1]) rfl (rsa_no HN.out bF)
     ·simp only [Bool.and_eq_true] at hb
      have hr2 : rdp (ws.drop 1) = (rdp (ws.drop (2 * (j + 1) + 1))).map (fun r => (l ++ [(riN x1, riN x2)]) ++ r) := by
       rw [HDR.out, rdp_step hb.1 hb.2]
       cases rdp (ws.drop (2 * (j + 1) + 1)) with
       | none => rfl
       | some r => simp
      have HR2 := hid hr2
      rw [hb.1] at R1
      rw [hb.2] at R2
      generalize riN x1 = a1 at *
      generalize riN x2 = a2 at *
      clear hr2 HDR hb
      have k2 := G2.out
      have k4 := G4.out
      have hB := HBW.out
      have hrow := HL.out.2
      have hsz := HL.out.1
      have hown := hrow
      unfold PtRow at hown
      have hll := HLn.out
      have hv4 : some (w.heap.size + 1) ≠ v.ownBlock := fun e => absurd (hown.lt _ e.symm).1 (by omega)
      have hv2 : some w.heap.size ≠ v.ownBlock := fun e => absurd (hown.lt _ e.symm).1 (by omega)
      have hvg : some g ≠ v.ownBlock := fun e => absurd (hown.lt _ e.symm).1 (by omega)
      clear G2 G4 HBW HL
      obtain ⟨r80, r81, _, r8f⟩ := cell2g k4
      go_wp2_with fail
      refine (R1.out _).mono ?_
      rintro e V1 ⟨rfl, hw⟩
      replace hw := hw.symm
      subst hw
      go_wp2_with fail
      refine (R2.out _).mono ?_
      rintro e V1 ⟨rfl, hw⟩
      replace hw := hw.symm
      subst hw
      go_wp2_with (at_builtin; refine wpList_append_own _ rfl (.tmp 67) (.tmp 71) 46 rfl B0 91 i0 _ 2 16 Tryz.underlying46 hi0 hz0 hz1 hz2 rfl (by decide) _ _ _ rfl (hown.alloc _) ⟨wr.heap.size, 0, none⟩ 1 1 [.int .i64 a1, .int .i64 a2] rfl rfl (World.news_of_block (cs := #[.int .i64 a1, .int .i64 a2]) (t := 91) (fr := (0, 0)) (heap_alloc_new wr _)) (by simp [Value.oneCell']) (by unfold maxLen; omega) (by omega) (by simp; omega) ?_; intro v' w2 hown' hgrow hat; have hrow' := row_self hown'; obtain ⟨g', cap', rfl, hg', hcp', hpo⟩ := hrow'.ownG (by simp); have m4 := (hgrow.block (w.heap.size + 1) (by have := lt_of_block k4; simp; omega) hv4).trans (old_alloc k4); have m2 := (hgrow.block w.heap.size (by have := lt_of_block k2; simp; omega) hv2).trans (old_alloc k2); obtain ⟨t80, t81, t8f, t8g⟩ := cell2g m4)
      have hlt2 := lt_of_block m4
      have hgs := hgrow.size
      have hb2 : Below w.heap.size w w2 := (balloc hB _).grown hgrow (by have := lt_of_block k2; simp; omega) (fun k hk => by have := (hown.lt k hk).1; omega)
      have hrow2 := World.ownsRow.kept hrow' (grown_set w2 (w.heap.size + 1) 1 (.slice (some ⟨g', 0, none⟩) (l ++ [(a1, a2)]).length cap')) (Or.inr (by simp [Value.ownBlock]; omega))
      have e2 : (l ++ [(a1, a2)]).length = j + 1 := by rw [List.length_append, hll]; rfl
      rw [e2] at hrow2
      have hT2 : TxO w2 g o ws := (HT.out.kept (grown_all (balloc (Below.refl _ wr) (.cells #[.int .i64 a1, .int .i64 a2] 91)) none) (by simp)).kept hgrow hvg.symm
      go_roundw
      case rel => exact ⟨j + 1, _, l ++ [(a1, a2)], by go_num, by omega, hid (by simp; exact hll), HR2, hid (txo_set hT2 (by omega)), hid (set_far m2 (by omega)), hid (set_at m4), hid ⟨by simp at hgs ⊢; omega, by unfold PtRow; rw [e2]; exact hrow2⟩, hid (bset hb2 (by omega) _)⟩
      case measure => simp [intOf]; omega
    ·obtain rfl : np = j := by omega
     have hr : rdp (ws.drop 1) = some l := by
      rw [HR.out, List.drop_of_length_le (by rw [HNL.out]; omega)]
      simp [rdp]
     have hln := HLn.out
     have c1 : (n : Int) ≤ ((2 * np + 1 : Nat) : Int) := by omega
     obtain ⟨ao, cp, rfl, hcap, hP⟩ := HL.out.2.pts
     have O1 := hid (fun w' (hw : Pts w' ao l) => spec_ShapeOk kd ao cp l w' (by omega) hcap hw)
     have k2 := G2.out
     have k4 := G4.out
     rw [hln] at O1 k4
     obtain ⟨r80, r81, _, r8f⟩ := cell2g k4
     have hso := HO.out l hr
     cases hk : shok kd l
     ·have HN := hid (show rso ws = none by rw [hso, hk]; rfl)
      rw [hk] at O1
      have hB := HBW.out
      clear hr HR HO HBW hso
      go_wp2_with fail
      refine (O1.out _ hP).mono ?_
      rintro e V1 ⟨rfl, hcl⟩
      replace k2 := keepheap hcl k2
      replace hB := btrans hB hcl
      obtain ⟨y0, y1, y2, y3⟩ := cell2g k2
      go_wp2_with fail
      have gF := (set2 k2 (.int .i64 0) (.slice none 0 0)).1
      have bF := bset (bset hB (q := w.heap.size) (k := 0) (by omega) (.int .i64 0)) (q := w.heap.size) (k := 1) (by omega) (.slice none 0 0)
      generalize (V1.setCell ⟨w.heap.size, 0, none⟩ (.int .i64 0)).setCell ⟨w.heap.size, 1, none⟩ (.slice none 0 0) = wf at *
      obtain ⟨z0, z1, _, _⟩ := cell2g gF
      exact bodyPost_ret (v := .tuple #[.agg #[(.int .i64 0), (.slice none 0 0)], .bool false]) (by simp [results, Tryz.results21, go_sem, z0, z1]) rfl (rsa_no HN.out bF)
     ·have HY := hid (show rso ws = some (kd, l) by rw [hso, hk]; rfl)
      rw [hk] at O1
      have hB := HBW.out
      have hrow := HL.out.2
      rw [hln] at hrow
      have hsz := HL.out.1
      have hpos := (kind_natr hk).2.1
      clear hr HR HO HBW HL G2 G4 hso
      go_wp2_with fail
      refine (O1.out _ hP).mono ?_
      rintro e V1 ⟨rfl, hcl⟩
      replace k2 := keepheap hcl k2
      replace k4 := keepheap hcl k4
      replace hB := btrans hB hcl
      replace hrow := hrow.bel hcl
      clear hcl hP r80 r81 r8f
      obtain ⟨r80, r81, _, r8f⟩ := cell2g k4
      obtain ⟨y0, y1, y2, y3⟩ := cell2g k2
      clear hln
      go_wp2_with fail
      have gF := (set2 k2 (.int .i64 kd) (.slice ao np cp)).1
      have bF := bset (bset hB (q := w.heap.size) (k := 0) (by omega) (.int .i64 kd)) (q := w.heap.size) (k := 1) (by omega) (.slice ao np cp)
      have rF := (hrow.set (q := w.heap.size) (k := 0) (u := .int .i64 kd) (by omega)).set (q := w.heap.size) (k := 1) (u := .slice ao np cp) (by omega)
      generalize (V1.setCell ⟨w.heap.size, 0, none⟩ (.int .i64 kd)).setCell ⟨w.heap.size, 1, none⟩ (.slice ao np cp) = wf at *
      obtain ⟨z0, z1, _, _⟩ := cell2g gF
      exact bodyPost_ret (v := .tuple #[.agg #[(.int .i64 kd), (.slice ao np cp)], .bool true]) (by simp [results, Tryz.results21, go_sem, z0, z1]) rfl (rsa_row HY.out bF rF (by omega) hpos)
end Go.Proofs.YtenlhgnobfadgaaGreatDoor
