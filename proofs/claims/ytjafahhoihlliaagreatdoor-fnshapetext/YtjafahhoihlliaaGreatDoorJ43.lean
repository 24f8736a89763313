/- Texts of stores, joined: Put2. -/
import Derived.Test.YtjafahhoihlliaaGreatDoorJ36
import Derived.Test.YtjafahhoihlliaaGreatDoorJ24
namespace Go.Proofs.YtjafahhoihlliaaGreatDoor
open Go.RowKit
set_option linter.unusedVariables false
set_option linter.unusedSimpArgs false
def txB (k : Int) (ps : List (Int × Int)) (i : Nat) : ByteArray := ⟨(shl k ps i).toArray⟩
theorem txB_next (k : Int) (ps : List (Int × Int)) (i : Nat) : txB k ps i ++ strOfNums (G 5 (stX ps i)) ++ strOfNums (G 5 (stY ps i)) = txB k ps (i + 1) := by
  apply ByteArray.ext
  rw [ByteArray.data_append, ByteArray.data_append]
  apply Array.ext'
  simp [txB, shl, bodyT, tx]
theorem txB_first (k : Int) (ps : List (Int × Int)) (h0 : 0 ≤ k) (h1 : k ≤ 3) : strOfNums [k] ++ strOfNums (G 5 ps.length) = txB k ps 0 := by
  apply ByteArray.ext
  rw [ByteArray.data_append]
  apply Array.ext'
  have hk : k = 0 ∨ k = 1 ∨ k = 2 ∨ k = 3 := by omega
  rcases hk with rfl | rfl | rfl | rfl <;> simp [txB, shl, bodyT, tx, kb, strOfNums]
theorem conv1 (W : World) (g : Nat) (k : Int) (h : W.cell? ⟨g, 0, none⟩ = some (.int .u8 k)) : (convert 22 9 (.slice (some ⟨g, 0, none⟩) 1 1)).run Tryz.prog W = .ok (.string (strOfNums [k])) W := by
  refine run_convert_bytes_arg _ 22 5 Tryz.underlying22 Tryz.underlying5 g 0 1 1 [k] rfl (fun i hi => ?_) 9 Tryz.underlying9
  obtain rfl : i = 0 := by omega
  simpa using h
set_option maxRecDepth 100000 in
set_option maxHeartbeats 4000000 in
theorem spec_PutShape (k : Int) (a : Option Addr) (cap : Nat) (ps : List (Int × Int)) (w : World) (hm : ps.length ≤ 1099511627776) (hc : ps.length ≤ cap) (h : Pts w a ps) : Calls Tryz.prog 9 #[shv k a ps.length cap] w fun e w' => e = .returned (.string (psT k ps)) ∧ Below w.heap.size w w' := by
  have HP := hid h
  have O1 := hid (fun w' (hw : Pts w' a ps) => spec_ShapeOk k a cap ps w' hm hc hw)
  have hBX : Below w.heap.size w (w.alloc (.cells #[.int .i64 k, .slice a ps.length cap] 26)) := balloc (Below.refl _ _) _
  clear h
  unfold psT
  cases hs : shok k ps
  · rw [if_neg (by simp)]
    rw [hs] at O1
    clear hs
    go_enter Tryz.func9, Tryz.ntmps9
    go_wp2_with fail
    refine (O1.out _ (HP.out.below hBX)).mono ?_
    rintro e u1 ⟨rfl, hu1⟩
    go_wp2_with fail
    go_ret
    exact ⟨rfl, btrans hBX hu1⟩
  rw [if_pos rfl]
  have hk : 0 ≤ k ∧ k ≤ 3 ∧ 0 < ps.length ∧ ps.length ≤ 60 := by rcases shok_kind hs with h | h | h | h <;> omega
  obtain ⟨hk0, hk1, hn0, hn6⟩ := hk
  have HF := hid (fun i => fold_at (shok_allok hs) i)
  have HI := hid (fun i => allok_in (shok_allok hs) i)
  have TF := hid (txB_first k ps hk0 hk1)
  have TN := hid (fun i => txB_next k ps i)
  have hT : (⟨(shl k ps ps.length).toArray⟩ : ByteArray) = txB k ps ps.length := rfl
  rw [hT]
  clear hT
  have CP := hid (fun w' => spec_put ps.length (by omega) w')
  rw [hs] at O1
  clear hs
  have q0 : (w.alloc (.cells #[.int .i64 k, .slice a ps.length cap] 26)).cell? ⟨w.heap.size, 0, none⟩ = some (.int .i64 k) := newcell _ _ _ _ _ _ rfl rfl
  have q1 : (w.alloc (.cells #[.int .i64 k, .slice a ps.length cap] 26)).cell? ⟨w.heap.size, 1, none⟩ = some (.slice a ps.length cap) := newcell _ _ _ _ _ _ rfl rfl
  have hcv : k % 256 = k := by omega
  have hwk : IntKind.u8.wrap k = k := by
    have hk : k = 0 ∨ k = 1 ∨ k = 2 ∨ k = 3 := by omega
    rcases hk with rfl | rfl | rfl | rfl <;> rfl
  have hcat0 : ¬ 9223372036854775807 < (strOfNums [k]).size + (strOfNums (G 5 ps.length)).size := by
    have h1 := put_size ps.length
    rw [strOfNums_size]; simp; omega
  go_enter Tryz.func9, Tryz.ntmps9
  go_wp2_with fail
  refine (O1.out _ (HP.out.below hBX)).mono ?_
  rintro e u1 ⟨rfl, hu1⟩
  replace q0 := keepcell hu1 q0
  replace q1 := keepcell hu1 q1
  replace hBX := btrans hBX hu1
  clear hu1
  go_wp2_with fail
  go_cut [3] (fun t3 wx => t3 = .string (txB k ps 0) ∧ wx.cell? ⟨w.heap.size, 1, none⟩ = some (.slice a ps.length cap) ∧ Below w.heap.size w wx)
  case first =>
    have hBd : Below w.heap.size w u1.drew := bdrew hBX
    refine wp_region_held_drew (S := (fun w' => w'.cell? ⟨w.heap.size, 0, none⟩ = some (.int .i64 k) ∧ w'.cell? ⟨w.heap.size, 1, none⟩ = some (.slice a ps.length cap))) (by kernel_rfl) ?_ (fun hHeld => ?_)
    · exact ⟨q0, q1⟩
    generalize u1.drew = V at *
    clear q0 q1 hBX
    refine wpAnyH_take (i := 0) (v := ?_) rfl (by kernel_rfl) (by kernel_rfl) (by kernel_rfl) (fun _ _ _ h => h) (Or.inl ⟨by rfl, ?_⟩) hHeld ?_
    rotate_left
    · intro w hSw; (try dsimp only at hSw); go_simp; try (with_reducible rfl)
    try simp only [sq]
    refine wpAnyH_take (i := 1) (v := ?_) rfl (by kernel_rfl) (by kernel_rfl) (by kernel_rfl) (fun _ _ _ h => h) (Or.inl ⟨by rfl, ?_⟩) hHeld ?_
    rotate_left
    · intro w hSw; (try dsimp only at hSw); go_simp; try (with_reducible rfl)
    try simp only [sq]
    refine wpAnyH_take (i := 2) (v := ?_) rfl (by kernel_rfl) (by kernel_rfl) (by kernel_rfl) (fun _ _ _ h => h) (Or.inl ⟨by rfl, ?_⟩) hHeld ?_
    rotate_left
    · intro w hSw; (try dsimp only at hSw); go_simp; try (with_reducible rfl)
    try simp only [sq]
    refine wpAnyH_take (i := 5) (v := ?_) rfl (by kernel_rfl) (by kernel_rfl) (by kernel_rfl) (fun _ _ _ h => h) (Or.inl ⟨by rfl, ?_⟩) hHeld ?_
    rotate_left
    · intro w hSw; (try dsimp only at hSw); go_simp; try (with_reducible rfl)
    try simp only [sq]
    refine wpAnyH_take (i := 6) (v := ?_) rfl (by kernel_rfl) (by kernel_rfl) (by kernel_rfl) (fun _ _ _ h => h) (Or.inl ⟨by rfl, ?_⟩) hHeld ?_
    rotate_left
    · intro w hSw; (try dsimp only at hSw); go_simp; try (with_reducible rfl)
    try simp only [sq]
    refine wpAnyH_take (i := 7) (v := ?_) rfl (by kernel_rfl) (by kernel_rfl) (by kernel_rfl) (fun _ _ _ h => h) (Or.inl ⟨by rfl, ?_⟩) hHeld ?_
    rotate_left
    · intro w hSw; (try dsimp only at hSw); go_simp; try (with_reducible rfl)
    try simp only [sq]
    refine wpAnyH_ready (rs := [3, 8]) (by kernel_rfl) (by simp) ?_
    refine (AllReadyH.cons rfl (fun K hK => ?_) (AllReadyH.cons rfl (fun K hK => ?_) AllReadyH.nil))
    · skip
      try simp only [sq]
      go_simp
      refine hK.out _ _ ?_ (fun hHeld => ?_)
      · exact ⟨keepalloc hHeld.1 _, keepalloc hHeld.2 _⟩
      clear hK K
      try simp only [sq]
      refine wpAnyH_ready (rs := [4, 8]) (by kernel_rfl) (by simp) ?_
      refine (AllReadyH.cons rfl (fun K hK => ?_) (AllReadyH.cons rfl (fun K hK => ?_) AllReadyH.nil))
      · skip
        have hcvx := conv1 (V.alloc (.cells #[.int .u8 k] 5)) V.heap.size k (newcell _ _ _ _ _ _ rfl rfl)
        try simp only [sq]
        go_simp
        refine hK.out _ _ ?_ (fun hHeld => ?_)
        · exact hHeld
        clear hK K
        try simp only [sq]
        refine wpAnyH_ready (rs := [8]) (by kernel_rfl) (by simp) ?_
        refine (AllReadyH.cons rfl (fun K hK => ?_) AllReadyH.nil)
        try simp only [sq]
        go_simp
        (go_at_call 31; refine (CP.out _).mono ?_; rintro e m1 ⟨rfl, hm1⟩)
        go_wp2_with fail
        refine hK.out _ _ ?_ (fun hHeld => ?_)
        · exact ⟨keepcell hm1 hHeld.1, keepcell hm1 hHeld.2⟩
        clear hK K
        try simp only [sq]
        refine wpAnyH_take (i := 9) (v := ?_) rfl (by kernel_rfl) (by kernel_rfl) (by kernel_rfl) (fun _ _ _ h => h) (Or.inl ⟨by rfl, ?_⟩) hHeld ?_
        rotate_left
        · intro w hSw; (try dsimp only at hSw); go_simp; try (with_reducible rfl)
        try simp only [sq]
        refine wpAnyH_take (i := 10) (v := ?_) rfl (by kernel_rfl) (by kernel_rfl) (by kernel_rfl) (fun _ _ _ h => h) (Or.inl ⟨by rfl, ?_⟩) hHeld ?_
        rotate_left
        · intro w hSw; (try dsimp only at hSw); go_simp; try (with_reducible rfl)
        try simp only [sq]
        refine wpAnyH_done (by kernel_rfl) ?_ _
        go_wp2_with fail
        go_meet
        exact ⟨by first | rw [TF.out] | simp [TF.out], hHeld.2, btrans (balloc hBd _) hm1⟩
      · skip
        try simp only [sq]
        go_simp
        (go_at_call 31; refine (CP.out _).mono ?_; rintro e m1 ⟨rfl, hm1⟩)
        go_wp2_with fail
        refine hK.out _ _ ?_ (fun hHeld => ?_)
        · exact ⟨keepcell hm1 hHeld.1, keepcell hm1 hHeld.2⟩
        clear hK K
        try simp only [sq]
        refine wpAnyH_ready (rs := [4]) (by kernel_rfl) (by simp) ?_
        refine (AllReadyH.cons rfl (fun K hK => ?_) AllReadyH.nil)
        have hcvx := conv1 m1 V.heap.size k (keepcell hm1 (newcell _ _ _ _ _ _ rfl rfl))
        try simp only [sq]
        go_simp
        refine hK.out _ _ ?_ (fun hHeld => ?_)
        · exact hHeld
        clear hK K
        try simp only [sq]
        refine wpAnyH_take (i := 9) (v := ?_) rfl (by kernel_rfl) (by kernel_rfl) (by kernel_rfl) (fun _ _ _ h => h) (Or.inl ⟨by rfl, ?_⟩) hHeld ?_
        rotate_left
        · intro w hSw; (try dsimp only at hSw); go_simp; try (with_reducible rfl)
        try simp only [sq]
        refine wpAnyH_take (i := 10) (v := ?_) rfl (by kernel_rfl) (by kernel_rfl) (by kernel_rfl) (fun _ _ _ h => h) (Or.inl ⟨by rfl, ?_⟩) hHeld ?_
        rotate_left
        · intro w hSw; (try dsimp only at hSw); go_simp; try (with_reducible rfl)
        try simp only [sq]
        refine wpAnyH_done (by kernel_rfl) ?_ _
        go_wp2_with fail
        go_meet
        exact ⟨by first | rw [TF.out] | simp [TF.out], hHeld.2, btrans (balloc hBd _) hm1⟩
    · skip
      try simp only [sq]
      go_simp
      (go_at_call 31; refine (CP.out _).mono ?_; rintro e m1 ⟨rfl, hm1⟩)
      go_wp2_with fail
      refine hK.out _ _ ?_ (fun hHeld => ?_)
      · exact ⟨keepcell hm1 hHeld.1, keepcell hm1 hHeld.2⟩
      clear hK K
      try simp only [sq]
      refine wpAnyH_ready (rs := [3]) (by kernel_rfl) (by simp) ?_
      refine (AllReadyH.cons rfl (fun K hK => ?_) AllReadyH.nil)
      try simp only [sq]
      go_simp
      refine hK.out _ _ ?_ (fun hHeld => ?_)
      · exact ⟨keepalloc hHeld.1 _, keepalloc hHeld.2 _⟩
      clear hK K
      try simp only [sq]
      refine wpAnyH_ready (rs := [4]) (by kernel_rfl) (by simp) ?_
      refine (AllReadyH.cons rfl (fun K hK => ?_) AllReadyH.nil)
      have hcvx := conv1 (m1.alloc (.cells #[.int .u8 k] 5)) m1.heap.size k (newcell _ _ _ _ _ _ rfl rfl)
      try simp only [sq]
      go_simp
      refine hK.out _ _ ?_ (fun hHeld => ?_)
      · exact hHeld
      clear hK K
      try simp only [sq]
      refine wpAnyH_take (i := 9) (v := ?_) rfl (by kernel_rfl) (by kernel_rfl) (by kernel_rfl) (fun _ _ _ h => h) (Or.inl ⟨by rfl, ?_⟩) hHeld ?_
      rotate_left
      · intro w hSw; (try dsimp only at hSw); go_simp; try (with_reducible rfl)
      try simp only [sq]
      refine wpAnyH_take (i := 10) (v := ?_) rfl (by kernel_rfl) (by kernel_rfl) (by kernel_rfl) (fun _ _ _ h => h) (Or.inl ⟨by rfl, ?_⟩) hHeld ?_
      rotate_left
      · intro w hSw; (try dsimp only at hSw); go_simp; try (with_reducible rfl)
      try simp only [sq]
      refine wpAnyH_done (by kernel_rfl) ?_ _
      go_wp2_with fail
      go_meet
      exact ⟨by first | rw [TF.out] | simp [TF.out], hHeld.2, balloc (btrans hBd hm1) _⟩
  case rest =>
    obtain ⟨rfl, r1, hB1⟩ := hcut
    clear q0 q1 hBX
    go_wp2_with fail
    go_loopw [3, 4, 5, 6] (fun t3 t4 t5 ti wr => ∃ i : Nat, ti = .int .i64 i ∧ i ≤ ps.length ∧ t3 = .string (txB k ps i) ∧ t4 = .int .i64 (prv ps i).1 ∧ t5 = .int .i64 (prv ps i).2 ∧ wr.cell? ⟨w.heap.size, 1, none⟩ = some (.slice a ps.length cap) ∧ Hid (Below w.heap.size w wr)) (fun _ _ _ ti _ => ps.length - (intOf ti).toNat)
    case atStart => exact ⟨0, rfl, Nat.zero_le _, rfl, rfl, rfl, r1, hid hB1⟩
    case round =>
      clear r1 hB1
      obtain ⟨i, rfl, hi, rfl, rfl, rfl, r1, HB⟩ := hrel
      by_cases hlt : i < ps.length
      · have c1 : (i : Int) < (ps.length : Int) := by omega
        obtain ⟨bb, off, rfl, hbs, hp⟩ : ∃ b off, a = some ⟨b, off, none⟩ ∧ b < w.heap.size ∧ PtsAt w b off ps := by
          rcases HP.out with h | h
          · rw [h] at hlt; simp at hlt
          · exact h
        obtain ⟨d0, d1⟩ := hp.below hbs HB.out i hlt
        obtain ⟨e1, f1, e2, f2, g1, g2⟩ := HF.out i hlt
        obtain ⟨i1, i2⟩ := HI.out i hlt
        have htn := TN.out i
        have hpn : prv ps (i + 1) = ((ps.getD i (0, 0)).1, (ps.getD i (0, 0)).2) := rfl
        have HTN := hid htn
        have HPN := hid hpn
        clear hp htn hpn
        generalize (ps.getD i (0, 0)).1 = x at *
        generalize (ps.getD i (0, 0)).2 = y at *
        generalize (prv ps i).1 = px at *
        generalize (prv ps i).2 = py at *
        generalize stX ps i = n1 at *
        generalize stY ps i = n2 at *
        have htb : (txB k ps i).size ≤ 10 * i + 6 := by have := shl_len k ps i; simpa [txB, ByteArray.size] using this
        have hs1' := put_size n1
        have hs2' := put_size n2
        generalize txB k ps i = tb at *
        have hcat1 : ¬ 9223372036854775807 < tb.size + (strOfNums (G 5 n1)).size := by omega
        have hcat2 : ¬ 9223372036854775807 < tb.size + (strOfNums (G 5 n1)).size + (strOfNums (G 5 n2)).size := by omega
        clear hs1' hs2' htb
        have hd1 : -200000 ≤ x - px ∧ x - px ≤ 200000 := by unfold In at *; omega
        have hd2 : -200000 ≤ y - py ∧ y - py ≤ 200000 := by unfold In at *; omega
        have hw1 : IntKind.i64.wrap (x - px) = x - px := by rw [IntKind.wrap_i64]; omega
        have hw2 : IntKind.i64.wrap (y - py) = y - py := by rw [IntKind.wrap_i64]; omega
        have F1 := hid (fun w' => spec_fold (x - px) hd1.1 hd1.2 w')
        have F2 := hid (fun w' => spec_fold (y - py) hd2.1 hd2.2 w')
        rw [e1] at F1
        rw [e2] at F2
        have U1 := hid (fun w' => spec_put n1 f1 w')
        have U2 := hid (fun w' => spec_put n2 f2 w')
        clear e1 e2 hd1 hd2
        go_wp2_with fail
        have m0 : (wr.alloc (.cells #[.int .i64 x, .int .i64 y] 44)).cell? ⟨wr.heap.size, 0, none⟩ = some (.int .i64 x) := newcell _ _ _ _ _ _ rfl rfl
        have m1 : (wr.alloc (.cells #[.int .i64 x, .int .i64 y] 44)).cell? ⟨wr.heap.size, 1, none⟩ = some (.int .i64 y) := newcell _ _ _ _ _ _ rfl rfl
        have ra := keepalloc r1 (.cells #[.int .i64 x, .int .i64 y] 44)
        have hBa := balloc HB.out (.cells #[.int .i64 x, .int .i64 y] 44)
        clear r1 HB
        generalize wr.alloc (.cells #[.int .i64 x, .int .i64 y] 44) = V at *
        generalize wr.heap.size = p7 at *
        refine wp_region_held_drew (S := (fun w' => w'.cell? ⟨p7, 0, none⟩ = some (.int .i64 x) ∧ w'.cell? ⟨p7, 1, none⟩ = some (.int .i64 y) ∧ w'.cell? ⟨w.heap.size, 1, none⟩ = some (.slice (some ⟨bb, off, none⟩) ps.length cap))) (by kernel_rfl) ?_ (fun hHeld => ?_)
        · (repeat' apply And.intro) <;> (repeat (first | with_reducible assumption | with_reducible refine keepdrew ?_ | with_reducible refine keepcell (by with_reducible assumption) ?_ | with_reducible refine keepalloc ?_ _))
        refine wpAnyH_take (i := 0) (v := ?_) rfl (by kernel_rfl) (by kernel_rfl) (by kernel_rfl) (fun _ _ _ h => h) (Or.inl ⟨by rfl, ?_⟩) hHeld ?_
        rotate_left
        · intro w hSw; (try dsimp only at hSw); go_simp; try (with_reducible rfl)
        try simp only [sq]
        refine wpAnyH_take (i := 1) (v := ?_) rfl (by kernel_rfl) (by kernel_rfl) (by kernel_rfl) (fun _ _ _ h => h) (Or.inl ⟨by rfl, ?_⟩) hHeld ?_
        rotate_left
        · intro w hSw; (try dsimp only at hSw); go_simp; try (with_reducible rfl)
        try simp only [sq]
        refine wpAnyH_take (i := 2) (v := ?_) rfl (by kernel_rfl) (by kernel_rfl) (by kernel_rfl) (fun _ _ _ h => h) (Or.inl ⟨by rfl, ?_⟩) hHeld ?_
        rotate_left
        · intro w hSw; (try dsimp only at hSw); go_simp; try (with_reducible rfl)
        try simp only [sq]
        refine wpAnyH_take (i := 3) (v := ?_) rfl (by kernel_rfl) (by kernel_rfl) (by kernel_rfl) (fun _ _ _ h => h) (Or.inl ⟨by rfl, ?_⟩) hHeld ?_
        rotate_left
        · intro w hSw; (try dsimp only at hSw); go_simp; try (with_reducible rfl)
        try simp only [sq]
        refine wpAnyH_take (i := 4) (v := ?_) rfl (by kernel_rfl) (by kernel_rfl) (by kernel_rfl) (fun _ _ _ h => h) (Or.inl ⟨by rfl, ?_⟩) hHeld ?_
        rotate_left
        · intro w hSw; (try dsimp only at hSw); go_simp; try (with_reducible rfl)
        try simp only [sq]
        refine wpAnyH_take (i := 8) (v := ?_) rfl (by kernel_rfl) (by kernel_rfl) (by kernel_rfl) (fun _ _ _ h => h) (Or.inl ⟨by rfl, ?_⟩) hHeld ?_
        rotate_left
        · intro w hSw; (try dsimp only at hSw); go_simp; try (with_reducible rfl)
        try simp only [sq]
        refine wpAnyH_take (i := 9) (v := ?_) rfl (by kernel_rfl) (by kernel_rfl) (by kernel_rfl) (fun _ _ _ h => h) (Or.inl ⟨by rfl, ?_⟩) hHeld ?_
        rotate_left
        · intro w hSw; (try dsimp only at hSw); go_simp; try (with_reducible rfl)
        try simp only [sq]
        refine wpAnyH_take (i := 10) (v := ?_) rfl (by kernel_rfl) (by kernel_rfl) (by kernel_rfl) (fun _ _ _ h => h) (Or.inl ⟨by rfl, ?_⟩) hHeld ?_
        rotate_left
        · intro w hSw; (try dsimp only at hSw); go_simp; try (with_reducible rfl)
        try simp only [sq]
        refine wpAnyH_take (i := 11) (v := ?_) rfl (by kernel_rfl) (by kernel_rfl) (by kernel_rfl) (fun _ _ _ h => h) (Or.inl ⟨by rfl, ?_⟩) hHeld ?_
        rotate_left
        · intro w hSw; (try dsimp only at hSw); go_simp; try (with_reducible rfl)
        try simp only [sq]
        refine wpAnyH_ready (rs := [5]) (by kernel_rfl) (by simp) ?_
        refine AllReadyH.cons rfl (fun K hK => ?_) AllReadyH.nil
        try simp only [sq]
        go_simp
        (first
            | (go_at_call 32; refine (F1.out _).mono ?_; rintro e z1 ⟨rfl, hw⟩; replace hw := hw.symm; subst hw))
        go_wp2_with fail
        refine hK.out _ _ ?_ (fun hHeld => ?_)
        · (repeat' apply And.intro) <;> (repeat (first | with_reducible assumption | with_reducible refine keepdrew ?_ | with_reducible refine keepcell (by with_reducible assumption) ?_ | with_reducible refine keepalloc ?_ _))
        clear hK K
        try simp only [sq]
        refine wpAnyH_ready (rs := [6]) (by kernel_rfl) (by simp) ?_
        refine AllReadyH.cons rfl (fun K hK => ?_) AllReadyH.nil
        try simp only [sq]
        go_simp
        (first
            | (go_at_call 31; refine (U1.out _).mono ?_; rintro e z2 ⟨rfl, hz2⟩))
        go_wp2_with fail
        refine hK.out _ _ ?_ (fun hHeld => ?_)
        · (repeat' apply And.intro) <;> (repeat (first | with_reducible assumption | with_reducible refine keepdrew ?_ | with_reducible refine keepcell (by with_reducible assumption) ?_ | with_reducible refine keepalloc ?_ _))
        clear hK K
        try simp only [sq]
        refine wpAnyH_take (i := 7) (v := ?_) rfl (by kernel_rfl) (by kernel_rfl) (by kernel_rfl) (fun _ _ _ h => h) (Or.inl ⟨by rfl, ?_⟩) hHeld ?_
        rotate_left
        · intro w hSw; (try dsimp only at hSw); go_simp; try (with_reducible rfl)
        try simp only [sq]
        refine wpAnyH_ready (rs := [12]) (by kernel_rfl) (by simp) ?_
        refine AllReadyH.cons rfl (fun K hK => ?_) AllReadyH.nil
        try simp only [sq]
        go_simp
        (first
            | (go_at_call 32; refine (F2.out _).mono ?_; rintro e z3 ⟨rfl, hw⟩; replace hw := hw.symm; subst hw))
        go_wp2_with fail
        refine hK.out _ _ ?_ (fun hHeld => ?_)
        · (repeat' apply And.intro) <;> (repeat (first | with_reducible assumption | with_reducible refine keepdrew ?_ | with_reducible refine keepcell (by with_reducible assumption) ?_ | with_reducible refine keepalloc ?_ _))
        clear hK K
        try simp only [sq]
        refine wpAnyH_ready (rs := [13]) (by kernel_rfl) (by simp) ?_
        refine AllReadyH.cons rfl (fun K hK => ?_) AllReadyH.nil
        try simp only [sq]
        go_simp
        (first
            | (go_at_call 31; refine (U2.out _).mono ?_; rintro e z4 ⟨rfl, hz4⟩))
        go_wp2_with fail
        refine hK.out _ _ ?_ (fun hHeld => ?_)
        · (repeat' apply And.intro) <;> (repeat (first | with_reducible assumption | with_reducible refine keepdrew ?_ | with_reducible refine keepcell (by with_reducible assumption) ?_ | with_reducible refine keepalloc ?_ _))
        clear hK K
        try simp only [sq]
        refine wpAnyH_take (i := 14) (v := ?_) rfl (by kernel_rfl) (by kernel_rfl) (by kernel_rfl) (fun _ _ _ h => h) (Or.inl ⟨by rfl, ?_⟩) hHeld ?_
        rotate_left
        · intro w hSw; (try dsimp only at hSw); go_simp; try (with_reducible rfl)
        try simp only [sq]
        refine wpAnyH_take (i := 15) (v := ?_) rfl (by kernel_rfl) (by kernel_rfl) (by kernel_rfl) (fun _ _ _ h => h) (Or.inl ⟨by rfl, ?_⟩) hHeld ?_
        rotate_left
        · intro w hSw; (try dsimp only at hSw); go_simp; try (with_reducible rfl)
        try simp only [sq]
        refine wpAnyH_done (by kernel_rfl) ?_ _
        have hz : Below V.heap.size V z4 := by (repeat (first | with_reducible exact Below.refl _ _ | with_reducible assumption | (with_reducible refine btrans ?_ (by with_reducible assumption)) | with_reducible refine bdrew ?_ | with_reducible refine balloc ?_ _))
        replace m0 := keepcell hz m0
        replace m1 := keepcell hz m1
        replace ra := keepcell hz ra
        replace hBa := btrans hBa hz
        clear hz hz2 hz4
        go_wp2_with fail
        go_roundw
        case rel => exact ⟨i + 1, by go_num, by omega, by rw [← HTN.out], by rw [HPN.out], by rw [HPN.out], ra, hid hBa⟩
        case measure => simp [intOf]; omega
      · obtain rfl : i = ps.length := by omega
        go_wp2_with fail
        go_ret
        exact ⟨rfl, HB.out⟩
end Go.Proofs.YtjafahhoihlliaaGreatDoor
