/- Texts of stores, joined: Put2, Cb. -/
import Derived.Test.YtfjmbbjcghopgaaGreatDoorJ28
import Derived.Test.YtfjmbbjcghopgaaGreatDoorJ16
import Derived.Test.YtfjmbbjcghopgaaGreatDoorJ32
namespace Go.Proofs.YtfjmbbjcghopgaaGreatDoor
open Go.RowKit
set_option linter.unusedVariables false
set_option linter.unusedSimpArgs false
def txB (k : Int) (ps : List (Int × Int)) (i : Nat) : ByteArray := ⟨(shl k ps i).toArray⟩
theorem txB_next (k : Int) (ps : List (Int × Int)) (i : Nat) : txB k ps i ++ strOfNums (G 5 (stX ps i)) ++ strOfNums (G 5 (stY ps i)) = txB k ps (i + 1) := by
  apply ByteArray.ext
  rw [ByteArray.data_append, ByteArray.data_append]
  apply Array.ext'
  simp [txB, shl, bodyT, tx]
theorem txB_first (k : Int) (ps : List (Int × Int)) (h0 : 0 ≤ k) (h1 : k ≤ 3) : strOfNums [k] ++ strOfNums (G 5 ps.length) = txB k ps 0 := by
  apply ByteArray.ext
  rw [ByteArray.data_append]
  apply Array.ext'
  have hk : k = 0 ∨ k = 1 ∨ k = 2 ∨ k = 3 := by omega
  rcases hk with rfl | rfl | rfl | rfl <;> simp [txB, shl, bodyT, tx, kb, strOfNums]
theorem conv1 (W : World) (g : Nat) (k : Int) (h : W.cell? ⟨g, 0, none⟩ = some (.int .u8 k)) : (convert 58 9 (.slice (some ⟨g, 0, none⟩) 1 1)).run Tryz.prog W = .ok (.string (strOfNums [k])) W := by
  refine run_convert_bytes_arg _ 58 5 Tryz.underlying58 Tryz.underlying5 g 0 1 1 [k] rfl (fun i hi => ?_) 9 Tryz.underlying9
  obtain rfl : i = 0 := by omega
  simpa using h
set_option maxRecDepth 100000 in
set_option maxHeartbeats 4000000 in
theorem spec_PutShape (k : Int) (a : Option Addr) (cap : Nat) (ps : List (Int × Int)) (w : World) (hm : ps.length ≤ 1099511627776) (hc : ps.length ≤ cap) (h : Pts w a ps) : Calls Tryz.prog 50 #[shv k a ps.length cap] w fun e w' => e = .returned (.string (psT k ps)) ∧ Below w.heap.size w w' := by
  have HP := hid h
  have O1 := hid (fun w' (hw : Pts w' a ps) => spec_ShapeOk k a cap ps w' hm hc hw)
  have hBX : Below w.heap.size w (w.alloc (.cells #[.int .i64 k, .slice a ps.length cap] 52)) := balloc (Below.refl _ _) _
  clear h
  unfold psT
  cases hs : shok k ps
  · rw [if_neg (by simp)]
    rw [hs] at O1
    clear hs
    go_enter Tryz.func50, Tryz.ntmps50
    go_wp2_with fail
    refine (O1.out _ (HP.out.below hBX)).mono ?_
    rintro e u1 ⟨rfl, hu1⟩
    go_wp2_with fail
    go_ret
    exact ⟨rfl, btrans hBX hu1⟩
  rw [if_pos rfl]
  have hk : 0 ≤ k ∧ k ≤ 3 ∧ 0 < ps.length ∧ ps.length ≤ 60 := by rcases shok_kind hs with h | h | h | h <;> omega
  obtain ⟨hk0, hk1, hn0, hn6⟩ := hk
  have HF := hid (fun i => fold_at (shok_allok hs) i)
  have HI := hid (fun i => allok_in (shok_allok hs) i)
  have TF := hid (txB_first k ps hk0 hk1)
  have TN := hid (fun i => txB_next k ps i)
  have hT : (⟨(shl k ps ps.length).toArray⟩ : ByteArray) = txB k ps ps.length := rfl
  rw [hT]
  clear hT
  have CP := hid (fun w' => spec_put ps.length (by omega) w')
  rw [hs] at O1
  clear hs
  have q0 : (w.alloc (.cells #[.int .i64 k, .slice a ps.length cap] 52)).cell? ⟨w.heap.size, 0, none⟩ = some (.int .i64 k) := newcell _ _ _ _ _ _ rfl rfl
  have q1 : (w.alloc (.cells #[.int .i64 k, .slice a ps.length cap] 52)).cell? ⟨w.heap.size, 1, none⟩ = some (.slice a ps.length cap) := newcell _ _ _ _ _ _ rfl rfl
  have hcv : k % 256 = k := by omega
  have hwk : IntKind.u8.wrap k = k := by
    have hk : k = 0 ∨ k = 1 ∨ k = 2 ∨ k = 3 := by omega
    rcases hk with rfl | rfl | rfl | rfl <;> rfl
  have hcat0 : ¬ 9223372036854775807 < (strOfNums [k]).size + (strOfNums (G 5 ps.length)).size := by
    have h1 := put_size ps.length
    rw [strOfNums_size]; simp; omega
  go_enter Tryz.func50, Tryz.ntmps50
  go_wp2_with fail
  refine (O1.out _ (HP.out.below hBX)).mono ?_
  rintro e u1 ⟨rfl, hu1⟩
  replace q0 := keepcell hu1 q0
  replace q1 := keepcell hu1 q1
  replace hBX := btrans hBX hu1
  clear hu1
  go_wp2_with fail
  go_cut [3] (fun t3 wx => t3 = .string (txB k ps 0) ∧ wx.cell? ⟨w.heap.size, 1, none⟩ = some (.slice a ps.length cap) ∧ Below w.heap.size w wx)
  case first =>
    have hBd : Below w.heap.size w u1.drew := bdrew hBX
    refine wp_region_held_drew (S := (fun w' => w'.cell? ⟨w.heap.size, 0, none⟩ = some (.int .i64 k) ∧ w'.cell? ⟨w.heap.size, 1, none⟩ = some (.slice a ps.length cap))) (by kernel_rfl) ?_ (fun hHeld => ?_)
    · exact ⟨q0, q1⟩
    generalize u1.drew = V at *
    clear q0 q1 hBX
    refine wpAnyH_take (i := 0) (v := ?_) rfl (by kernel_rfl) (by kernel_rfl) (by kernel_rfl) (fun _ _ _ h => h) (Or.inl ⟨by rfl, ?_⟩) hHeld ?_
    rotate_left
    · intro w hSw; (try dsimp only at hSw); go_simp; try (with_reducible rfl)
    try simp only [sq]
    refine wpAnyH_take (i := 1) (v := ?_) rfl (by kernel_rfl) (by kernel_rfl) (by kernel_rfl) (fun _ _ _ h => h) (Or.inl ⟨by rfl, ?_⟩) hHeld ?_
    rotate_left
    · intro w hSw; (try dsimp only at hSw); go_simp; try (with_reducible rfl)
    try simp only [sq]
    refine wpAnyH_take (i := 2) (v := ?_) rfl (by kernel_rfl) (by kernel_rfl) (by kernel_rfl) (fun _ _ _ h => h) (Or.inl ⟨by rfl, ?_⟩) hHeld ?_
    rotate_left
    · intro w hSw; (try dsimp only at hSw); go_simp; try (with_reducible rfl)
    try simp only [sq]
    refine wpAnyH_take (i := 5) (v := ?_) rfl (by kernel_rfl) (by kernel_rfl) (by kernel_rfl) (fun _ _ _ h => h) (Or.inl ⟨by rfl, ?_⟩) hHeld ?_
    rotate_left
    · intro w hSw; (try dsimp only at hSw); go_simp; try (with_reducible rfl)
    try simp only [sq]
    refine wpAnyH_take (i := 6) (v := ?_) rfl (by kernel_rfl) (by kernel_rfl) (by kernel_rfl) (fun _ _ _ h => h) (Or.inl ⟨by rfl, ?_⟩) hHeld ?_
    rotate_left
    · intro w hSw; (try dsimp only at hSw); go_simp; try (with_reducible rfl)
    try simp only [sq]
    refine wpAnyH_take (i := 7) (v := ?_) rfl (by kernel_rfl) (by kernel_rfl) (by kernel_rfl) (fun _ _ _ h => h) (Or.inl ⟨by rfl, ?_⟩) hHeld ?_
    rotate_left
    · intro w hSw; (try dsimp only at hSw); go_simp; try (with_reducible rfl)
    try simp only [sq]
    refine wpAnyH_ready (rs := [3, 8]) (by kernel_rfl) (by simp) ?_
    refine (AllReadyH.cons rfl (fun K hK => ?_) (AllReadyH.cons rfl (fun K hK => ?_) AllReadyH.nil))
    · skip
      try simp only [sq]
      go_simp
      refine hK.out _ _ ?_ (fun hHeld => ?_)
      · exact ⟨keepalloc hHeld.1 _, keepalloc hHeld.2 _⟩
      clear hK K
      try simp only [sq]
      refine wpAnyH_ready (rs := [4, 8]) (by kernel_rfl) (by simp) ?_
      refine (AllReadyH.cons rfl (fun K hK => ?_) (AllReadyH.cons rfl (fun K hK => ?_) AllReadyH.nil))
      · skip
        have hcvx := conv1 (V.alloc (.cells #[.int .u8 k] 5)) V.heap.size k (newcell _ _ _ _ _ _ rfl rfl)
        try simp only [sq]
        go_simp
        refine hK.out _ _ ?_ (fun hHeld => ?_)
        · exact hHeld
        clear hK K
        try simp only [sq]
        refine wpAnyH_ready (rs := [8]) (by kernel_rfl) (by simp) ?_
        refine (AllReadyH.cons rfl (fun K hK => ?_) AllReadyH.nil)
        try simp only [sq]
        go_simp
        (go_at_call 32; refine (CP.out _).mono ?_; rintro e m1 ⟨rfl, hm1⟩)
        go_wp2_with fail
        refine hK.out _ _ ?_ (fun hHeld => ?_)
        · exact ⟨keepcell hm1 hHeld.1, keepcell hm1 hHeld.2⟩
        clear hK K
        try simp only [sq]
        refine wpAnyH_take (i := 9) (v := ?_) rfl (by kernel_rfl) (by kernel_rfl) (by kernel_rfl) (fun _ _ _ h => h) (Or.inl ⟨by rfl, ?_⟩) hHeld ?_
        rotate_left
        · intro w hSw; (try dsimp only at hSw); go_simp; try (with_reducible rfl)
        try simp only [sq]
        refine wpAnyH_take (i := 10) (v := ?_) rfl (by kernel_rfl) (by kernel_rfl) (by kernel_rfl) (fun _ _ _ h => h) (Or.inl ⟨by rfl, ?_⟩) hHeld ?_
        rotate_left
        · intro w hSw; (try dsimp only at hSw); go_simp; try (with_reducible rfl)
        try simp only [sq]
        refine wpAnyH_done (by kernel_rfl) ?_ _
        go_wp2_with fail
        go_meet
        exact ⟨by first | rw [TF.out] | simp [TF.out], hHeld.2, btrans (balloc hBd _) hm1⟩
      · skip
        try simp only [sq]
        go_simp
        (go_at_call 32; refine (CP.out _).mono ?_; rintro e m1 ⟨rfl, hm1⟩)
        go_wp2_with fail
        refine hK.out _ _ ?_ (fun hHeld => ?_)
        · exact ⟨keepcell hm1 hHeld.1, keepcell hm1 hHeld.2⟩
        clear hK K
        try simp only [sq]
        refine wpAnyH_ready (rs := [4]) (by kernel_rfl) (by simp) ?_
        refine (AllReadyH.cons rfl (fun K hK => ?_) AllReadyH.nil)
        have hcvx := conv1 m1 V.heap.size k (keepcell hm1 (newcell _ _ _ _ _ _ rfl rfl))
        try simp only [sq]
        go_simp
        refine hK.out _ _ ?_ (fun hHeld => ?_)
        · exact hHeld
        clear hK K
        try simp only [sq]
        refine wpAnyH_take (i := 9) (v := ?_) rfl (by kernel_rfl) (by kernel_rfl) (by kernel_rfl) (fun _ _ _ h => h) (Or.inl ⟨by rfl, ?_⟩) hHeld ?_
        rotate_left
        · intro w hSw; (try dsimp only at hSw); go_simp; try (with_reducible rfl)
        try simp only [sq]
        refine wpAnyH_take (i := 10) (v := ?_) rfl (by kernel_rfl) (by kernel_rfl) (by kernel_rfl) (fun _ _ _ h => h) (Or.inl ⟨by rfl, ?_⟩) hHeld ?_
        rotate_left
        · intro w hSw; (try dsimp only at hSw); go_simp; try (with_reducible rfl)
        try simp only [sq]
        refine wpAnyH_done (by kernel_rfl) ?_ _
        go_wp2_with fail
        go_meet
        exact ⟨by first | rw [TF.out] | simp [TF.out], hHeld.2, btrans (balloc hBd _) hm1⟩
    · skip
      try simp only [sq]
      go_simp
      (go_at_call 32; refine (CP.out _).mono ?_; rintro e m1 ⟨rfl, hm1⟩)
      go_wp2_with fail
      refine hK.out _ _ ?_ (fun hHeld => ?_)
      · exact ⟨keepcell hm1 hHeld.1, keepcell hm1 hHeld.2⟩
      clear hK K
      try simp only [sq]
      refine wpAnyH_ready (rs := [3]) (by kernel_rfl) (by simp) ?_
      refine (AllReadyH.cons rfl (fun K hK => ?_) AllReadyH.nil)
      try simp only [sq]
      go_simp
      refine hK.out _ _ ?_ (fun hHeld => ?_)
      · exact ⟨keepalloc hHeld.1 _, keepalloc hHeld.2 _⟩
      clear hK K
      try simp only [sq]
      refine wpAnyH_ready (rs := [4]) (by kernel_rfl) (by simp) ?_
      refine (AllReadyH.cons rfl (fun K hK => ?_) AllReadyH.nil)
      have hcvx := conv1 (m1.alloc (.cells #[.int .u8 k] 5)) m1.heap.size k (newcell _ _ _ _ _ _ rfl rfl)
      try simp only [sq]
      go_simp
      refine hK.out _ _ ?_ (fun hHeld => ?_)
      · exact hHeld
      clear hK K
      try simp only [sq]
      refine wpAnyH_take (i := 9) (v := ?_) rfl (by kernel_rfl) (by kernel_rfl) (by kernel_rfl) (fun _ _ _ h => h) (Or.inl ⟨by rfl, ?_⟩) hHeld ?_
      rotate_left
      · intro w hSw; (try dsimp only at hSw); go_simp; try (with_reducible rfl)
      try simp only [sq]
      refine wpAnyH_take (i := 10) (v := ?_) rfl (by kernel_rfl) (by kernel_rfl) (by kernel_rfl) (fun _ _ _ h => h) (Or.inl ⟨by rfl, ?_⟩) hHeld ?_
      rotate_left
      · intro w hSw; (try dsimp only at hSw); go_simp; try (with_reducible rfl)
      try simp only [sq]
      refine wpAnyH_done (by kernel_rfl) ?_ _
      go_wp2_with fail
      go_meet
      exact ⟨by first | rw [TF.out] | simp [TF.out], hHeld.2, balloc (btrans hBd hm1) _⟩
  case rest =>
    obtain ⟨rfl, r1, hB1⟩ := hcut
    clear q0 q1 hBX
    go_wp2_with fail
    go_loopw [3, 4, 5, 6] (fun t3 t4 t5 ti wr => ∃ i : Nat, ti = .int .i64 i ∧ i ≤ ps.length ∧ t3 = .string (txB k ps i) ∧ t4 = .int .i64 (prv ps i).1 ∧ t5 = .int .i64 (prv ps i).2 ∧ wr.cell? ⟨w.heap.size, 1, none⟩ = some (.slice a ps.length cap) ∧ Hid (Below w.heap.size w wr)) (fun _ _ _ ti _ => ps.length - (intOf ti).toNat)
    case atStart => exact ⟨0, rfl, Nat.zero_le _, rfl, rfl, rfl, r1, hid hB1⟩
    case round =>
      clear r1 hB1
      obtain ⟨i, rfl, hi, rfl, rfl, rfl, r1, HB⟩ := hrel
      by_cases hlt : i < ps.length
      · have c1 : (i : Int) < (ps.length : Int) := by omega
        obtain ⟨bb, off, rfl, hbs, hp⟩ : ∃ b off, a = some ⟨b, off, none⟩ ∧ b < w.heap.size ∧ PtsAt w b off ps := by
          rcases HP.out with h | h
          · rw [h] at hlt; simp at hlt
          · exact h
        obtain ⟨d0, d1⟩ := hp.below hbs HB.out i hlt
        obtain ⟨e1, f1, e2, f2, g1, g2⟩ := HF.out i hlt
        obtain ⟨i1, i2⟩ := HI.out i hlt
        have htn := TN.out i
        have hpn : prv ps (i + 1) = ((ps.getD i (0, 0)).1, (ps.getD i (0, 0)).2) := rfl
        have HTN := hid htn
        have HPN := hid hpn
        clear hp htn hpn
        generalize (ps.getD i (0, 0)).1 = x at *
        generalize (ps.getD i (0, 0)).2 = y at *
        generalize (prv ps i).1 = px at *
        generalize (prv ps i).2 = py at *
        generalize stX ps i = n1 at *
        generalize stY ps i = n2 at *
        have htb : (txB k ps i).size ≤ 10 * i + 6 := by have := shl_len k ps i; simpa [txB, ByteArray.size] using this
        have hs1' := put_size n1
        have hs2' := put_size n2
        generalize txB k ps i = tb at *
        have hcat1 : ¬ 9223372036854775807 < tb.size + (strOfNums (G 5 n1)).size := by omega
        have hcat2 : ¬ 9223372036854775807 < tb.size + (strOfNums (G 5 n1)).size + (strOfNums (G 5 n2)).size := by omega
        clear hs1' hs2' htb
        have hd1 : -200000 ≤ x - px ∧ x - px ≤ 200000 := by unfold In at *; omega
        have hd2 : -200000 ≤ y - py ∧ y - py ≤ 200000 := by unfold In at *; omega
        have hw1 : IntKind.i64.wrap (x - px) = x - px := by rw [IntKind.wrap_i64]; omega
        have hw2 : IntKind.i64.wrap (y - py) = y - py := by rw [IntKind.wrap_i64]; omega
        have F1 := hid (fun w' => spec_fold (x - px) hd1.1 hd1.2 w')
        have F2 := hid (fun w' => spec_fold (y - py) hd2.1 hd2.2 w')
        rw [e1] at F1
        rw [e2] at F2
        have U1 := hid (fun w' => spec_put n1 f1 w')
        have U2 := hid (fun w' => spec_put n2 f2 w')
        clear e1 e2 hd1 hd2
        go_wp2_with fail
        have m0 : (wr.alloc (.cells #[.int .i64 x, .int .i64 y] 86)).cell? ⟨wr.heap.size, 0, none⟩ = some (.int .i64 x) := newcell _ _ _ _ _ _ rfl rfl
        have m1 : (wr.alloc (.cells #[.int .i64 x, .int .i64 y] 86)).cell? ⟨wr.heap.size, 1, none⟩ = some (.int .i64 y) := newcell _ _ _ _ _ _ rfl rfl
        have ra := keepalloc r1 (.cells #[.int .i64 x, .int .i64 y] 86)
        have hBa := balloc HB.out (.cells #[.int .i64 x, .int .i64 y] 86)
        clear r1 HB
        generalize wr.alloc (.cells #[.int .i64 x, .int .i64 y] 86) = V at *
        generalize wr.heap.size = p7 at *
        refine wp_region_held_drew (S := (fun w' => w'.cell? ⟨p7, 0, none⟩ = some (.int .i64 x) ∧ w'.cell? ⟨p7, 1, none⟩ = some (.int .i64 y) ∧ w'.cell? ⟨w.heap.size, 1, none⟩ = some (.slice (some ⟨bb, off, none⟩) ps.length cap))) (by kernel_rfl) ?_ (fun hHeld => ?_)
        · (repeat' apply And.intro) <;> (repeat (first | with_reducible assumption | with_reducible refine keepdrew ?_ | with_reducible refine keepcell (by with_reducible assumption) ?_ | with_reducible refine keepalloc ?_ _))
        refine wpAnyH_take (i := 0) (v := ?_) rfl (by kernel_rfl) (by kernel_rfl) (by kernel_rfl) (fun _ _ _ h => h) (Or.inl ⟨by rfl, ?_⟩) hHeld ?_
        rotate_left
        · intro w hSw; (try dsimp only at hSw); go_simp; try (with_reducible rfl)
        try simp only [sq]
        refine wpAnyH_take (i := 1) (v := ?_) rfl (by kernel_rfl) (by kernel_rfl) (by kernel_rfl) (fun _ _ _ h => h) (Or.inl ⟨by rfl, ?_⟩) hHeld ?_
        rotate_left
        · intro w hSw; (try dsimp only at hSw); go_simp; try (with_reducible rfl)
        try simp only [sq]
        refine wpAnyH_take (i := 2) (v := ?_) rfl (by kernel_rfl) (by kernel_rfl) (by kernel_rfl) (fun _ _ _ h => h) (Or.inl ⟨by rfl, ?_⟩) hHeld ?_
        rotate_left
        · intro w hSw; (try dsimp only at hSw); go_simp; try (with_reducible rfl)
        try simp only [sq]
        refine wpAnyH_take (i := 3) (v := ?_) rfl (by kernel_rfl) (by kernel_rfl) (by kernel_rfl) (fun _ _ _ h => h) (Or.inl ⟨by rfl, ?_⟩) hHeld ?_
        rotate_left
        · intro w hSw; (try dsimp only at hSw); go_simp; try (with_reducible rfl)
        try simp only [sq]
        refine wpAnyH_take (i := 4) (v := ?_) rfl (by kernel_rfl) (by kernel_rfl) (by kernel_rfl) (fun _ _ _ h => h) (Or.inl ⟨by rfl, ?_⟩) hHeld ?_
        rotate_left
        · intro w hSw; (try dsimp only at hSw); go_simp; try (with_reducible rfl)
        try simp only [sq]
        refine wpAnyH_take (i := 8) (v := ?_) rfl (by kernel_rfl) (by kernel_rfl) (by kernel_rfl) (fun _ _ _ h => h) (Or.inl ⟨by rfl, ?_⟩) hHeld ?_
        rotate_left
        · intro w hSw; (try dsimp only at hSw); go_simp; try (with_reducible rfl)
        try simp only [sq]
        refine wpAnyH_take (i := 9) (v := ?_) rfl (by kernel_rfl) (by kernel_rfl) (by kernel_rfl) (fun _ _ _ h => h) (Or.inl ⟨by rfl, ?_⟩) hHeld ?_
        rotate_left
        · intro w hSw; (try dsimp only at hSw); go_simp; try (with_reducible rfl)
        try simp only [sq]
        refine wpAnyH_take (i := 10) (v := ?_) rfl (by kernel_rfl) (by kernel_rfl) (by kernel_rfl) (fun _ _ _ h => h) (Or.inl ⟨by rfl, ?_⟩) hHeld ?_
        rotate_left
        · intro w hSw; (try dsimp only at hSw); go_simp; try (with_reducible rfl)
        try simp only [sq]
        refine wpAnyH_take (i := 11) (v := ?_) rfl (by kernel_rfl) (by kernel_rfl) (by kernel_rfl) (fun _ _ _ h => h) (Or.inl ⟨by rfl, ?_⟩) hHeld ?_
        rotate_left
        · intro w hSw; (try dsimp only at hSw); go_simp; try (with_reducible rfl)
        try simp only [sq]
        refine wpAnyH_ready (rs := [5]) (by kernel_rfl) (by simp) ?_
        refine AllReadyH.cons rfl (fun K hK => ?_) AllReadyH.nil
        try simp only [sq]
        go_simp
        (first
            | (go_at_call 61; refine (F1.out _).mono ?_; rintro e z1 ⟨rfl, hw⟩; replace hw := hw.symm; subst hw))
        go_wp2_with fail
        refine hK.out _ _ ?_ (fun hHeld => ?_)
        · (repeat' apply And.intro) <;> (repeat (first | with_reducible assumption | with_reducible refine keepdrew ?_ | with_reducible refine keepcell (by with_reducible assumption) ?_ | with_reducible refine keepalloc ?_ _))
        clear hK K
        try simp only [sq]
        refine wpAnyH_ready (rs := [6]) (by kernel_rfl) (by simp) ?_
        refine AllReadyH.cons rfl (fun K hK => ?_) AllReadyH.nil
        try simp only [sq]
        go_simp
        (first
            | (go_at_call 32; refine (U1.out _).mono ?_; rintro e z2 ⟨rfl, hz2⟩))
        go_wp2_with fail
        refine hK.out _ _ ?_ (fun hHeld => ?_)
        · (repeat' apply And.intro) <;> (repeat (first | with_reducible assumption | with_reducible refine keepdrew ?_ | with_reducible refine keepcell (by with_reducible assumption) ?_ | with_reducible refine keepalloc ?_ _))
        clear hK K
        try simp only [sq]
        refine wpAnyH_take (i := 7) (v := ?_) rfl (by kernel_rfl) (by kernel_rfl) (by kernel_rfl) (fun _ _ _ h => h) (Or.inl ⟨by rfl, ?_⟩) hHeld ?_
        rotate_left
        · intro w hSw; (try dsimp only at hSw); go_simp; try (with_reducible rfl)
        try simp only [sq]
        refine wpAnyH_ready (rs := [12]) (by kernel_rfl) (by simp) ?_
        refine AllReadyH.cons rfl (fun K hK => ?_) AllReadyH.nil
        try simp only [sq]
        go_simp
        (first
            | (go_at_call 61; refine (F2.out _).mono ?_; rintro e z3 ⟨rfl, hw⟩; replace hw := hw.symm; subst hw))
        go_wp2_with fail
        refine hK.out _ _ ?_ (fun hHeld => ?_)
        · (repeat' apply And.intro) <;> (repeat (first | with_reducible assumption | with_reducible refine keepdrew ?_ | with_reducible refine keepcell (by with_reducible assumption) ?_ | with_reducible refine keepalloc ?_ _))
        clear hK K
        try simp only [sq]
        refine wpAnyH_ready (rs := [13]) (by kernel_rfl) (by simp) ?_
        refine AllReadyH.cons rfl (fun K hK => ?_) AllReadyH.nil
        try simp only [sq]
        go_simp
        (first
            | (go_at_call 32; refine (U2.out _).mono ?_; rintro e z4 ⟨rfl, hz4⟩))
        go_wp2_with fail
        refine hK.out _ _ ?_ (fun hHeld => ?_)
        · (repeat' apply And.intro) <;> (repeat (first | with_reducible assumption | with_reducible refine keepdrew ?_ | with_reducible refine keepcell (by with_reducible assumption) ?_ | with_reducible refine keepalloc ?_ _))
        clear hK K
        try simp only [sq]
        refine wpAnyH_take (i := 14) (v := ?_) rfl (by kernel_rfl) (by kernel_rfl) (by kernel_rfl) (fun _ _ _ h => h) (Or.inl ⟨by rfl, ?_⟩) hHeld ?_
        rotate_left
        · intro w hSw; (try dsimp only at hSw); go_simp; try (with_reducible rfl)
        try simp only [sq]
        refine wpAnyH_take (i := 15) (v := ?_) rfl (by kernel_rfl) (by kernel_rfl) (by kernel_rfl) (fun _ _ _ h => h) (Or.inl ⟨by rfl, ?_⟩) hHeld ?_
        rotate_left
        · intro w hSw; (try dsimp only at hSw); go_simp; try (with_reducible rfl)
        try simp only [sq]
        refine wpAnyH_done (by kernel_rfl) ?_ _
        have hz : Below V.heap.size V z4 := by (repeat (first | with_reducible exact Below.refl _ _ | with_reducible assumption | (with_reducible refine btrans ?_ (by with_reducible assumption)) | with_reducible refine bdrew ?_ | with_reducible refine balloc ?_ _))
        replace m0 := keepcell hz m0
        replace m1 := keepcell hz m1
        replace ra := keepcell hz ra
        replace hBa := btrans hBa hz
        clear hz hz2 hz4
        go_wp2_with fail
        go_roundw
        case rel => exact ⟨i + 1, by go_num, by omega, by rw [← HTN.out], by rw [HPN.out], by rw [HPN.out], ra, hid hBa⟩
        case measure => simp [intOf]; omega
      · obtain rfl : i = ps.length := by omega
        go_wp2_with fail
        go_ret
        exact ⟨rfl, HB.out⟩
end Go.Proofs.YtfjmbbjcghopgaaGreatDoor
namespace Go.Proofs.YtfjmbbjcghopgaaGreatDoor
open Go.RowKit
set_option linter.unusedSimpArgs false
set_option linter.unusedVariables false
theorem cgb_parts {x : Ch} (h : cgb x = true) : (∃ m : Nat, x.1 = (m : Int) ∧ m ≤ 999999999) ∧ (x.2.1 = false → shok x.2.2.1 x.2.2.2 = true) := by
  unfold cgb at h
  rw [Bool.and_eq_true] at h
  obtain ⟨h1, h2⟩ := h
  unfold idb at h1
  simp only [Bool.and_eq_true, decide_eq_true_eq] at h1
  refine ⟨⟨x.1.toNat, by omega, by omega⟩, fun e => ?_⟩
  rw [if_neg (by simp [e])] at h2
  exact h2
/-- The bytes of one change. -/
def oneC (x : Ch) : List UInt8 := tx x.1.toNat ++ (if x.2.1 = true then [1] else 0 :: (psT x.2.2.1 x.2.2.2).data.toList)
/-- The bytes of how many there are and of the first changes. -/
def bodyC (xs : List Ch) : Nat → List UInt8
  | 0 => tx xs.length
  | i + 1 => bodyC xs i ++ oneC (xs.getD i (0, false, 0, []))
def pcb (xs : List Ch) : Bool := cgs xs && decide (xs.length ≤ 100)
def pcT (xs : List Ch) : ByteArray := if pcb xs = true then ⟨(bodyC xs xs.length).toArray⟩ else ⟨#[]⟩
theorem psT_size {k : Int} {ps : List (Int × Int)} (h : shok k ps = true) : 0 < (psT k ps).size ∧ (psT k ps).size ≤ 606 := by
  have hk : ps.length ≤ 60 := by rcases shok_kind h with h | h | h | h <;> omega
  unfold psT
  rw [if_pos h]
  have h1 := shl_len k ps ps.length
  have e : (⟨(shl k ps ps.length).toArray⟩ : ByteArray).size = (shl k ps ps.length).length := List.size_toArray
  rw [e]
  refine ⟨by simp [shl], by omega⟩
theorem oneC_len {x : Ch} (h : cgb x = true) : (oneC x).length ≤ 612 := by
  obtain ⟨_, h2⟩ := cgb_parts h
  unfold oneC
  have := tx_len x.1.toNat
  rw [List.length_append]
  cases hg : x.2.1
  · have h3 := (psT_size (h2 hg)).2
    have e : (psT x.2.2.1 x.2.2.2).data.toList.length = (psT x.2.2.1 x.2.2.2).size := Array.length_toList
    rw [if_neg (by simp), List.length_cons, e]; omega
  · rw [if_pos rfl]; simp; omega
theorem getC {xs : List Ch} {i : Nat} (hi : i < xs.length) : xs.getD i (0, false, 0, []) = xs[i] := by
  simp [List.getD_eq_getElem?_getD, List.getElem?_eq_getElem hi]
theorem bodyC_len {xs : List Ch} (h : ∀ i (hi : i < xs.length), cgb xs[i] = true) : ∀ i, i ≤ xs.length → (bodyC xs i).length ≤ 612 * i + 5
  | 0, _ => by have := tx_len xs.length; simp only [bodyC]; omega
  | i + 1, hi => by
    have h1 := bodyC_len h i (by omega)
    have h2 := oneC_len (h i (by omega))
    simp only [bodyC, List.length_append]
    rw [getC (by omega)]
    omega
theorem bodyC_gone {xs : List Ch} {i m : Nat} (hi : i < xs.length) (hm : xs[i].1 = (m : Int)) (hg : xs[i].2.1 = true) : Lib.byteCells (bodyC xs (i + 1)) = Lib.byteCells (bodyC xs i) ++ Lib.strCells (strOfNums (G 5 m)) ++ [.int .u8 1] := by
  simp only [bodyC]
  rw [getC hi]
  unfold oneC
  rw [hm, if_pos hg]
  simp [Lib.byteCells, Lib.strCells, tx]
theorem bodyC_there {xs : List Ch} {i m : Nat} (hi : i < xs.length) (hm : xs[i].1 = (m : Int)) (hg : xs[i].2.1 = false) : Lib.byteCells (bodyC xs (i + 1)) = Lib.byteCells (bodyC xs i) ++ Lib.strCells (strOfNums (G 5 m)) ++ [.int .u8 0] ++ Lib.strCells (psT xs[i].2.2.1 xs[i].2.2.2) := by
  simp only [bodyC]
  rw [getC hi]
  unfold oneC
  rw [hm, if_neg (by simp [hg])]
  simp [Lib.byteCells, Lib.strCells, tx]
def tC (xs : List Ch) (i : Nat) : ByteArray := ⟨(bodyC xs i).toArray⟩
theorem tC_gone {xs : List Ch} {i m : Nat} (hi : i < xs.length) (hm : xs[i].1 = (m : Int)) (hg : xs[i].2.1 = true) : tC xs i ++ strOfNums (G 5 m) ++ (⟨#[1]⟩ : ByteArray) = tC xs (i + 1) := by
  apply ByteArray.ext
  rw [ByteArray.data_append, ByteArray.data_append]
  apply Array.ext'
  simp only [tC, bodyC]
  rw [getC hi]
  unfold oneC
  rw [hm, if_pos hg]
  simp [tx]
theorem tC_there {xs : List Ch} {i m : Nat} (hi : i < xs.length) (hm : xs[i].1 = (m : Int)) (hg : xs[i].2.1 = false) : tC xs i ++ strOfNums (G 5 m) ++ (⟨#[0]⟩ : ByteArray) ++ psT xs[i].2.2.1 xs[i].2.2.2 = tC xs (i + 1) := by
  apply ByteArray.ext
  rw [ByteArray.data_append, ByteArray.data_append, ByteArray.data_append]
  apply Array.ext'
  simp only [tC, bodyC]
  rw [getC hi]
  unfold oneC
  rw [hm, if_neg (by simp [hg])]
  simp [tx]
theorem tC_first (xs : List Ch) : strOfNums (G 5 xs.length) = tC xs 0 := by
  apply ByteArray.ext
  apply Array.ext'
  simp [tC, bodyC, tx]
theorem bodyC_first (xs : List Ch) : Lib.byteCells (bodyC xs 0) = [] ++ Lib.strCells (strOfNums (G 5 xs.length)) := by
  simp [bodyC, Lib.byteCells, Lib.strCells, tx]
theorem cgs_all {xs : List Ch} (h : cgs xs = true) : ∀ i (hi : i < xs.length), cgb xs[i] = true := by
  unfold cgs at h
  rw [Bool.and_eq_true, List.all_eq_true] at h
  exact fun i hi => h.1 _ (List.getElem_mem hi)
set_option maxRecDepth 100000 in
set_option maxHeartbeats 4000000 in
theorem impl_PutChanges {N : Nat → Prop} (a : Option Addr) (cap : Nat) (cs : List Ch) (w : World) (hm : cs.length ≤ 1099511627776) (h : Chs N 1099511627776 w a cs) : Calls Tryz.prog 58 #[.slice a cs.length cap] w fun e w' => e = .returned (.string (pcT cs)) ∧ Below w.heap.size w w' := by
  have HC := hid (impl_cgs a cap cs w hm h)
  have HR := hid h
  clear h
  unfold pcT pcb
  by_cases hgr : 100 < cs.length
  · have h100 : ¬ cs.length ≤ 100 := by omega
    rw [if_neg (by simp [h100])]
    have c1 : (100 : Int) < (cs.length : Int) := by omega
    clear HC HR
    go_enter Tryz.func58, Tryz.ntmps58
    go_wp2_with fail
    go_ret
    exact ⟨rfl, Below.refl _ _⟩
  have h100 : cs.length ≤ 100 := by omega
  clear hgr
  have c0 : ¬ ((100 : Int) < (cs.length : Int)) := by omega
  cases hs : cgs cs
  · rw [if_neg (by simp)]
    rw [hs] at HC
    clear hs HR
    go_enter Tryz.func58, Tryz.ntmps58
    go_wp2_with fail
    refine HC.out.mono ?_
    rintro e y ⟨rfl, hy⟩
    go_wp2_with fail
    go_ret
    exact ⟨rfl, hy⟩
  rw [if_pos (by simp [h100])]
  rw [hs] at HC
  have HA := hid (cgs_all hs)
  have HL := hid (fun i (hi : i ≤ cs.length) => bodyC_len (cgs_all hs) i hi)
  have HF := hid (bodyC_first cs)
  have PSn := put_size cs.length
  have HCP := hid (fun (W : World) => impl_put cs.length (by omega) W)
  clear hs
  go_enter Tryz.func58, Tryz.ntmps58
  go_wp2_with fail
  refine HC.out.mono ?_
  rintro e u1 ⟨rfl, hBX⟩
  clear HC
  have hIB : Lib.IsBuilder 112 5 u1.heap.size u1.heap.size [] (u1.alloc (.cells #[.pointer none, .slice none 0 0] 112)) := .inl ⟨Nat.le_refl _, .slice none 0 0, new_alloc _ _ _ rfl, ⟨by simp, .inl ⟨rfl, rfl⟩⟩, by simp [Value.ownBlock]⟩
  have HIB := hid hIB
  clear hIB
  have hBA := balloc hBX (.cells #[.pointer none, .slice none 0 0] 112)
  have hbw := hBX.size
  have hsa : u1.heap.size < (u1.alloc (.cells #[.pointer none, .slice none 0 0] 112)).heap.size := by simp
  clear hBX
  go_wp2_with fail
  generalize u1.alloc (.cells #[.pointer none, .slice none 0 0] 112) = V at *
  generalize u1.heap.size = b at *
  refine (HCP.out _).mono ?_
  rintro e v1 ⟨rfl, hv1⟩
  have HIB1 : Hid (Lib.IsBuilder 112 5 b b [] v1) := hid (by
    rcases HIB.out with q | q
    · obtain ⟨hB, v, hk, hown, hne⟩ := q
      have hg : V.grownBy v1 none := ⟨hv1.os, hv1.tape, hv1.output, hv1.size, fun k hk _ => hv1.block k hk⟩
      exact .inl ⟨hB, v, keepheap2 hv1 hk, World.ownsRow.kept hown hg (Classical.em _), hne⟩
    · exact .inr (BA.below q hv1))
  have hB1 := btrans hBA hv1
  have hz1 := hv1.size
  clear hBA hv1 HIB HCP
  go_wp2_with fail
  refine (write_string b b [] _ v1 HIB1.out (by simp) PSn.1 (by omega) (by omega)).mono ?_
  rintro e v2 ⟨rfl, hba, hb2, hkb2⟩
  rw [← HF.out] at hba
  have BA2 : Hid (BA b b (Lib.byteCells (bodyC cs 0)) v2) := hid hba
  have hB2 : Below w.heap.size w v2 := hB1.trans (hb2.mono (by omega))
  have hz2 := hb2.size
  clear hba hb2 hkb2 hB1 HIB1 PSn HF
  go_wp2_with fail
  go_loopw [20] (fun ti wr => ∃ i : Nat, ti = .int .i64 i ∧ i ≤ cs.length ∧ Hid (Below w.heap.size w wr) ∧ Hid (BA b b (Lib.byteCells (bodyC cs i)) wr) ∧ Hid (b ≤ wr.heap.size)) (fun ti _ => cs.length - (intOf ti).toNat)
  case atStart => exact ⟨0, rfl, Nat.zero_le _, hid hB2, BA2, hid (by omega)⟩
  case round =>
    clear hB2 BA2 hz2 hz1 hsa
    obtain ⟨i, rfl, hi, HB, BI, HZ⟩ := hrel
    by_cases hlt : i < cs.length
    · have c1 : (i : Int) < (cs.length : Int) := by omega
      obtain ⟨bb, o, rfl, hbs, a', cap', k0, k1, k2, k3, k4, k5, k6, _⟩ := HR.out.at i hlt
      replace k0 := keepcell HB.out k0
      replace k1 := keepcell HB.out k1
      replace k2 := keepcell HB.out k2
      replace k3 := keepcell HB.out k3
      obtain ⟨⟨m, hm1, hm2⟩, hsh⟩ := cgb_parts (HA.out i hlt)
      have hl := HL.out i hi
      have HG1 := hid (fun hg => bodyC_gone (m := m) hlt hm1 hg)
      have HG0 := hid (fun hg => bodyC_there (m := m) hlt hm1 hg)
      have HPS := hid (fun (W : World) (hb : Below w.heap.size w W) => impl_PutShape cs[i].2.2.1 a' cap' cs[i].2.2.2 W k5 k4 (k6.below hb))
      have HSZ := hid (fun hg => psT_size (hsh hg))
      have HPN := hid (fun (W : World) => impl_put m (by omega) W)
      have PSm := put_size m
      unfold shv at HPS
      clear k4 k5 k6 hsh
      rw [hm1] at k0
      clear hm1
      generalize cs[i].2.1 = gn at *
      generalize cs[i].2.2.1 = kd at *
      generalize cs[i].2.2.2 = ps at *
      generalize ps.length = np at *
      generalize psT kd ps = pT at *
      have gX := new_alloc wr wr.heap.size (.cells #[.int .i64 m, .bool gn, .int .i64 kd, .slice a' np cap'] 56) rfl
      have hbx : Below wr.heap.size wr (wr.alloc (.cells #[.int .i64 m, .bool gn, .int .i64 kd, .slice a' np cap'] 56)) := balloc (Below.refl _ _) _
      have hsx : wr.heap.size < (wr.alloc (.cells #[.int .i64 m, .bool gn, .int .i64 kd, .slice a' np cap'] 56)).heap.size := by simp
      have hlb : b < wr.heap.size := BI.out.lt
      obtain ⟨s1a, s1b⟩ := PSm
      go_upto_region 8 with fail
      have BI1 : Hid (BA b b (Lib.byteCells (bodyC cs i)) (wr.alloc (.cells #[.int .i64 m, .bool gn, .int .i64 kd, .slice a' np cap'] 56))) := hid (BI.out.below hbx)
      have HBX := hid (btrans HB.out hbx)
      clear hbx BI HB k0 k1 k2 k3
      generalize wr.alloc (.cells #[.int .i64 m, .bool gn, .int .i64 kd, .slice a' np cap'] 56) = W1 at *
      obtain ⟨⟨x0, x1, x2, x3⟩, _⟩ := cellk4 gX
      go_wp2_with fail
      refine (HPN.out _).mono ?_
      rintro e y1 ⟨rfl, hy1⟩
      replace BI1 : Hid (BA b b (Lib.byteCells (bodyC cs i)) y1) := hid (BI1.out.below hy1)
      replace gX := keepheap2 hy1 gX
      replace HBX := hid (btrans HBX.out hy1)
      have hzy1 := hy1.size
      clear hy1 x0 x1 x2 x3 HPN
      go_wp2_with fail
      refine (write_string b b _ _ y1 (.inr BI1.out) (by rw [Lib.byteCells_length]; omega) s1a (by omega) (by omega)).mono ?_
      rintro e y2 ⟨rfl, hba, hb2, hkb2⟩
      have BI2 : Hid (BA b b (Lib.byteCells (bodyC cs i) ++ Lib.strCells (strOfNums (G 5 m))) y2) := hid hba
      replace gX := hkb2 _ _ _ _ (by omega) (by decide) gX
      have hzy2 := hb2.size
      have HBX2 : Hid (Below w.heap.size w y2) := hid (HBX.out.trans (hb2.mono (by omega)))
      clear hba hb2 hkb2 BI1 HBX
      obtain ⟨⟨x0, x1, x2, x3⟩, _⟩ := cellk4 gX
      cases gn
      · have HN1 := hid (HG0.out rfl)
        obtain ⟨z1, z2⟩ := HSZ.out rfl
        clear HG0 HG1 HSZ
        go_wp2_with fail
        refine (write_byte b b _ 0 y2 (.inr BI2.out) (by rw [List.length_append, Lib.byteCells_length, Lib.strCells_length]; omega) (by omega)).mono ?_
        rintro e y3 ⟨rfl, hba, hb3, hkb3⟩
        have BI3 : Hid (BA b b (Lib.byteCells (bodyC cs i) ++ Lib.strCells (strOfNums (G 5 m)) ++ [.int .u8 0]) y3) := hid hba
        replace gX := hkb3 _ _ _ _ (by omega) (by decide) gX
        have hzy3 := hb3.size
        have HBX3 : Hid (Below w.heap.size w y3) := hid (HBX2.out.trans (hb3.mono (by omega)))
        clear hba hkb3 BI2 HBX2 x0 x1 x2 x3
        obtain ⟨⟨x0, x1, x2, x3⟩, _⟩ := cellk4 gX
        clear hb3
        go_wp2_with fail
        refine (HPS.out _ HBX3.out).mono ?_
        rintro e y4 ⟨rfl, hy4⟩
        replace BI3 : Hid (BA b b (Lib.byteCells (bodyC cs i) ++ Lib.strCells (strOfNums (G 5 m)) ++ [.int .u8 0]) y4) := hid (BI3.out.below hy4)
        replace HBX3 := hid (btrans HBX3.out hy4)
        have hzy4 := hy4.size
        clear hy4 x0 x1 x2 x3 gX HPS
        go_wp2_with fail
        refine (write_string b b _ _ y4 (.inr BI3.out) (by rw [List.length_append, List.length_append, Lib.byteCells_length, Lib.strCells_length]; simp; omega) z1 (by omega) (by omega)).mono ?_
        rintro e y5 ⟨rfl, hba, hb5, hkb5⟩
        rw [← HN1.out] at hba
        have BI5 : Hid (BA b b (Lib.byteCells (bodyC cs (i + 1))) y5) := hid hba
        have hzy5 := hb5.size
        have HBX5 : Hid (Below w.heap.size w y5) := hid (HBX3.out.trans (hb5.mono (by omega)))
        clear hba hb5 hkb5 BI3 HBX3
        go_wp2_with fail
        go_roundw
        case rel => exact ⟨i + 1, by go_num, by omega, HBX5, BI5, hid (by omega)⟩
        case measure => simp [intOf]; omega
      · have HN1 := hid (HG1.out rfl)
        clear HG0 HG1 HSZ HPS
        go_wp2_with fail
        refine (write_byte b b _ 1 y2 (.inr BI2.out) (by rw [List.length_append, Lib.byteCells_length, Lib.strCells_length]; omega) (by omega)).mono ?_
        rintro e y3 ⟨rfl, hba, hb3, hkb3⟩
        rw [← HN1.out] at hba
        have BI3 : Hid (BA b b (Lib.byteCells (bodyC cs (i + 1))) y3) := hid hba
        have hzy3 := hb3.size
        have HBX3 : Hid (Below w.heap.size w y3) := hid (HBX2.out.trans (hb3.mono (by omega)))
        clear hba hb3 hkb3 BI2 HBX2 x0 x1 x2 x3 gX
        go_wp2_with fail
        go_roundw
        case rel => exact ⟨i + 1, by go_num, by omega, HBX3, BI3, hid (by omega)⟩
        case measure => simp [intOf]; omega
    · obtain rfl : i = cs.length := by omega
      have hBW := HB.out
      have hz := HZ.out
      clear HB HZ
      go_wp2_with fail
      refine (Tryz.Builder_String_any b b (bodyC cs cs.length) _ (.inr BI.out) hz).mono ?_
      rintro e y9 ⟨rfl, hy9⟩
      go_wp2_with fail
      go_ret
      exact ⟨rfl, hBW.trans (hy9.mono (by omega))⟩
theorem nodup_ids {xs : List Ch} : (xs.map (fun x => x.1)).Nodup ↔ ∀ i k (hi : i < xs.length) (hk : k < i), xs[k].1 ≠ xs[i].1 := by
  rw [List.Nodup, List.pairwise_iff_getElem]
  constructor
  · intro h i k hi hk
    have := h k i (by simpa using (by omega : k < xs.length)) (by simpa using hi) hk
    simpa using this
  · intro h i j hi hj hij
    have := h j i (by simpa using hj) hij
    simpa using this
theorem cgs_no {xs : List Ch} {i : Nat} (hi : i < xs.length) (h : cgb xs[i] = false) : cgs xs = false := by
  unfold cgs
  have : xs.all cgb = false := by
    rw [List.all_eq_false]
    exact ⟨xs[i], List.getElem_mem hi, by simp [h]⟩
  rw [this]; rfl
theorem cgs_two {xs : List Ch} {i k : Nat} (hi : i < xs.length) (hk : k < i) (h : xs[k].1 = xs[i].1) : cgs xs = false := by
  unfold cgs
  have : ¬ (xs.map (fun x => x.1)).Nodup := fun q => nodup_ids.1 q i k hi hk h
  simp [this]
theorem cgs_yes {xs : List Ch} (h1 : ∀ i (hi : i < xs.length), cgb xs[i] = true) (h2 : ∀ i k (hi : i < xs.length) (hk : k < i), xs[k].1 ≠ xs[i].1) : cgs xs = true := by
  unfold cgs
  have a1 : xs.all cgb = true := by
    rw [List.all_eq_true]
    intro x hx
    obtain ⟨k, hk, rfl⟩ := List.getElem_of_mem hx
    exact h1 k hk
  have a2 : (xs.map (fun x => x.1)).Nodup := nodup_ids.2 h2
  simp [a1, a2]
set_option maxRecDepth 100000 in
set_option maxHeartbeats 4000000 in
theorem spec_cgs {N : Nat → Prop} (a : Option Addr) (cap : Nat) (cs : List Ch) (w : World) (hm : cs.length ≤ 1099511627776) (h : Chs N 1099511627776 w a cs) : Calls Tryz.prog 23 #[.slice a cs.length cap] w fun e w' => e = .returned (.bool (cgs cs)) ∧ Below w.heap.size w w' := by
  have HR := hid h
  have HNO := hid (fun i (hi : i < cs.length) h => @cgs_no cs i hi h)
  have HTW := hid (fun i k (hi : i < cs.length) (hk : k < i) h => @cgs_two cs i k hi hk h)
  have HY := hid (@cgs_yes cs)
  clear h
  generalize cgs cs = sk at *
  go_enter Tryz.func23, Tryz.ntmps23
  go_wp2_with fail
  go_loopw [3] (fun ti wr => ∃ i : Nat, ti = .int .i64 i ∧ i ≤ cs.length ∧ Hid (∀ k (hk : k < cs.length), k < i → cgb cs[k] = true) ∧ Hid (∀ j k (hj : j < cs.length) (hk : k < j), j < i → cs[k].1 ≠ cs[j].1) ∧ Hid (Below w.heap.size w wr)) (fun ti _ => cs.length - (intOf ti).toNat)
  case atStart => exact ⟨0, rfl, Nat.zero_le _, hid (fun k hk q => absurd q (by omega)), hid (fun j k hj hk q => absurd q (by omega)), hid (Below.refl _ _)⟩
  case round =>
    obtain ⟨i, rfl, hi, HA, HD, HB⟩ := hrel
    by_cases hlt : i < cs.length
    · have c1 : (i : Int) < (cs.length : Int) := by omega
      obtain ⟨bb, o, rfl, hbs, a', cap', k0, k1, k2, k3, k4, k5, k6, _⟩ := HR.out.at i hlt
      have HK0 := hid (fun (W : World) (hb : Below w.heap.size w W) => keepcell hb k0)
      replace k0 := keepcell HB.out k0
      replace k1 := keepcell HB.out k1
      replace k2 := keepcell HB.out k2
      replace k3 := keepcell HB.out k3
      have HE := hid (show cgb cs[i] = (idb cs[i].1 && (if cs[i].2.1 = true then zsh cs[i].2.2.1 cs[i].2.2.2.length else shok cs[i].2.2.1 cs[i].2.2.2)) from rfl)
      have HS := hid (fun (W : World) (hb : Below w.heap.size w W) => spec_ShapeOk cs[i].2.2.1 a' cap' cs[i].2.2.2 W k5 k4 (k6.below hb))
      have HNi := hid (HNO.out i hlt)
      have HAi : Hid (cgb cs[i] = true → ∀ k (hk : k < cs.length), k < i + 1 → cgb cs[k] = true) := hid (fun q k hk hki => by
        by_cases e : k = i
        · subst e; exact q
        · exact HA.out k hk (by omega))
      unfold shv at HS
      clear k4 k5 k6
      obtain ⟨x, hx⟩ : ∃ x, x = cs[i].1 := ⟨_, rfl⟩
      rw [← hx] at HE k0 HK0
      have HX := hid hx
      clear hx
      generalize cgb cs[i] = cb at *
      generalize cs[i].2.1 = gn at *
      generalize cs[i].2.2.1 = kd at *
      generalize cs[i].2.2.2 = ps at *
      generalize shok kd ps = so at *
      generalize ps.length = np at *
      go_upto_region 4 with fail
      go_cut [60] (fun t60 wx => t60 = .bool (!cb) ∧ Below w.heap.size w wx)
      case first =>
        clear HNi HAi
        cases hib : idb x
        · have hq : cb = false := by rw [HE.out, hib]; rfl
          subst hq
          have HI := hid (fun W => spec_id x W)
          rw [hib] at HI
          clear hib
          go_wp2_with fail
          refine (HI.out _).mono ?_
          rintro e z ⟨rfl, hz⟩
          replace hz := hz.symm
          subst hz
          go_wp2_with fail
          go_meet
          exact ⟨rfl, HB.out⟩
        · have HI := hid (fun W => spec_id x W)
          rw [hib] at HI
          have hE2 : cb = (if gn = true then zsh kd np else so) := by rw [HE.out, hib]; rfl
          clear HE hib
          cases gn
          · have hq : cb = so := by rw [hE2]; rfl
            clear hE2
            subst hq
            go_wp2_with fail
            refine (HI.out _).mono ?_
            rintro e z ⟨rfl, hz⟩
            replace hz := hz.symm
            subst hz
            go_wp2_with fail
            refine (HS.out _ HB.out).mono ?_
            rintro e z ⟨rfl, hz⟩
            have hB2 := btrans HB.out hz
            replace k0 := keepcell hz k0
            replace k1 := keepcell hz k1
            replace k2 := keepcell hz k2
            replace k3 := keepcell hz k3
            clear hz
            cases cb
            · go_wp2_with fail
              go_meet
              exact ⟨rfl, hB2⟩
            · go_wp2_with fail
              go_meet
              exact ⟨rfl, hB2⟩
          · have hq : cb = zsh kd np := by rw [hE2]; rfl
            clear hE2 HS
            by_cases h0 : kd = 0
            · subst h0
              by_cases h1 : np = 0
              · subst h1
                have hq2 : cb = true := by rw [hq]; rfl
                clear hq
                subst hq2
                go_wp2_with fail
                refine (HI.out _).mono ?_
                rintro e z ⟨rfl, hz⟩
                replace hz := hz.symm
                subst hz
                go_wp2_with fail
                go_meet
                exact ⟨rfl, HB.out⟩
              · have h2 : (0 : Int) < (np : Int) := by omega
                have hq2 : cb = false := by rw [hq]; unfold zsh; simp [h1]
                clear hq
                subst hq2
                go_wp2_with fail
                refine (HI.out _).mono ?_
                rintro e z ⟨rfl, hz⟩
                replace hz := hz.symm
                subst hz
                go_wp2_with fail
                go_meet
                exact ⟨by simp; omega, HB.out⟩
            · have hq2 : cb = false := by rw [hq]; unfold zsh; simp [h0]
              clear hq
              subst hq2
              go_wp2_with fail
              refine (HI.out _).mono ?_
              rintro e z ⟨rfl, hz⟩
              replace hz := hz.symm
              subst hz
              go_wp2_with fail
              go_meet
              exact ⟨rfl, HB.out⟩
      case rest =>
        obtain ⟨rfl, hBc⟩ := hcut
        clear k0 k1 k2 k3 HE HS
        cases cb
        · have hq := HNi.out rfl
          subst hq
          go_wp2_with fail
          go_ret
          exact ⟨rfl, hBc⟩
        · have HA2 := hid (HAi.out rfl)
          have HB2 := hid hBc
          clear hBc HNi HAi HA HB
          go_wp2_with fail
          go_loopw [4] (fun tk wr => ∃ k : Nat, tk = .int .i64 k ∧ k ≤ i ∧ Hid (∀ j (hj : j < cs.length), j < k → cs[j].1 ≠ x) ∧ Hid (Below w.heap.size w wr)) (fun tk _ => i - (intOf tk).toNat)
          case atStart => exact ⟨0, rfl, Nat.zero_le _, hid (fun j hj q => absurd q (by omega)), HB2⟩
          case round =>
            clear HB2
            obtain ⟨k, rfl, hk, HN2, HB2⟩ := hrel
            by_cases hki : k < i
            · have c2 : (k : Int) < (i : Int) := by omega
              obtain ⟨bb', o', e', _, _, _, q0, _⟩ := HR.out.at k (by omega)
              cases e'
              replace q0 := keepcell HB2.out q0
              have k0 := HK0.out _ HB2.out
              have HT := hid (fun (e : cs[k].1 = x) => HTW.out i k hlt hki (by rw [← HX.out]; exact e))
              have HN3 : Hid (¬ cs[k].1 = x → ∀ j (hj : j < cs.length), j < k + 1 → cs[j].1 ≠ x) := hid (fun q j hj hjk => by
                by_cases e : j = k
                · subst e; exact q
                · exact HN2.out j hj (by omega))
              have c3 : (k : Int) < (cs.length : Int) := by omega
              generalize cs[k].1 = y at *
              have HBd := hid (fun q => Go.RowKit.Below.trans HB2.out (show Below w.heap.size wr (wr.drewN q) from ⟨rfl, rfl, rfl, Nat.le_refl _, fun _ _ => rfl⟩))
              by_cases he : y = x
              · have hq := HT.out he
                subst hq
                subst he
                go_wp2_with fail
                go_quiet (fail)
                go_wp2_with fail
                go_ret
                exact ⟨rfl, HBd.out _⟩
              · have HN4 := hid (HN3.out he)
                go_wp2_with fail
                go_quiet (fail)
                go_wp2_with fail
                go_roundw
                case rel => exact ⟨k + 1, by go_num, by omega, HN4, hid (HBd.out _)⟩
                case measure => simp [intOf]; omega
            · have c2 : (i : Int) ≤ (k : Int) := by omega
              have HD2 : Hid (∀ j k (hj : j < cs.length) (hk : k < j), j < i + 1 → cs[k].1 ≠ cs[j].1) := hid (fun j k' hj hk' q => by
                by_cases e : j = i
                · subst e
                  rw [← HX.out]
                  exact HN2.out k' (by omega) (by omega)
                · exact HD.out j k' hj hk' (by omega))
              go_wp2_with fail
              go_roundw
              case rel => exact ⟨i + 1, by go_num, by omega, HA2, HD2, HB2⟩
              case measure => simp [intOf]; omega
    · have c1 : (cs.length : Int) ≤ (i : Int) := by omega
      have hq := HY.out (fun k hk => HA.out k hk (by omega)) (fun j k hj hk => HD.out j k hj hk (by omega))
      subst hq
      go_wp2_with fail
      go_ret
      exact ⟨rfl, HB.out⟩
set_option maxRecDepth 100000 in
set_option maxHeartbeats 4000000 in
theorem spec_PutChanges {N : Nat → Prop} (a : Option Addr) (cap : Nat) (cs : List Ch) (w : World) (hm : cs.length ≤ 1099511627776) (h : Chs N 1099511627776 w a cs) : Calls Tryz.prog 34 #[.slice a cs.length cap] w fun e w' => e = .returned (.string (pcT cs)) ∧ Below w.heap.size w w' := by
  have HC := hid (spec_cgs a cap cs w hm h)
  have HR := hid h
  clear h
  unfold pcT pcb
  cases hs : cgs cs
  · rw [if_neg (by simp)]
    rw [hs] at HC
    clear hs HR
    go_enter Tryz.func34, Tryz.ntmps34
    go_wp2_with fail
    refine HC.out.mono ?_
    rintro e y ⟨rfl, hy⟩
    go_wp2_with fail
    go_ret
    exact ⟨rfl, hy⟩
  by_cases hgr : 100 < cs.length
  · have h100 : ¬ cs.length ≤ 100 := by omega
    rw [if_neg (by simp [h100])]
    rw [hs] at HC
    have c1 : (100 : Int) < (cs.length : Int) := by omega
    clear hs HR
    go_enter Tryz.func34, Tryz.ntmps34
    go_wp2_with fail
    refine HC.out.mono ?_
    rintro e y ⟨rfl, hy⟩
    go_wp2_with fail
    go_ret
    exact ⟨rfl, hy⟩
  have h100 : cs.length ≤ 100 := by omega
  clear hgr
  have c0 : ¬ ((100 : Int) < (cs.length : Int)) := by omega
  rw [if_pos (by simp [h100])]
  rw [show (⟨(bodyC cs cs.length).toArray⟩ : ByteArray) = tC cs cs.length from rfl]
  rw [hs] at HC
  have HA := hid (cgs_all hs)
  have HL := hid (fun i (hi : i ≤ cs.length) => bodyC_len (cgs_all hs) i hi)
  have HF := hid (tC_first cs)
  have HCP := hid (fun (W : World) => spec_put cs.length (by omega) W)
  rw [HF.out] at HCP
  clear hs
  go_enter Tryz.func34, Tryz.ntmps34
  go_wp2_with fail
  refine HC.out.mono ?_
  rintro e u1 ⟨rfl, hBX⟩
  clear HC
  go_wp2_with fail
  refine (HCP.out _).mono ?_
  rintro e u2 ⟨rfl, hu2⟩
  replace hBX := btrans hBX hu2
  clear hu2 HCP
  go_wp2_with fail
  go_loopw [3, 4] (fun t3 ti wr => ∃ i : Nat, ti = .int .i64 i ∧ i ≤ cs.length ∧ t3 = .string (tC cs i) ∧ Hid (Below w.heap.size w wr)) (fun _ ti _ => cs.length - (intOf ti).toNat)
  case atStart => exact ⟨0, rfl, Nat.zero_le _, rfl, hid hBX⟩
  case round =>
    clear hBX
    obtain ⟨i, rfl, hi, rfl, HB⟩ := hrel
    by_cases hlt : i < cs.length
    · have c1 : (i : Int) < (cs.length : Int) := by omega
      obtain ⟨bb, o, rfl, hbs, a', cap', k0, k1, k2, k3, k4, k5, k6, _⟩ := HR.out.at i hlt
      replace k0 := keepcell HB.out k0
      replace k1 := keepcell HB.out k1
      replace k2 := keepcell HB.out k2
      replace k3 := keepcell HB.out k3
      obtain ⟨⟨m, hm1, hm2⟩, hsh⟩ := cgb_parts (HA.out i hlt)
      have hl := HL.out i hi
      have htb : (tC cs i).size ≤ 612 * i + 5 := by have e : (tC cs i).size = (bodyC cs i).length := List.size_toArray; omega
      have HG1 := hid (fun hg => tC_gone (m := m) hlt hm1 hg)
      have HG0 := hid (fun hg => tC_there (m := m) hlt hm1 hg)
      have HPS := hid (fun (W : World) (hb : Below w.heap.size w W) => spec_PutShape cs[i].2.2.1 a' cap' cs[i].2.2.2 W k5 k4 (k6.below hb))
      have HSZ := hid (fun hg => psT_size (hsh hg))
      have HPN := hid (fun (W : World) => spec_put m (by omega) W)
      have PSm := put_size m
      unfold shv at HPS
      clear k4 k5 k6 hsh hl
      rw [hm1] at k0
      clear hm1
      generalize cs[i].2.1 = gn at *
      generalize cs[i].2.2.1 = kd at *
      generalize cs[i].2.2.2 = ps at *
      generalize ps.length = np at *
      generalize psT kd ps = pT at *
      generalize strOfNums (G 5 m) = nT at *
      generalize tC cs i = tb at *
      have hcat1 : ¬ 9223372036854775807 < tb.size + nT.size := by omega
      have hcat2 : ¬ 9223372036854775807 < tb.size + nT.size + 1 := by omega
      cases gn
      · have HN1 := hid (HG0.out rfl)
        obtain ⟨z1, z2⟩ := HSZ.out rfl
        have hcat3 : ¬ 9223372036854775807 < tb.size + nT.size + 1 + pT.size := by omega
        clear HG0 HG1 HSZ z1 z2 PSm htb
        go_wp2_with fail
        refine (HPN.out _).mono ?_
        rintro e y1 ⟨rfl, hy1⟩
        have HB1 := hid (btrans HB.out hy1)
        replace k0 := keepcell hy1 k0
        replace k1 := keepcell hy1 k1
        replace k2 := keepcell hy1 k2
        replace k3 := keepcell hy1 k3
        clear hy1 HB HPN
        go_wp2_with fail
        refine (HPS.out _ HB1.out).mono ?_
        rintro e y2 ⟨rfl, hy2⟩
        have HB2 := hid (btrans HB1.out hy2)
        clear hy2 HB1 HPS k0 k1 k2 k3
        go_wp2_with fail
        go_roundw
        case rel => exact ⟨i + 1, by go_num, by omega, by rw [← HN1.out], HB2⟩
        case measure => simp [intOf]; omega
      · have HN1 := hid (HG1.out rfl)
        clear HG0 HG1 HSZ HPS PSm htb
        go_wp2_with fail
        refine (HPN.out _).mono ?_
        rintro e y1 ⟨rfl, hy1⟩
        have HB1 := hid (btrans HB.out hy1)
        replace k0 := keepcell hy1 k0
        replace k1 := keepcell hy1 k1
        clear hy1 HB HPN
        go_wp2_with fail
        go_roundw
        case rel => exact ⟨i + 1, by go_num, by omega, by rw [← HN1.out], HB1⟩
        case measure => simp [intOf]; omega
    · obtain rfl : i = cs.length := by omega
      go_wp2_with fail
      go_ret
      exact ⟨rfl, HB.out⟩
end Go.Proofs.YtfjmbbjcghopgaaGreatDoor
