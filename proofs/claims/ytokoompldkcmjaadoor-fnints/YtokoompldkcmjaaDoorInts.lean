/- For every code: the landed ReadInt, DecText, Words, CheckSum and CoordOk answer as the specification's at what the code draws; a number comes back from its text; a text with one byte changed has another sum. -/
import Derived.Test.YtokoompldkcmjaaDoorTexts3
import Derived.Lib.ConvBytes
import Derived.Lib.AtoiErrMem
import Derived.Deep.RegionHeld3
namespace Go.Proofs.YtokoompldkcmjaaDoor
open Go.RowKit
set_option linter.unusedVariables false
theorem by8_get (t : ByteArray) (j : Nat) (hj : j < t.size) : (t.data.toList.getD j 0).toNat = by8 t j := by
  unfold by8
  rw [dif_pos hj]
  simp [List.getD, hj]
  rfl
theorem bytes_below (w : World) (e : TypeId) (t : ByteArray) : Below w.heap.size w (Lib.bytesWorld w e t) := Lib.bytesWorld_below w e t
theorem bytes_at (w : World) (e : TypeId) (t : ByteArray) : ∀ j, j < t.size → (Lib.bytesWorld w e t).cell? ⟨w.heap.size, j, none⟩ = some (.int .u8 ((by8 t j : Nat) : Int)) ∧ (Lib.bytesWorld w e t).frozen? ⟨w.heap.size, j, none⟩ = false := by
  intro j hj
  refine ⟨?_, ?_⟩
  · rw [Lib.bytesWorld_cell w e t j hj, by8_get t j hj]
  · have h := Lib.bytesWorld_at_new w e t
    have hs : t.size ≤ (Lib.bytesCells w e t).size := by simp [Lib.bytesCells]
    simp only [World.frozen?, h]
    simp
    omega
theorem xor_other (b c : Nat) (hb : b < 256) (hc : c < 256) (h0 : c ≠ 0) : ∃ X : Nat, bits .xor .u8 (b : Int) (c : Int) = (X : Int) ∧ X < 256 ∧ X ≠ b := by
  refine ⟨b ^^^ c, u8_xor_nat b c hb hc, Nat.xor_lt_two_pow (n := 8) hb hc, fun h => h0 ?_⟩
  have e : b ^^^ (b ^^^ c) = c := by rw [← Nat.xor_assoc, Nat.xor_self, Nat.zero_xor]
  rw [h, Nat.xor_self] at e
  exact e.symm
theorem xor_q (b q : Nat) (hb : b < 256) : ∃ X : Nat, bits .xor .u8 (b : Int) (IntKind.u8.wrap (IntKind.i64.wrap (1 + (q : Int).tmod 255))) = (X : Int) ∧ X < 256 ∧ X ≠ b := by
  have e : IntKind.u8.wrap (IntKind.i64.wrap (1 + (q : Int).tmod 255)) = ((1 + q % 255 : Nat) : Int) := by
    have e0 : (q : Int).tmod 255 = ((q % 255 : Nat) : Int) := rfl
    rw [e0, IntWalk.i64_in _ ⟨by omega, by omega⟩, IntWalk.u8_in _ ⟨by omega, by omega⟩]
    omega
  rw [e]
  exact xor_other b (1 + q % 255) hb (by omega) (by omega)
/-- The text t with X for the byte at i. -/
def chg (t : ByteArray) (i X : Nat) : ByteArray := strOfNums ((List.range t.size).map (fun j => if j = i then (X : Int) else (by8 t j : Int)))
theorem chg_size (t : ByteArray) (i X : Nat) : (chg t i X).size = t.size := by unfold chg; rw [strOfNums_size]; simp
theorem chg_by8 (t : ByteArray) (i X k : Nat) (hX : X < 256) (hi : i < t.size) : by8 (chg t i X) k = if k = i then X else by8 t k := by
  by_cases hk : k < t.size
  · have h1 : k < (chg t i X).size := by rw [chg_size]; exact hk
    rw [← by8_get (chg t i X) k h1]
    have h2 := by8_lt t k
    unfold chg
    rw [strOfNums_data]
    simp only [List.getD, List.getElem?_map, List.getElem?_range hk, Option.map_some, Option.getD_some]
    split
    · simp only [Int.toNat_natCast, UInt8.toNat_ofNat']; omega
    · simp only [Int.toNat_natCast, UInt8.toNat_ofNat']; omega
  · have h1 : ¬ k < (chg t i X).size := by rw [chg_size]; exact hk
    unfold by8
    rw [dif_neg h1, dif_neg hk, if_neg (by omega)]
theorem chg_sum (t : ByteArray) (i X : Nat) (hX : X < 256) (hi : i < t.size) (hne : X ≠ by8 t i) : sum (chg t i X) ≠ sum t := by
  refine sum_other (chg t i X) t (chg_size t i X) i (by rw [chg_size]; exact hi) ?_ (fun k hk => ?_)
  · rw [chg_by8 t i X i hX hi, if_pos rfl]; exact hne
  · rw [chg_by8 t i X k hX hi, if_neg hk]
theorem chg_conv (t : ByteArray) (i X G cp : Nat) (y : World) (hi : i < t.size) (hc : ∀ j, j < t.size → y.cell? ⟨G, j, none⟩ = some (.int .u8 ((by8 t j : Nat) : Int)) ∧ y.frozen? ⟨G, j, none⟩ = false) :
    (convert 22 9 (.slice (some ⟨G, 0, none⟩) t.size cp)).run Tryd.prog (y.setCell ⟨G, i, none⟩ (.int .u8 (X : Int))) = .ok (.string (chg t i X)) (y.setCell ⟨G, i, none⟩ (.int .u8 (X : Int))) := by
  refine run_convert_bytes_arg _ 22 5 Tryd.underlying22 Tryd.underlying5 G 0 t.size cp _ (by simp) (fun j hj => ?_) 9 Tryd.underlying9
  simp only [List.getD, List.getElem?_map, List.getElem?_range hj, Option.map_some, Option.getD_some, Nat.zero_add]
  by_cases h : j = i
  · subst h
    rw [if_pos rfl]
    exact World.cell?_setCell_same _ _ _ (hc j hj).1
  · rw [if_neg h]
    exact (World.cell?_setCell_other _ _ _ _ (by intro e; injection e with e1 e2 e3; omega)).trans (hc j hj).1
theorem sum_nil (t : ByteArray) (h : t.size = 0) : sum t = 1 := by unfold sum; rw [h]; rfl
set_option maxRecDepth 100000 in
set_option maxHeartbeats 4000000 in
theorem ints_w (a0 : Option Addr) (len0 cap0 : Nat) (z0 : List Int) (w : World) (w0 : IsRow .u8 w a0 len0 cap0 z0) (hL : Libs w) :
    Calls Tryd.prog 3 #[.slice a0 len0 cap0] w fun e w' => e = .returned (.bool true) ∧ Below w.heap.size w w' := by
  have HL := hid hL
  clear hL
  have hlen := len_of w0
  by_cases hbig : len0 ≤ 1048576
  rotate_left
  · have hd : 1048576 < (len0 : Int) := by omega
    clear w0
    go_enter Tryd.func3, Tryd.ntmps3
    go_wp2_with (go_at_call 6; go_in)
    go_ret
    exact ⟨rfl, Below.refl _ _⟩
  have hc := code_of w0 hbig
  have hd : (len0 : Int) ≤ 1048576 := by omega
  have HC := hid hc
  clear hc w0
  go_enter Tryd.func3, Tryd.ntmps3
  go_wp2_with (go_at_call 6; go_in)
  refine (draw_readint _ a0 len0 cap0 HC.out).mono ?_
  rintro e w1 ⟨s, rfl, hs, hB⟩
  go_wp2_with fail
  refine (impl_read s _ (HL.out.1 s _ (by omega) hB).1 (HL.out.1 s _ (by omega) hB).2.1 (fun v w' h0 h1 hb' => HL.out.2.1 v w' h0 h1 (btrans hB hb'))).mono ?_
  rintro e w2 ⟨⟨n, ok, rfl, ha⟩, hcl⟩
  replace hB := btrans hB hcl
  have Ha := hid ha
  clear hcl ha
  go_wp2_with fail
  refine (spec_read s (by omega) _).mono ?_
  rintro e w3 ⟨⟨n', ok', rfl, ha'⟩, hw⟩
  subst hw
  obtain ⟨rfl, rfl⟩ := Ha.out.same ha'
  clear ha'
  go_wp2_with fail
  refine (draw_dectext _ a0 len0 cap0 ((HC.out.below hB).mono hB.size)).mono ?_
  rintro e w4 ⟨x, rfl, hx, hcl⟩
  replace hB := btrans hB hcl
  clear hcl
  go_wp2_with fail
  refine (draw_words _ a0 len0 cap0 ((HC.out.below hB).mono hB.size)).mono ?_
  rintro e w5 ⟨u, rfl, hu, hcl⟩
  replace hB := btrans hB hcl
  clear hcl
  go_wp2_with fail
  refine (draw_checksum _ a0 len0 cap0 ((HC.out.below hB).mono hB.size)).mono ?_
  rintro e w6 ⟨t, rfl, ht, hcl⟩
  replace hB := btrans hB hcl
  clear hcl
  have CD := hid (fun w' (hb : Below w.heap.size w w') => impl_dec x hx.1 hx.2 w w' HL.out.2.1 hb)
  have CDs := hid (fun w' => spec_dec x hx.1 hx.2 w')
  generalize (⟨(Lib.itoa x).toArray⟩ : ByteArray) = dx at CD CDs
  clear hx
  cases ok
  · skip
    go_wp2_with fail
    refine (CD.out _ hB).mono ?_
    rintro e v1 ⟨rfl, hcl⟩
    replace hB := btrans hB hcl
    clear hcl
    go_wp2_with fail
    refine (CDs.out _).mono ?_
    rintro e v2 ⟨rfl, hw⟩
    subst hw
    go_wp2_with fail
    refine (impl_words u (by omega) _ ((HL.out.1 u _ (by omega) hB).2.2) HL.out.2.2).mono ?_
    rintro e v3 ⟨g, rfl, hg, hT, hcl⟩
    replace hB := btrans hB hcl
    clear hcl
    have hrl : (rest u u.size 0 0).length ≤ 2097152 := by have := (rest_len u u.size 0 0).2; omega
    go_wp2_with fail
    refine (spec_words u (by omega) _).mono ?_
    rintro e v4 ⟨g2, cap2, rfl, hg2, hT2, hcl⟩
    replace hB := btrans hB hcl
    replace hT := hT.kept (grown_all hcl none) (by simp)
    clear hcl
    have HS := hid (same_c v4 g _ g2 cap2 _ hrl hT hT2)
    generalize (rest u u.size 0 0).length = rl at *
    clear hT hT2
    go_wp2_with fail
    refine HS.out.mono ?_
    rintro e v5 ⟨rfl, k, hw⟩
    subst hw
    replace hB := btrans hB (below_drewN _ v4 k)
    generalize v4.drewN k = v6 at *
    clear HS
    go_wp2_with fail
    refine (impl_sum t (by unfold maxLen; omega) _).mono ?_
    rintro e v7 ⟨rfl, hw⟩
    subst hw
    go_wp2_with fail
    refine (spec_sum t (by unfold maxLen; omega) _).mono ?_
    rintro e v8 ⟨rfl, hw⟩
    subst hw
    go_wp2_with fail
    refine (impl_coord x _).mono ?_
    rintro e v9 ⟨rfl, hw⟩
    subst hw
    go_wp2_with fail
    refine (spec_coord x _).mono ?_
    rintro e v10 ⟨rfl, hw⟩
    subst hw
    by_cases ht0 : t.size = 0
    · have e0 := empty_of t ht0
      have CS := hid (fun w' => impl_sum t (by unfold maxLen; omega) w')
      rw [sum_nil t ht0] at CS
      go_wp2_with fail
      refine (CS.out _).mono ?_
      rintro e v11 ⟨rfl, hw⟩
      subst hw
      go_wp2_with fail
      go_ret
      exact ⟨rfl, hB⟩
    · have e0 := some_of t ht0
      have hcv := Lib.run_convert_string_bytes (P := Tryd.prog) v10 9 22 5 t Tryd.underlying9 Tryd.underlying22 Tryd.underlying5
      have hGw0 := hB.size
      have hbw : Below v10.heap.size v10 (Lib.bytesWorld v10 5 t) := bytes_below v10 5 t
      have hcell := bytes_at v10 5 t
      go_wp2_with fail
      replace hB := btrans hB hbw
      clear hcv hbw
      generalize Lib.bytesWorld v10 5 t = y at *
      generalize grownCap v10 t.size 0 5 = cp at *
      have hGw := hGw0
      generalize v10.heap.size = G at *
      refine (at_i _ a0 len0 cap0 _ 2 (by omega) (HC.out.below hB)).mono ?_
      rintro e v11 ⟨p, rfl, ⟨p0, p1⟩, hw⟩
      subst hw
      obtain ⟨p, rfl⟩ := Int.eq_ofNat_of_zero_le p0
      have hz : (t.size : Int) ≠ 0 := by omega
      go_wp2_with fail
      obtain ⟨i, hi, hil⟩ : ∃ i : Nat, (p : Int) % (t.size : Int) = (i : Int) ∧ i < t.size := ⟨p % t.size, by omega, Nat.mod_lt _ (by omega)⟩
      rw [hi]
      clear hi p0 p1
      have hil' : (i : Int) < (t.size : Int) := by omega
      refine wp_region_held_drew (S := (fun _ => True)) (by kernel_rfl) ?_ (fun hHeld => ?_)
      · trivial
      have hci := (hcell i hil).1
      have hfi := (hcell i hil).2
      have HCL := hid hcell
      clear hcell
      replace HCL : Hid (∀ j, j < t.size → v11.drew.cell? ⟨G, j, none⟩ = some (.int .u8 ((by8 t j : Nat) : Int)) ∧ v11.drew.frozen? ⟨G, j, none⟩ = false) := HCL
      replace hci : v11.drew.cell? ⟨G, i, none⟩ = some (.int .u8 ((by8 t i : Nat) : Int)) := hci
      replace hfi : v11.drew.frozen? ⟨G, i, none⟩ = false := hfi
      replace hB := bdrew hB
      generalize v11.drew = y1 at *
      have h8 := by8_lt t i
      refine wpAnyH_take (i := 0) (v := ?_) rfl (by kernel_rfl) (by kernel_rfl) (by kernel_rfl) (fun _ _ _ h => h) (Or.inl ⟨by rfl, ?_⟩) hHeld ?_
      rotate_left
      · intro w hSw; (try dsimp only at hSw); go_simp; try (with_reducible rfl)
      try simp only [sq]
      refine wpAnyH_take (i := 1) (v := ?_) rfl (by kernel_rfl) (by kernel_rfl) (by kernel_rfl) (fun _ _ _ h => h) (Or.inl ⟨by rfl, ?_⟩) hHeld ?_
      rotate_left
      · intro w hSw; (try dsimp only at hSw); go_simp; try (with_reducible rfl)
      try simp only [sq]
      refine wpAnyH_take (i := 2) (v := ?_) rfl (by kernel_rfl) (by kernel_rfl) (by kernel_rfl) (fun _ _ _ h => h) (Or.inl ⟨by rfl, ?_⟩) hHeld ?_
      rotate_left
      · intro w hSw; (try dsimp only at hSw); go_simp; try (with_reducible rfl)
      try simp only [sq]
      refine wpAnyH_take (i := 3) (v := ?_) rfl (by kernel_rfl) (by kernel_rfl) (by kernel_rfl) (fun _ _ _ h => h) (Or.inl ⟨by rfl, ?_⟩) hHeld ?_
      rotate_left
      · intro w hSw; (try dsimp only at hSw); go_simp; try (with_reducible rfl)
      try simp only [sq]
      refine wpAnyH_take (i := 4) (v := ?_) rfl (by kernel_rfl) (by kernel_rfl) (by kernel_rfl) (fun _ _ _ h => h) (Or.inl ⟨by rfl, ?_⟩) hHeld ?_
      rotate_left
      · intro w hSw; (try dsimp only at hSw); go_simp; try (with_reducible rfl)
      try simp only [sq]
      refine wpAnyH_take (i := 6) (v := ?_) rfl (by kernel_rfl) (by kernel_rfl) (by kernel_rfl) (fun _ _ _ h => h) (Or.inl ⟨by rfl, ?_⟩) hHeld ?_
      rotate_left
      · intro w hSw; (try dsimp only at hSw); go_simp; try (with_reducible rfl)
      try simp only [sq]
      refine wpAnyH_ready (rs := [5, 7]) (by kernel_rfl) (by simp) ?_
      refine (AllReadyH.cons rfl (fun K hK => ?_) (AllReadyH.cons rfl (fun K hK => ?_) AllReadyH.nil))
      · skip
        try simp only [sq]
        go_simp
        refine hK.out _ _ trivial (fun hHeld => ?_)
        clear hK K
        try simp only [sq]
        refine wpAnyH_ready (rs := [7]) (by kernel_rfl) (by simp) ?_
        refine (AllReadyH.cons rfl (fun K hK => ?_) AllReadyH.nil)
        try simp only [sq]
        go_simp
        go_at_call 22
        refine (at_i _ a0 len0 cap0 _ 3 (by omega) (HC.out.below hB)).mono ?_
        rintro e y2 ⟨q, rfl, ⟨q0, q1⟩, hw⟩
        replace hw := hw.symm
        subst hw
        obtain ⟨q, rfl⟩ := Int.eq_ofNat_of_zero_le q0
        go_wp2_with fail
        refine hK.out _ _ trivial (fun hHeld => ?_)
        clear hK K
        try simp only [sq]
        refine wpAnyH_take (i := 8) (v := ?_) rfl (by kernel_rfl) (by kernel_rfl) (by kernel_rfl) (fun _ _ _ h => h) (Or.inl ⟨by rfl, ?_⟩) hHeld ?_
        rotate_left
        · intro w hSw; (try dsimp only at hSw); go_simp; try (with_reducible rfl)
        try simp only [sq]
        refine wpAnyH_take (i := 9) (v := ?_) rfl (by kernel_rfl) (by kernel_rfl) (by kernel_rfl) (fun _ _ _ h => h) (Or.inl ⟨by rfl, ?_⟩) hHeld ?_
        rotate_left
        · intro w hSw; (try dsimp only at hSw); go_simp; try (with_reducible rfl)
        try simp only [sq]
        refine wpAnyH_take (i := 10) (v := ?_) rfl (by kernel_rfl) (by kernel_rfl) (by kernel_rfl) (fun _ _ _ h => h) (Or.inl ⟨by rfl, ?_⟩) hHeld ?_
        rotate_left
        · intro w hSw; (try dsimp only at hSw); go_simp; try (with_reducible rfl)
        try simp only [sq]
        refine wpAnyH_take (i := 11) (v := ?_) rfl (by kernel_rfl) (by kernel_rfl) (by kernel_rfl) (fun _ _ _ h => h) (Or.inl ⟨by rfl, ?_⟩) hHeld ?_
        rotate_left
        · intro w hSw; (try dsimp only at hSw); go_simp; try (with_reducible rfl)
        try simp only [sq]
        refine wpAnyH_take (i := 12) (v := ?_) rfl (by kernel_rfl) (by kernel_rfl) (by kernel_rfl) (fun _ _ _ h => h) (Or.inl ⟨by rfl, ?_⟩) hHeld ?_
        rotate_left
        · intro w hSw; (try dsimp only at hSw); go_simp; try (with_reducible rfl)
        try simp only [sq]
        refine wpAnyH_ready (rs := [13]) (by kernel_rfl) (by simp) ?_
        refine (AllReadyH.cons rfl (fun K hK => ?_) AllReadyH.nil)
        try simp only [sq]
        go_simp
        refine hK.out _ _ trivial (fun hHeld => ?_)
        clear hK K
        try simp only [sq]
        refine wpAnyH_done (by kernel_rfl) ?_ _
        obtain ⟨X, hX, hX1, hX2⟩ := xor_q (by8 t i) q (by omega)
        rw [hX]
        have hcv := chg_conv t i X G cp y1 hil HCL.out
        have hB2 : Below w.heap.size w (y1.setCell ⟨G, i, none⟩ (.int .u8 (X : Int))) := hB.grown (grown_set y1 G i _) hB.size (fun k hk => by simp at hk; omega)
        have CS1 := hid (fun w' => impl_sum (chg t i X) (by rw [chg_size]; unfold maxLen; omega) w')
        have CS2 := hid (fun w' => impl_sum t (by unfold maxLen; omega) w')
        have hAB := chg_sum t i X hX1 hil hX2
        clear hX HCL hci hfi hB
        generalize sum (chg t i X) = A at CS1 hAB
        generalize sum t = B at CS2 hAB ⊢
        generalize chg t i X = t2 at CS1 hcv
        generalize y1.setCell ⟨G, i, none⟩ (.int .u8 (X : Int)) = y3 at hcv hB2 ⊢
        have hAB' : ((A : Int) != (B : Int)) = true := by rw [bne_iff_ne]; omega
        go_wp2_with fail
        refine (CS1.out _).mono ?_
        rintro e z1 ⟨rfl, hw⟩
        replace hw := hw.symm
        subst hw
        go_wp2_with fail
        refine (CS2.out _).mono ?_
        rintro e z2 ⟨rfl, hw⟩
        replace hw := hw.symm
        subst hw
        go_wp2_with fail
        go_ret
        exact ⟨rfl, hB2⟩
      · skip
        try simp only [sq]
        go_simp
        go_at_call 22
        refine (at_i _ a0 len0 cap0 _ 3 (by omega) (HC.out.below hB)).mono ?_
        rintro e y2 ⟨q, rfl, ⟨q0, q1⟩, hw⟩
        replace hw := hw.symm
        subst hw
        obtain ⟨q, rfl⟩ := Int.eq_ofNat_of_zero_le q0
        go_wp2_with fail
        refine hK.out _ _ trivial (fun hHeld => ?_)
        clear hK K
        try simp only [sq]
        refine wpAnyH_take (i := 8) (v := ?_) rfl (by kernel_rfl) (by kernel_rfl) (by kernel_rfl) (fun _ _ _ h => h) (Or.inl ⟨by rfl, ?_⟩) hHeld ?_
        rotate_left
        · intro w hSw; (try dsimp only at hSw); go_simp; try (with_reducible rfl)
        try simp only [sq]
        refine wpAnyH_take (i := 9) (v := ?_) rfl (by kernel_rfl) (by kernel_rfl) (by kernel_rfl) (fun _ _ _ h => h) (Or.inl ⟨by rfl, ?_⟩) hHeld ?_
        rotate_left
        · intro w hSw; (try dsimp only at hSw); go_simp; try (with_reducible rfl)
        try simp only [sq]
        refine wpAnyH_take (i := 10) (v := ?_) rfl (by kernel_rfl) (by kernel_rfl) (by kernel_rfl) (fun _ _ _ h => h) (Or.inl ⟨by rfl, ?_⟩) hHeld ?_
        rotate_left
        · intro w hSw; (try dsimp only at hSw); go_simp; try (with_reducible rfl)
        try simp only [sq]
        refine wpAnyH_ready (rs := [5]) (by kernel_rfl) (by simp) ?_
        refine (AllReadyH.cons rfl (fun K hK => ?_) AllReadyH.nil)
        try simp only [sq]
        go_simp
        refine hK.out _ _ trivial (fun hHeld => ?_)
        clear hK K
        try simp only [sq]
        refine wpAnyH_take (i := 11) (v := ?_) rfl (by kernel_rfl) (by kernel_rfl) (by kernel_rfl) (fun _ _ _ h => h) (Or.inl ⟨by rfl, ?_⟩) hHeld ?_
        rotate_left
        · intro w hSw; (try dsimp only at hSw); go_simp; try (with_reducible rfl)
        try simp only [sq]
        refine wpAnyH_take (i := 12) (v := ?_) rfl (by kernel_rfl) (by kernel_rfl) (by kernel_rfl) (fun _ _ _ h => h) (Or.inl ⟨by rfl, ?_⟩) hHeld ?_
        rotate_left
        · intro w hSw; (try dsimp only at hSw); go_simp; try (with_reducible rfl)
        try simp only [sq]
        refine wpAnyH_ready (rs := [13]) (by kernel_rfl) (by simp) ?_
        refine (AllReadyH.cons rfl (fun K hK => ?_) AllReadyH.nil)
        try simp only [sq]
        go_simp
        refine hK.out _ _ trivial (fun hHeld => ?_)
        clear hK K
        try simp only [sq]
        refine wpAnyH_done (by kernel_rfl) ?_ _
        obtain ⟨X, hX, hX1, hX2⟩ := xor_q (by8 t i) q (by omega)
        rw [hX]
        have hcv := chg_conv t i X G cp y1 hil HCL.out
        have hB2 : Below w.heap.size w (y1.setCell ⟨G, i, none⟩ (.int .u8 (X : Int))) := hB.grown (grown_set y1 G i _) hB.size (fun k hk => by simp at hk; omega)
        have CS1 := hid (fun w' => impl_sum (chg t i X) (by rw [chg_size]; unfold maxLen; omega) w')
        have CS2 := hid (fun w' => impl_sum t (by unfold maxLen; omega) w')
        have hAB := chg_sum t i X hX1 hil hX2
        clear hX HCL hci hfi hB
        generalize sum (chg t i X) = A at CS1 hAB
        generalize sum t = B at CS2 hAB ⊢
        generalize chg t i X = t2 at CS1 hcv
        generalize y1.setCell ⟨G, i, none⟩ (.int .u8 (X : Int)) = y3 at hcv hB2 ⊢
        have hAB' : ((A : Int) != (B : Int)) = true := by rw [bne_iff_ne]; omega
        go_wp2_with fail
        refine (CS1.out _).mono ?_
        rintro e z1 ⟨rfl, hw⟩
        replace hw := hw.symm
        subst hw
        go_wp2_with fail
        refine (CS2.out _).mono ?_
        rintro e z2 ⟨rfl, hw⟩
        replace hw := hw.symm
        subst hw
        go_wp2_with fail
        go_ret
        exact ⟨rfl, hB2⟩
  · have hne : (⟨(Lib.itoa n).toArray⟩ : ByteArray) = s := by
      rcases Ha.out with ⟨_, h, _⟩ | ⟨h, _⟩
      · rw [← h]
      · cases h
    have hn : -999999999 ≤ n ∧ n ≤ 999999999 := by
      rcases Ha.out with ⟨_, _, h⟩ | ⟨h, _⟩
      · exact h
      · cases h
    have CN := hid (fun w' (hb : Below w.heap.size w w') => impl_dec n (by omega) (by omega) w w' HL.out.2.1 hb)
    rw [hne] at CN
    clear hne hn
    go_wp2_with fail
    refine (CN.out _ hB).mono ?_
    rintro e v0 ⟨rfl, hcl⟩
    replace hB := btrans hB hcl
    clear hcl CN
    go_wp2_with fail
    refine (CD.out _ hB).mono ?_
    rintro e v1 ⟨rfl, hcl⟩
    replace hB := btrans hB hcl
    clear hcl
    go_wp2_with fail
    refine (CDs.out _).mono ?_
    rintro e v2 ⟨rfl, hw⟩
    subst hw
    go_wp2_with fail
    refine (impl_words u (by omega) _ ((HL.out.1 u _ (by omega) hB).2.2) HL.out.2.2).mono ?_
    rintro e v3 ⟨g, rfl, hg, hT, hcl⟩
    replace hB := btrans hB hcl
    clear hcl
    have hrl : (rest u u.size 0 0).length ≤ 2097152 := by have := (rest_len u u.size 0 0).2; omega
    go_wp2_with fail
    refine (spec_words u (by omega) _).mono ?_
    rintro e v4 ⟨g2, cap2, rfl, hg2, hT2, hcl⟩
    replace hB := btrans hB hcl
    replace hT := hT.kept (grown_all hcl none) (by simp)
    clear hcl
    have HS := hid (same_c v4 g _ g2 cap2 _ hrl hT hT2)
    generalize (rest u u.size 0 0).length = rl at *
    clear hT hT2
    go_wp2_with fail
    refine HS.out.mono ?_
    rintro e v5 ⟨rfl, k, hw⟩
    subst hw
    replace hB := btrans hB (below_drewN _ v4 k)
    generalize v4.drewN k = v6 at *
    clear HS
    go_wp2_with fail
    refine (impl_sum t (by unfold maxLen; omega) _).mono ?_
    rintro e v7 ⟨rfl, hw⟩
    subst hw
    go_wp2_with fail
    refine (spec_sum t (by unfold maxLen; omega) _).mono ?_
    rintro e v8 ⟨rfl, hw⟩
    subst hw
    go_wp2_with fail
    refine (impl_coord x _).mono ?_
    rintro e v9 ⟨rfl, hw⟩
    subst hw
    go_wp2_with fail
    refine (spec_coord x _).mono ?_
    rintro e v10 ⟨rfl, hw⟩
    subst hw
    by_cases ht0 : t.size = 0
    · have e0 := empty_of t ht0
      have CS := hid (fun w' => impl_sum t (by unfold maxLen; omega) w')
      rw [sum_nil t ht0] at CS
      go_wp2_with fail
      refine (CS.out _).mono ?_
      rintro e v11 ⟨rfl, hw⟩
      subst hw
      go_wp2_with fail
      go_ret
      exact ⟨rfl, hB⟩
    · have e0 := some_of t ht0
      have hcv := Lib.run_convert_string_bytes (P := Tryd.prog) v10 9 22 5 t Tryd.underlying9 Tryd.underlying22 Tryd.underlying5
      have hGw0 := hB.size
      have hbw : Below v10.heap.size v10 (Lib.bytesWorld v10 5 t) := bytes_below v10 5 t
      have hcell := bytes_at v10 5 t
      go_wp2_with fail
      replace hB := btrans hB hbw
      clear hcv hbw
      generalize Lib.bytesWorld v10 5 t = y at *
      generalize grownCap v10 t.size 0 5 = cp at *
      have hGw := hGw0
      generalize v10.heap.size = G at *
      refine (at_i _ a0 len0 cap0 _ 2 (by omega) (HC.out.below hB)).mono ?_
      rintro e v11 ⟨p, rfl, ⟨p0, p1⟩, hw⟩
      subst hw
      obtain ⟨p, rfl⟩ := Int.eq_ofNat_of_zero_le p0
      have hz : (t.size : Int) ≠ 0 := by omega
      go_wp2_with fail
      obtain ⟨i, hi, hil⟩ : ∃ i : Nat, (p : Int) % (t.size : Int) = (i : Int) ∧ i < t.size := ⟨p % t.size, by omega, Nat.mod_lt _ (by omega)⟩
      rw [hi]
      clear hi p0 p1
      have hil' : (i : Int) < (t.size : Int) := by omega
      refine wp_region_held_drew (S := (fun _ => True)) (by kernel_rfl) ?_ (fun hHeld => ?_)
      · trivial
      have hci := (hcell i hil).1
      have hfi := (hcell i hil).2
      have HCL := hid hcell
      clear hcell
      replace HCL : Hid (∀ j, j < t.size → v11.drew.cell? ⟨G, j, none⟩ = some (.int .u8 ((by8 t j : Nat) : Int)) ∧ v11.drew.frozen? ⟨G, j, none⟩ = false) := HCL
      replace hci : v11.drew.cell? ⟨G, i, none⟩ = some (.int .u8 ((by8 t i : Nat) : Int)) := hci
      replace hfi : v11.drew.frozen? ⟨G, i, none⟩ = false := hfi
      replace hB := bdrew hB
      generalize v11.drew = y1 at *
      have h8 := by8_lt t i
      refine wpAnyH_take (i := 0) (v := ?_) rfl (by kernel_rfl) (by kernel_rfl) (by kernel_rfl) (fun _ _ _ h => h) (Or.inl ⟨by rfl, ?_⟩) hHeld ?_
      rotate_left
      · intro w hSw; (try dsimp only at hSw); go_simp; try (with_reducible rfl)
      try simp only [sq]
      refine wpAnyH_take (i := 1) (v := ?_) rfl (by kernel_rfl) (by kernel_rfl) (by kernel_rfl) (fun _ _ _ h => h) (Or.inl ⟨by rfl, ?_⟩) hHeld ?_
      rotate_left
      · intro w hSw; (try dsimp only at hSw); go_simp; try (with_reducible rfl)
      try simp only [sq]
      refine wpAnyH_take (i := 2) (v := ?_) rfl (by kernel_rfl) (by kernel_rfl) (by kernel_rfl) (fun _ _ _ h => h) (Or.inl ⟨by rfl, ?_⟩) hHeld ?_
      rotate_left
      · intro w hSw; (try dsimp only at hSw); go_simp; try (with_reducible rfl)
      try simp only [sq]
      refine wpAnyH_take (i := 3) (v := ?_) rfl (by kernel_rfl) (by kernel_rfl) (by kernel_rfl) (fun _ _ _ h => h) (Or.inl ⟨by rfl, ?_⟩) hHeld ?_
      rotate_left
      · intro w hSw; (try dsimp only at hSw); go_simp; try (with_reducible rfl)
      try simp only [sq]
      refine wpAnyH_take (i := 4) (v := ?_) rfl (by kernel_rfl) (by kernel_rfl) (by kernel_rfl) (fun _ _ _ h => h) (Or.inl ⟨by rfl, ?_⟩) hHeld ?_
      rotate_left
      · intro w hSw; (try dsimp only at hSw); go_simp; try (with_reducible rfl)
      try simp only [sq]
      refine wpAnyH_take (i := 6) (v := ?_) rfl (by kernel_rfl) (by kernel_rfl) (by kernel_rfl) (fun _ _ _ h => h) (Or.inl ⟨by rfl, ?_⟩) hHeld ?_
      rotate_left
      · intro w hSw; (try dsimp only at hSw); go_simp; try (with_reducible rfl)
      try simp only [sq]
      refine wpAnyH_ready (rs := [5, 7]) (by kernel_rfl) (by simp) ?_
      refine (AllReadyH.cons rfl (fun K hK => ?_) (AllReadyH.cons rfl (fun K hK => ?_) AllReadyH.nil))
      · skip
        try simp only [sq]
        go_simp
        refine hK.out _ _ trivial (fun hHeld => ?_)
        clear hK K
        try simp only [sq]
        refine wpAnyH_ready (rs := [7]) (by kernel_rfl) (by simp) ?_
        refine (AllReadyH.cons rfl (fun K hK => ?_) AllReadyH.nil)
        try simp only [sq]
        go_simp
        go_at_call 22
        refine (at_i _ a0 len0 cap0 _ 3 (by omega) (HC.out.below hB)).mono ?_
        rintro e y2 ⟨q, rfl, ⟨q0, q1⟩, hw⟩
        replace hw := hw.symm
        subst hw
        obtain ⟨q, rfl⟩ := Int.eq_ofNat_of_zero_le q0
        go_wp2_with fail
        refine hK.out _ _ trivial (fun hHeld => ?_)
        clear hK K
        try simp only [sq]
        refine wpAnyH_take (i := 8) (v := ?_) rfl (by kernel_rfl) (by kernel_rfl) (by kernel_rfl) (fun _ _ _ h => h) (Or.inl ⟨by rfl, ?_⟩) hHeld ?_
        rotate_left
        · intro w hSw; (try dsimp only at hSw); go_simp; try (with_reducible rfl)
        try simp only [sq]
        refine wpAnyH_take (i := 9) (v := ?_) rfl (by kernel_rfl) (by kernel_rfl) (by kernel_rfl) (fun _ _ _ h => h) (Or.inl ⟨by rfl, ?_⟩) hHeld ?_
        rotate_left
        · intro w hSw; (try dsimp only at hSw); go_simp; try (with_reducible rfl)
        try simp only [sq]
        refine wpAnyH_take (i := 10) (v := ?_) rfl (by kernel_rfl) (by kernel_rfl) (by kernel_rfl) (fun _ _ _ h => h) (Or.inl ⟨by rfl, ?_⟩) hHeld ?_
        rotate_left
        · intro w hSw; (try dsimp only at hSw); go_simp; try (with_reducible rfl)
        try simp only [sq]
        refine wpAnyH_take (i := 11) (v := ?_) rfl (by kernel_rfl) (by kernel_rfl) (by kernel_rfl) (fun _ _ _ h => h) (Or.inl ⟨by rfl, ?_⟩) hHeld ?_
        rotate_left
        · intro w hSw; (try dsimp only at hSw); go_simp; try (with_reducible rfl)
        try simp only [sq]
        refine wpAnyH_take (i := 12) (v := ?_) rfl (by kernel_rfl) (by kernel_rfl) (by kernel_rfl) (fun _ _ _ h => h) (Or.inl ⟨by rfl, ?_⟩) hHeld ?_
        rotate_left
        · intro w hSw; (try dsimp only at hSw); go_simp; try (with_reducible rfl)
        try simp only [sq]
        refine wpAnyH_ready (rs := [13]) (by kernel_rfl) (by simp) ?_
        refine (AllReadyH.cons rfl (fun K hK => ?_) AllReadyH.nil)
        try simp only [sq]
        go_simp
        refine hK.out _ _ trivial (fun hHeld => ?_)
        clear hK K
        try simp only [sq]
        refine wpAnyH_done (by kernel_rfl) ?_ _
        obtain ⟨X, hX, hX1, hX2⟩ := xor_q (by8 t i) q (by omega)
        rw [hX]
        have hcv := chg_conv t i X G cp y1 hil HCL.out
        have hB2 : Below w.heap.size w (y1.setCell ⟨G, i, none⟩ (.int .u8 (X : Int))) := hB.grown (grown_set y1 G i _) hB.size (fun k hk => by simp at hk; omega)
        have CS1 := hid (fun w' => impl_sum (chg t i X) (by rw [chg_size]; unfold maxLen; omega) w')
        have CS2 := hid (fun w' => impl_sum t (by unfold maxLen; omega) w')
        have hAB := chg_sum t i X hX1 hil hX2
        clear hX HCL hci hfi hB
        generalize sum (chg t i X) = A at CS1 hAB
        generalize sum t = B at CS2 hAB ⊢
        generalize chg t i X = t2 at CS1 hcv
        generalize y1.setCell ⟨G, i, none⟩ (.int .u8 (X : Int)) = y3 at hcv hB2 ⊢
        have hAB' : ((A : Int) != (B : Int)) = true := by rw [bne_iff_ne]; omega
        go_wp2_with fail
        refine (CS1.out _).mono ?_
        rintro e z1 ⟨rfl, hw⟩
        replace hw := hw.symm
        subst hw
        go_wp2_with fail
        refine (CS2.out _).mono ?_
        rintro e z2 ⟨rfl, hw⟩
        replace hw := hw.symm
        subst hw
        go_wp2_with fail
        go_ret
        exact ⟨rfl, hB2⟩
      · skip
        try simp only [sq]
        go_simp
        go_at_call 22
        refine (at_i _ a0 len0 cap0 _ 3 (by omega) (HC.out.below hB)).mono ?_
        rintro e y2 ⟨q, rfl, ⟨q0, q1⟩, hw⟩
        replace hw := hw.symm
        subst hw
        obtain ⟨q, rfl⟩ := Int.eq_ofNat_of_zero_le q0
        go_wp2_with fail
        refine hK.out _ _ trivial (fun hHeld => ?_)
        clear hK K
        try simp only [sq]
        refine wpAnyH_take (i := 8) (v := ?_) rfl (by kernel_rfl) (by kernel_rfl) (by kernel_rfl) (fun _ _ _ h => h) (Or.inl ⟨by rfl, ?_⟩) hHeld ?_
        rotate_left
        · intro w hSw; (try dsimp only at hSw); go_simp; try (with_reducible rfl)
        try simp only [sq]
        refine wpAnyH_take (i := 9) (v := ?_) rfl (by kernel_rfl) (by kernel_rfl) (by kernel_rfl) (fun _ _ _ h => h) (Or.inl ⟨by rfl, ?_⟩) hHeld ?_
        rotate_left
        · intro w hSw; (try dsimp only at hSw); go_simp; try (with_reducible rfl)
        try simp only [sq]
        refine wpAnyH_take (i := 10) (v := ?_) rfl (by kernel_rfl) (by kernel_rfl) (by kernel_rfl) (fun _ _ _ h => h) (Or.inl ⟨by rfl, ?_⟩) hHeld ?_
        rotate_left
        · intro w hSw; (try dsimp only at hSw); go_simp; try (with_reducible rfl)
        try simp only [sq]
        refine wpAnyH_ready (rs := [5]) (by kernel_rfl) (by simp) ?_
        refine (AllReadyH.cons rfl (fun K hK => ?_) AllReadyH.nil)
        try simp only [sq]
        go_simp
        refine hK.out _ _ trivial (fun hHeld => ?_)
        clear hK K
        try simp only [sq]
        refine wpAnyH_take (i := 11) (v := ?_) rfl (by kernel_rfl) (by kernel_rfl) (by kernel_rfl) (fun _ _ _ h => h) (Or.inl ⟨by rfl, ?_⟩) hHeld ?_
        rotate_left
        · intro w hSw; (try dsimp only at hSw); go_simp; try (with_reducible rfl)
        try simp only [sq]
        refine wpAnyH_take (i := 12) (v := ?_) rfl (by kernel_rfl) (by kernel_rfl) (by kernel_rfl) (fun _ _ _ h => h) (Or.inl ⟨by rfl, ?_⟩) hHeld ?_
        rotate_left
        · intro w hSw; (try dsimp only at hSw); go_simp; try (with_reducible rfl)
        try simp only [sq]
        refine wpAnyH_ready (rs := [13]) (by kernel_rfl) (by simp) ?_
        refine (AllReadyH.cons rfl (fun K hK => ?_) AllReadyH.nil)
        try simp only [sq]
        go_simp
        refine hK.out _ _ trivial (fun hHeld => ?_)
        clear hK K
        try simp only [sq]
        refine wpAnyH_done (by kernel_rfl) ?_ _
        obtain ⟨X, hX, hX1, hX2⟩ := xor_q (by8 t i) q (by omega)
        rw [hX]
        have hcv := chg_conv t i X G cp y1 hil HCL.out
        have hB2 : Below w.heap.size w (y1.setCell ⟨G, i, none⟩ (.int .u8 (X : Int))) := hB.grown (grown_set y1 G i _) hB.size (fun k hk => by simp at hk; omega)
        have CS1 := hid (fun w' => impl_sum (chg t i X) (by rw [chg_size]; unfold maxLen; omega) w')
        have CS2 := hid (fun w' => impl_sum t (by unfold maxLen; omega) w')
        have hAB := chg_sum t i X hX1 hil hX2
        clear hX HCL hci hfi hB
        generalize sum (chg t i X) = A at CS1 hAB
        generalize sum t = B at CS2 hAB ⊢
        generalize chg t i X = t2 at CS1 hcv
        generalize y1.setCell ⟨G, i, none⟩ (.int .u8 (X : Int)) = y3 at hcv hB2 ⊢
        have hAB' : ((A : Int) != (B : Int)) = true := by rw [bne_iff_ne]; omega
        go_wp2_with fail
        refine (CS1.out _).mono ?_
        rintro e z1 ⟨rfl, hw⟩
        replace hw := hw.symm
        subst hw
        go_wp2_with fail
        refine (CS2.out _).mono ?_
        rintro e z2 ⟨rfl, hw⟩
        replace hw := hw.symm
        subst hw
        go_wp2_with fail
        go_ret
        exact ⟨rfl, hB2⟩
end Go.Proofs.YtokoompldkcmjaaDoor
