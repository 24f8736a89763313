/- Texts of stores, joined: Wo. -/
import Derived.Test.YtjafahhoihlliaaGreatDoorJ33
import Derived.Test.YtjafahhoihlliaaGreatDoorJ37
import Derived.Test.YtjafahhoihlliaaGreatDoorJ44
import Derived.Test.YtjafahhoihlliaaGreatDoorJ46
import Derived.Test.YtjafahhoihlliaaGreatDoorJ48
import Derived.Test.YtjafahhoihlliaaGreatDoorJ30
import Derived.Deep.RegionHeld3
namespace Go.Proofs.YtjafahhoihlliaaGreatDoor
open Go.RowKit
set_option linter.unusedSimpArgs false
set_option linter.unusedVariables false
theorem kw_r {w : World} (h : KWr w) : KW w := fun k hk => by rw [kw_kwr]; exact h k hk
theorem itoa_r {w : World} (h : LibsR w) : ItoaOk w := fun w' hb n hn => by
  unfold In at hn
  exact h.2.1 n w' (by omega) (by omega) hb
theorem stx_posW (k : Nat) (ps : List (Int × Int)) : ∀ i, 0 < (stx k ps i).size
  | 0 => by simp only [stx]; unfold kw; split <;> decide
  | i + 1 => by
    have := stx_posW k ps i
    simp only [stx, ByteArray.size_append]
    omega
theorem txv_pos {k : Int} {ps : List (Int × Int)} (h : shok k ps = true) : 0 < (txv k ps).size := by
  unfold txv; rw [if_pos h]; exact stx_posW _ _ _
theorem txv_no {k : Int} {ps : List (Int × Int)} (h : shok k ps = false) : txv k ps = ⟨#[]⟩ := by unfold txv; rw [h]; rfl
theorem psT_no {k : Int} {ps : List (Int × Int)} (h : shok k ps = false) : psT k ps = ⟨#[]⟩ := by unfold psT; rw [h]; rfl
theorem ne_empty {a : ByteArray} (h : 0 < a.size) : (a.toList == (⟨#[]⟩ : ByteArray).toList) = false := by
  rw [beq_eq_false_iff_ne]
  intro e
  rw [ByteArray.toList_eq, ByteArray.toList_eq] at e
  have : a = ⟨#[]⟩ := ByteArray.ext (Array.ext' e)
  rw [this] at h
  exact absurd h (by decide)
theorem isE_no {t : ByteArray} (h : 0 < t.size) : t.toList.isEmpty = false := by
  have e : t.size = t.data.toList.length := by rw [Array.length_toList]; rfl
  rw [ByteArray.toList_eq]
  cases hl : t.data.toList with
  | nil => rw [e, hl] at h; exact absurd h (by simp)
  | cons x r => rfl
theorem gso_two {k : Int} {ps : List (Int × Int)} (h : shok k ps = true) : gso ((⟨#[97, 98]⟩ : ByteArray) ++ psT k ps ++ ⟨#[99]⟩) 2000000000 2 = some (k, ps, 2 + ((psT k ps).size : Int)) := by
  have hat : At ((⟨#[97, 98]⟩ : ByteArray) ++ psT k ps ++ ⟨#[99]⟩) 2 (psT k ps).data.toList := ⟨[97, 98], [99], by simp [ByteArray.data_append], rfl⟩
  have e := gso_back h hat
  rw [gso_same _ 2000000000 (by omega)]
  have e2 : ((2 + (psT k ps).size : Nat) : Int) = 2 + ((psT k ps).size : Int) := by omega
  rw [e2] at e
  exact e
theorem gso_cut {v : ByteArray} {i k q : Int} {l : List (Int × Int)} (h : gso v 200000 i = some (k, l, q)) : ∃ p n : Nat, i = (p : Int) ∧ q = (n : Int) ∧ p ≤ n ∧ n ≤ v.size ∧ psT k l = v.extract p n ∧ l.length ≤ 60 := by
  have hi : 0 ≤ i := by
    by_cases hi : 0 ≤ i
    · exact hi
    · unfold gso at h
      rw [if_neg (by omega)] at h
      cases h
  obtain ⟨p, rfl⟩ := Int.eq_ofNat_of_zero_le hi
  obtain ⟨h1, h2, h3⟩ := gso_text h
  have hz := h2.size
  have e : (psT k l).data.toList.length = (psT k l).size := Array.length_toList
  refine ⟨p, p + (psT k l).size, rfl, h3, by omega, by omega, ?_, by rcases shok_kind h1 with h | h | h | h <;> omega⟩
  obtain ⟨a, b, h4, h5⟩ := h2
  apply ba_inj
  rw [exl_list, h4, ← h5, List.drop_left, show a.length + (psT k l).size - a.length = (psT k l).data.toList.length by omega, List.take_left]
theorem rso_few {u : ByteArray} {k : Int} {l : List (Int × Int)} (h : rso (rest u u.size 0 0) = some (k, l)) : l.length ≤ 60 := by
  obtain ⟨h1, _⟩ := txv_rso h
  rcases shok_kind h1 with h | h | h | h <;> omega
set_option maxRecDepth 100000 in
set_option maxHeartbeats 16000000 in
theorem stext_w (a0 : Option Addr) (len0 cap0 : Nat) (z0 : List Int) (w : World) (w0 : IsRow .u8 w a0 len0 cap0 z0) (hLb : LibsR w) (hKw : KWr w) (hg : w.cell? ⟨1, 0, none⟩ = some (.iface 133 (.agg #[.pointer (some ⟨10, 51, none⟩)]))) :
    Calls Tryz.prog 3 #[.slice a0 len0 cap0] w fun e w' => e = .returned (.bool true) ∧ Below w.heap.size w w' := by
  have hlen := len_of w0
  by_cases hbig : len0 ≤ 1048576
  rotate_left
  · have hd : 1048576 < (len0 : Int) := by omega
    clear w0 hLb hKw hg
    go_enter Tryz.func3, Tryz.ntmps3
    go_wp2_with (go_at_call 4; go_in)
    go_ret
    exact ⟨rfl, Below.refl _ _⟩
  have hc := code_of w0 hbig
  have hd : (len0 : Int) ≤ 1048576 := by omega
  have HC := hid hc
  have CIT := hid (fun (k : Int) (a : Option Addr) (cap : Nat) (ps : List (Int × Int)) (hm : ps.length ≤ 1000) (hc : ps.length ≤ cap) (W : World) (hp : Pts W a ps) (hb : Below w.heap.size w W) => impl_ShapeText k a cap ps W (by omega) hc hp (itoa_r (hLb.below hb)) (kw_r (hKw.below hb)))
  have CIR := hid (fun (s : ByteArray) (hs : s.size ≤ 1048576) (W : World) (hb : Below w.heap.size w W) => impl_ReadShape s hs W (hLb.below hb) (hKw.below hb) (keepcell hb hg))
  have CSR := hid (fun (s : ByteArray) (hs : s.size ≤ 1048576) (W : World) => spec_ReadShape s hs W)
  have CIG := hid (fun (s : ByteArray) (i : Int) (hs : s.size ≤ 1048576) (W : World) (hb : Below w.heap.size w W) => impl_GetShape s i hs W (keepcell hb hg))
  have CSG := hid (fun (s : ByteArray) (i : Int) (hs : s.size ≤ 1048576) (h0 : -9223372036854775808 ≤ i) (h1 : i ≤ 9223372036854775807) (W : World) => spec_GetShape s i hs h0 h1 W)
  unfold RSA at CIR CSR
  unfold GSA at CIG CSG
  clear hc w0 hLb hKw hg
  go_enter Tryz.func3, Tryz.ntmps3
  go_wp2_with (go_at_call 4; go_in)
  refine (draw_stext _ a0 len0 cap0 HC.out).mono ?_
  rintro e v1 ⟨kd, ps, ao, cp, rfl, hl, hcp, hpt, hb1⟩
  have B0 := hid hb1
  have HP := hid hpt
  clear hb1 hpt
  have hm : ps.length ≤ 1000 := by omega
  have C1 := hid (fun (W : World) (hp : Pts W ao ps) (hb : Below w.heap.size w W) => CIT.out kd ao cp ps hm hcp W hp hb)
  have C2 := hid (fun (W : World) (hp : Pts W ao ps) => impl_PutShape kd ao cp ps W (by omega) hcp hp)
  have C3 := hid (fun (W : World) (hp : Pts W ao ps) => spec_ShapeText kd ao cp ps W (by omega) hcp hp)
  have C4 := hid (fun (W : World) (hp : Pts W ao ps) => spec_PutShape kd ao cp ps W (by omega) hcp hp)
  have C5 := hid (fun (W : World) (hp : Pts W ao ps) => impl_ShapeOk kd ao cp ps W (by omega) hcp hp)
  have C8 := hid (fun (W : World) (hp : Pts W ao ps) => spec_ShapeOk kd ao cp ps W (by omega) hcp hp)
  have hTz := txv_few kd ps
  have hBz := @psT_few kd ps
  have HT : Hid (shok kd ps = true → 0 < (txv kd ps).size ∧ 0 < (psT kd ps).size ∧ rso (rest (txv kd ps) (txv kd ps).size 0 0) = some (kd, ps) ∧ gso ((⟨#[97, 98]⟩ : ByteArray) ++ psT kd ps ++ ⟨#[99]⟩) 2000000000 2 = some (kd, ps, 2 + ((psT kd ps).size : Int))) := hid (fun hs => ⟨txv_pos hs, psT_pos hs, rso_txv hs, gso_two hs⟩)
  have HF : Hid (shok kd ps = false → txv kd ps = ⟨#[]⟩ ∧ psT kd ps = ⟨#[]⟩) := hid (fun hs => ⟨txv_no hs, psT_no hs⟩)
  generalize txv kd ps = tt at *
  generalize psT kd ps = bb at *
  generalize shok kd ps = sb at *
  go_wp2_with fail
  have hbA := balloc (Below.refl v1.heap.size v1) (.cells #[.int .i64 kd, .slice ao ps.length cp] 26)
  have gS := hid (new_alloc v1 v1.heap.size (.cells #[.int .i64 kd, .slice ao ps.length cp] 26) rfl)
  replace HP := hid (HP.out.below hbA)
  replace B0 := hid (btrans B0.out hbA)
  clear hbA
  generalize v1.alloc (.cells #[.int .i64 kd, .slice ao ps.length cp] 26) = v2 at *
  generalize v1.heap.size = S at *
  obtain ⟨s0, s1, _, _⟩ := cell2g gS.out
  refine (C1.out _ HP.out B0.out).mono ?_
  rintro e v3 ⟨rfl, hb⟩
  clear s0 s1
  replace HP := hid (HP.out.below hb)
  replace gS := hid (keepheap hb gS.out)
  replace B0 := hid (btrans B0.out hb)
  clear hb
  obtain ⟨s0, s1, _, _⟩ := cell2g gS.out
  clear C1
  go_wp2_with fail
  refine (C2.out _ HP.out).mono ?_
  rintro e v4 ⟨rfl, hb⟩
  clear s0 s1
  replace HP := hid (HP.out.below hb)
  replace gS := hid (keepheap hb gS.out)
  replace B0 := hid (btrans B0.out hb)
  clear hb
  obtain ⟨s0, s1, _, _⟩ := cell2g gS.out
  clear C2
  go_upto_region 6 with fail
  go_cut [59] (fun t59 wx => t59 = .bool false ∧ Below v4.heap.size v4 wx)
  case first =>
    cases sb
    · obtain ⟨rfl, rfl⟩ := HF.out rfl
      clear HT HF CIT CIR CSR CIG CSG HC
      refine wp_region_held_drew (S := (fun w' => w'.cell? ⟨S, 0, none⟩ = some (.int .i64 kd) ∧ w'.cell? ⟨S, 1, none⟩ = some (.slice ao ps.length cp))) (by kernel_rfl) ?_ (fun hHeld => ?_)
      · exact ⟨s0, s1⟩
      have BX := hid (bdrew (Below.refl v4.heap.size v4))
      replace HP := hid (HP.out.below BX.out)
      replace s0 := keepcell BX.out s0
      replace s1 := keepcell BX.out s1
      generalize v4.drew = V0 at *
      refine wpAnyH_take (i := 0) (v := ?_) rfl (by kernel_rfl) (by kernel_rfl) (by kernel_rfl) (fun _ _ _ h => h) (Or.inl ⟨by rfl, ?_⟩) hHeld ?_
      rotate_left
      · intro w hSw; (try dsimp only at hSw); go_simp; try (with_reducible rfl)
      try simp only [sq]
      refine wpAnyH_take (i := 1) (v := ?_) rfl (by kernel_rfl) (by kernel_rfl) (by kernel_rfl) (fun _ _ _ h => h) (Or.inl ⟨by rfl, ?_⟩) hHeld ?_
      rotate_left
      · intro w hSw; (try dsimp only at hSw); go_simp; try (with_reducible rfl)
      try simp only [sq]
      refine wpAnyH_ready (rs := [2]) (by kernel_rfl) (by simp) ?_
      refine (AllReadyH.cons rfl (fun K hK => ?_) AllReadyH.nil)
      try simp only [sq]
      go_simp
      go_at_call 8
      refine (C3.out _ HP.out).mono ?_
      rintro e y ⟨rfl, hb⟩
      replace HP := hid (HP.out.below hb)
      replace s0 := keepcell hb s0
      replace s1 := keepcell hb s1
      replace BX := hid (btrans BX.out hb)
      clear hb
      go_wp2_with fail
      refine hK.out _ _ ?_ (fun hHeld => ?_)
      · exact ⟨s0, s1⟩
      clear hK K
      try simp only [sq]
      refine wpAnyH_take (i := 3) (v := ?_) rfl (by kernel_rfl) (by kernel_rfl) (by kernel_rfl) (fun _ _ _ h => h) (Or.inl ⟨by rfl, ?_⟩) hHeld ?_
      rotate_left
      · intro w hSw; (try dsimp only at hSw); go_simp; try (with_reducible rfl)
      try simp only [sq]
      refine wpAnyH_take (i := 4) (v := ?_) rfl (by kernel_rfl) (by kernel_rfl) (by kernel_rfl) (fun _ _ _ h => h) (Or.inl ⟨by rfl, ?_⟩) hHeld ?_
      rotate_left
      · intro w hSw; (try dsimp only at hSw); go_simp; try (with_reducible rfl)
      try simp only [sq]
      refine wpAnyH_take (i := 5) (v := ?_) rfl (by kernel_rfl) (by kernel_rfl) (by kernel_rfl) (fun _ _ _ h => h) (Or.inl ⟨by rfl, ?_⟩) hHeld ?_
      rotate_left
      · intro w hSw; (try dsimp only at hSw); go_simp; try (with_reducible rfl)
      try simp only [sq]
      refine wpAnyH_take (i := 6) (v := ?_) rfl (by kernel_rfl) (by kernel_rfl) (by kernel_rfl) (fun _ _ _ h => h) (Or.inl ⟨by rfl, ?_⟩) hHeld ?_
      rotate_left
      · intro w hSw; (try dsimp only at hSw); go_simp; try (with_reducible rfl)
      try simp only [sq]
      refine wpAnyH_ready (rs := [7]) (by kernel_rfl) (by simp) ?_
      refine (AllReadyH.cons rfl (fun K hK => ?_) AllReadyH.nil)
      try simp only [sq]
      go_simp
      go_at_call 9
      refine (C4.out _ HP.out).mono ?_
      rintro e y ⟨rfl, hb⟩
      replace HP := hid (HP.out.below hb)
      replace s0 := keepcell hb s0
      replace s1 := keepcell hb s1
      replace BX := hid (btrans BX.out hb)
      clear hb
      go_wp2_with fail
      refine hK.out _ _ ?_ (fun hHeld => ?_)
      · exact ⟨s0, s1⟩
      clear hK K
      try simp only [sq]
      refine wpAnyH_take (i := 8) (v := ?_) rfl (by kernel_rfl) (by kernel_rfl) (by kernel_rfl) (fun _ _ _ h => h) (Or.inl ⟨by rfl, ?_⟩) hHeld ?_
      rotate_left
      · intro w hSw; (try dsimp only at hSw); go_simp; try (with_reducible rfl)
      try simp only [sq]
      refine wpAnyH_take (i := 9) (v := ?_) rfl (by kernel_rfl) (by kernel_rfl) (by kernel_rfl) (fun _ _ _ h => h) (Or.inl ⟨by rfl, ?_⟩) hHeld ?_
      rotate_left
      · intro w hSw; (try dsimp only at hSw); go_simp; try (with_reducible rfl)
      try simp only [sq]
      refine wpAnyH_take (i := 10) (v := ?_) rfl (by kernel_rfl) (by kernel_rfl) (by kernel_rfl) (fun _ _ _ h => h) (Or.inl ⟨by rfl, ?_⟩) hHeld ?_
      rotate_left
      · intro w hSw; (try dsimp only at hSw); go_simp; try (with_reducible rfl)
      try simp only [sq]
      refine wpAnyH_take (i := 11) (v := ?_) rfl (by kernel_rfl) (by kernel_rfl) (by kernel_rfl) (fun _ _ _ h => h) (Or.inl ⟨by rfl, ?_⟩) hHeld ?_
      rotate_left
      · intro w hSw; (try dsimp only at hSw); go_simp; try (with_reducible rfl)
      try simp only [sq]
      refine wpAnyH_take (i := 13) (v := ?_) rfl (by kernel_rfl) (by kernel_rfl) (by kernel_rfl) (fun _ _ _ h => h) (Or.inl ⟨by rfl, ?_⟩) hHeld ?_
      rotate_left
      · intro w hSw; (try dsimp only at hSw); go_simp; try (with_reducible rfl)
      try simp only [sq]
      refine wpAnyH_ready (rs := [12]) (by kernel_rfl) (by simp) ?_
      refine (AllReadyH.cons rfl (fun K hK => ?_) AllReadyH.nil)
      try simp only [sq]
      go_simp
      go_at_call 10
      refine (C5.out _ HP.out).mono ?_
      rintro e y ⟨rfl, hb⟩
      replace HP := hid (HP.out.below hb)
      replace s0 := keepcell hb s0
      replace s1 := keepcell hb s1
      replace BX := hid (btrans BX.out hb)
      clear hb
      go_wp2_with fail
      refine hK.out _ _ ?_ (fun hHeld => ?_)
      · exact ⟨s0, s1⟩
      clear hK K
      try simp only [sq]
      refine wpAnyH_ready (rs := [14]) (by kernel_rfl) (by simp) ?_
      refine (AllReadyH.cons rfl (fun K hK => ?_) AllReadyH.nil)
      try simp only [sq]
      go_simp
      go_at_call 11
      refine (C8.out _ HP.out).mono ?_
      rintro e y ⟨rfl, hb⟩
      replace HP := hid (HP.out.below hb)
      replace s0 := keepcell hb s0
      replace s1 := keepcell hb s1
      replace BX := hid (btrans BX.out hb)
      clear hb
      go_wp2_with fail
      refine hK.out _ _ ?_ (fun hHeld => ?_)
      · exact ⟨s0, s1⟩
      clear hK K
      try simp only [sq]
      refine wpAnyH_take (i := 15) (v := ?_) rfl (by kernel_rfl) (by kernel_rfl) (by kernel_rfl) (fun _ _ _ h => h) (Or.inl ⟨by rfl, ?_⟩) hHeld ?_
      rotate_left
      · intro w hSw; (try dsimp only at hSw); go_simp; try (with_reducible rfl)
      try simp only [sq]
      refine wpAnyH_take (i := 16) (v := ?_) rfl (by kernel_rfl) (by kernel_rfl) (by kernel_rfl) (fun _ _ _ h => h) (Or.inl ⟨by rfl, ?_⟩) hHeld ?_
      rotate_left
      · intro w hSw; (try dsimp only at hSw); go_simp; try (with_reducible rfl)
      try simp only [sq]
      refine wpAnyH_take (i := 17) (v := ?_) rfl (by kernel_rfl) (by kernel_rfl) (by kernel_rfl) (fun _ _ _ h => h) (Or.inl ⟨by rfl, ?_⟩) hHeld ?_
      rotate_left
      · intro w hSw; (try dsimp only at hSw); go_simp; try (with_reducible rfl)
      try simp only [sq]
      refine wpAnyH_take (i := 18) (v := ?_) rfl (by kernel_rfl) (by kernel_rfl) (by kernel_rfl) (fun _ _ _ h => h) (Or.inl ⟨by rfl, ?_⟩) hHeld ?_
      rotate_left
      · intro w hSw; (try dsimp only at hSw); go_simp; try (with_reducible rfl)
      try simp only [sq]
      refine wpAnyH_take (i := 19) (v := ?_) rfl (by kernel_rfl) (by kernel_rfl) (by kernel_rfl) (fun _ _ _ h => h) (Or.inl ⟨by rfl, ?_⟩) hHeld ?_
      rotate_left
      · intro w hSw; (try dsimp only at hSw); go_simp; try (with_reducible rfl)
      try simp only [sq]
      refine wpAnyH_take (i := 20) (v := ?_) rfl (by kernel_rfl) (by kernel_rfl) (by kernel_rfl) (fun _ _ _ h => h) (Or.inl ⟨by rfl, ?_⟩) hHeld ?_
      rotate_left
      · intro w hSw; (try dsimp only at hSw); go_simp; try (with_reducible rfl)
      try simp only [sq]
      refine wpAnyH_ready (rs := [21]) (by kernel_rfl) (by simp) ?_
      refine (AllReadyH.cons rfl (fun K hK => ?_) AllReadyH.nil)
      try simp only [sq]
      go_simp
      go_at_call 11
      refine (C8.out _ HP.out).mono ?_
      rintro e y ⟨rfl, hb⟩
      replace HP := hid (HP.out.below hb)
      replace s0 := keepcell hb s0
      replace s1 := keepcell hb s1
      replace BX := hid (btrans BX.out hb)
      clear hb
      go_wp2_with fail
      refine hK.out _ _ ?_ (fun hHeld => ?_)
      · exact ⟨s0, s1⟩
      clear hK K
      try simp only [sq]
      refine wpAnyH_take (i := 22) (v := ?_) rfl (by kernel_rfl) (by kernel_rfl) (by kernel_rfl) (fun _ _ _ h => h) (Or.inl ⟨by rfl, ?_⟩) hHeld ?_
      rotate_left
      · intro w hSw; (try dsimp only at hSw); go_simp; try (with_reducible rfl)
      try simp only [sq]
      refine wpAnyH_take (i := 23) (v := ?_) rfl (by kernel_rfl) (by kernel_rfl) (by kernel_rfl) (fun _ _ _ h => h) (Or.inl ⟨by rfl, ?_⟩) hHeld ?_
      rotate_left
      · intro w hSw; (try dsimp only at hSw); go_simp; try (with_reducible rfl)
      try simp only [sq]
      refine wpAnyH_take (i := 24) (v := ?_) rfl (by kernel_rfl) (by kernel_rfl) (by kernel_rfl) (fun _ _ _ h => h) (Or.inl ⟨by rfl, ?_⟩) hHeld ?_
      rotate_left
      · intro w hSw; (try dsimp only at hSw); go_simp; try (with_reducible rfl)
      try simp only [sq]
      refine wpAnyH_take (i := 25) (v := ?_) rfl (by kernel_rfl) (by kernel_rfl) (by kernel_rfl) (fun _ _ _ h => h) (Or.inl ⟨by rfl, ?_⟩) hHeld ?_
      rotate_left
      · intro w hSw; (try dsimp only at hSw); go_simp; try (with_reducible rfl)
      try simp only [sq]
      refine wpAnyH_take (i := 26) (v := ?_) rfl (by kernel_rfl) (by kernel_rfl) (by kernel_rfl) (fun _ _ _ h => h) (Or.inl ⟨by rfl, ?_⟩) hHeld ?_
      rotate_left
      · intro w hSw; (try dsimp only at hSw); go_simp; try (with_reducible rfl)
      try simp only [sq]
      refine wpAnyH_take (i := 27) (v := ?_) rfl (by kernel_rfl) (by kernel_rfl) (by kernel_rfl) (fun _ _ _ h => h) (Or.inl ⟨by rfl, ?_⟩) hHeld ?_
      rotate_left
      · intro w hSw; (try dsimp only at hSw); go_simp; try (with_reducible rfl)
      try simp only [sq]
      refine wpAnyH_ready (rs := [28]) (by kernel_rfl) (by simp) ?_
      refine (AllReadyH.cons rfl (fun K hK => ?_) AllReadyH.nil)
      try simp only [sq]
      go_simp
      go_at_call 11
      refine (C8.out _ HP.out).mono ?_
      rintro e y ⟨rfl, hb⟩
      replace HP := hid (HP.out.below hb)
      replace s0 := keepcell hb s0
      replace s1 := keepcell hb s1
      replace BX := hid (btrans BX.out hb)
      clear hb
      go_wp2_with fail
      refine hK.out _ _ ?_ (fun hHeld => ?_)
      · exact ⟨s0, s1⟩
      clear hK K
      try simp only [sq]
      refine wpAnyH_take (i := 29) (v := ?_) rfl (by kernel_rfl) (by kernel_rfl) (by kernel_rfl) (fun _ _ _ h => h) (Or.inl ⟨by rfl, ?_⟩) hHeld ?_
      rotate_left
      · intro w hSw; (try dsimp only at hSw); go_simp; try (with_reducible rfl)
      try simp only [sq]
      refine wpAnyH_take (i := 30) (v := ?_) rfl (by kernel_rfl) (by kernel_rfl) (by kernel_rfl) (fun _ _ _ h => h) (Or.inl ⟨by rfl, ?_⟩) hHeld ?_
      rotate_left
      · intro w hSw; (try dsimp only at hSw); go_simp; try (with_reducible rfl)
      try simp only [sq]
      refine wpAnyH_done (by kernel_rfl) ?_ _
      go_wp2_with fail
      go_meet
      exact ⟨rfl, BX.out⟩
    · obtain ⟨hT0, hB0, _, _⟩ := HT.out rfl
      have hn1 := ne_empty hT0
      have hn2 := ne_empty hB0
      have hn3 := isE_no hT0
      have hn4 := isE_no hB0
      clear HT HF CIT CIR CSR CIG CSG HC
      refine wp_region_held_drew (S := (fun w' => w'.cell? ⟨S, 0, none⟩ = some (.int .i64 kd) ∧ w'.cell? ⟨S, 1, none⟩ = some (.slice ao ps.length cp))) (by kernel_rfl) ?_ (fun hHeld => ?_)
      · exact ⟨s0, s1⟩
      have BX := hid (bdrew (Below.refl v4.heap.size v4))
      replace HP := hid (HP.out.below BX.out)
      replace s0 := keepcell BX.out s0
      replace s1 := keepcell BX.out s1
      generalize v4.drew = V0 at *
      refine wpAnyH_take (i := 0) (v := ?_) rfl (by kernel_rfl) (by kernel_rfl) (by kernel_rfl) (fun _ _ _ h => h) (Or.inl ⟨by rfl, ?_⟩) hHeld ?_
      rotate_left
      · intro w hSw; (try dsimp only at hSw); go_simp; try (with_reducible rfl)
      try simp only [sq]
      refine wpAnyH_take (i := 1) (v := ?_) rfl (by kernel_rfl) (by kernel_rfl) (by kernel_rfl) (fun _ _ _ h => h) (Or.inl ⟨by rfl, ?_⟩) hHeld ?_
      rotate_left
      · intro w hSw; (try dsimp only at hSw); go_simp; try (with_reducible rfl)
      try simp only [sq]
      refine wpAnyH_ready (rs := [2]) (by kernel_rfl) (by simp) ?_
      refine (AllReadyH.cons rfl (fun K hK => ?_) AllReadyH.nil)
      try simp only [sq]
      go_simp
      go_at_call 8
      refine (C3.out _ HP.out).mono ?_
      rintro e y ⟨rfl, hb⟩
      replace HP := hid (HP.out.below hb)
      replace s0 := keepcell hb s0
      replace s1 := keepcell hb s1
      replace BX := hid (btrans BX.out hb)
      clear hb
      go_wp2_with fail
      refine hK.out _ _ ?_ (fun hHeld => ?_)
      · exact ⟨s0, s1⟩
      clear hK K
      try simp only [sq]
      refine wpAnyH_take (i := 3) (v := ?_) rfl (by kernel_rfl) (by kernel_rfl) (by kernel_rfl) (fun _ _ _ h => h) (Or.inl ⟨by rfl, ?_⟩) hHeld ?_
      rotate_left
      · intro w hSw; (try dsimp only at hSw); go_simp; try (with_reducible rfl)
      try simp only [sq]
      refine wpAnyH_take (i := 4) (v := ?_) rfl (by kernel_rfl) (by kernel_rfl) (by kernel_rfl) (fun _ _ _ h => h) (Or.inl ⟨by rfl, ?_⟩) hHeld ?_
      rotate_left
      · intro w hSw; (try dsimp only at hSw); go_simp; try (with_reducible rfl)
      try simp only [sq]
      refine wpAnyH_take (i := 5) (v := ?_) rfl (by kernel_rfl) (by kernel_rfl) (by kernel_rfl) (fun _ _ _ h => h) (Or.inl ⟨by rfl, ?_⟩) hHeld ?_
      rotate_left
      · intro w hSw; (try dsimp only at hSw); go_simp; try (with_reducible rfl)
      try simp only [sq]
      refine wpAnyH_take (i := 6) (v := ?_) rfl (by kernel_rfl) (by kernel_rfl) (by kernel_rfl) (fun _ _ _ h => h) (Or.inl ⟨by rfl, ?_⟩) hHeld ?_
      rotate_left
      · intro w hSw; (try dsimp only at hSw); go_simp; try (with_reducible rfl)
      try simp only [sq]
      refine wpAnyH_ready (rs := [7]) (by kernel_rfl) (by simp) ?_
      refine (AllReadyH.cons rfl (fun K hK => ?_) AllReadyH.nil)
      try simp only [sq]
      go_simp
      go_at_call 9
      refine (C4.out _ HP.out).mono ?_
      rintro e y ⟨rfl, hb⟩
      replace HP := hid (HP.out.below hb)
      replace s0 := keepcell hb s0
      replace s1 := keepcell hb s1
      replace BX := hid (btrans BX.out hb)
      clear hb
      go_wp2_with fail
      refine hK.out _ _ ?_ (fun hHeld => ?_)
      · exact ⟨s0, s1⟩
      clear hK K
      try simp only [sq]
      refine wpAnyH_take (i := 8) (v := ?_) rfl (by kernel_rfl) (by kernel_rfl) (by kernel_rfl) (fun _ _ _ h => h) (Or.inl ⟨by rfl, ?_⟩) hHeld ?_
      rotate_left
      · intro w hSw; (try dsimp only at hSw); go_simp; try (with_reducible rfl)
      try simp only [sq]
      refine wpAnyH_take (i := 9) (v := ?_) rfl (by kernel_rfl) (by kernel_rfl) (by kernel_rfl) (fun _ _ _ h => h) (Or.inl ⟨by rfl, ?_⟩) hHeld ?_
      rotate_left
      · intro w hSw; (try dsimp only at hSw); go_simp; try (with_reducible rfl)
      try simp only [sq]
      refine wpAnyH_take (i := 10) (v := ?_) rfl (by kernel_rfl) (by kernel_rfl) (by kernel_rfl) (fun _ _ _ h => h) (Or.inl ⟨by rfl, ?_⟩) hHeld ?_
      rotate_left
      · intro w hSw; (try dsimp only at hSw); go_simp; try (with_reducible rfl)
      try simp only [sq]
      refine wpAnyH_take (i := 11) (v := ?_) rfl (by kernel_rfl) (by kernel_rfl) (by kernel_rfl) (fun _ _ _ h => h) (Or.inl ⟨by rfl, ?_⟩) hHeld ?_
      rotate_left
      · intro w hSw; (try dsimp only at hSw); go_simp; try (with_reducible rfl)
      try simp only [sq]
      refine wpAnyH_take (i := 13) (v := ?_) rfl (by kernel_rfl) (by kernel_rfl) (by kernel_rfl) (fun _ _ _ h => h) (Or.inl ⟨by rfl, ?_⟩) hHeld ?_
      rotate_left
      · intro w hSw; (try dsimp only at hSw); go_simp; try (with_reducible rfl)
      try simp only [sq]
      refine wpAnyH_ready (rs := [12]) (by kernel_rfl) (by simp) ?_
      refine (AllReadyH.cons rfl (fun K hK => ?_) AllReadyH.nil)
      try simp only [sq]
      go_simp
      go_at_call 10
      refine (C5.out _ HP.out).mono ?_
      rintro e y ⟨rfl, hb⟩
      replace HP := hid (HP.out.below hb)
      replace s0 := keepcell hb s0
      replace s1 := keepcell hb s1
      replace BX := hid (btrans BX.out hb)
      clear hb
      go_wp2_with fail
      refine hK.out _ _ ?_ (fun hHeld => ?_)
      · exact ⟨s0, s1⟩
      clear hK K
      try simp only [sq]
      refine wpAnyH_ready (rs := [14]) (by kernel_rfl) (by simp) ?_
      refine (AllReadyH.cons rfl (fun K hK => ?_) AllReadyH.nil)
      try simp only [sq]
      go_simp
      go_at_call 11
      refine (C8.out _ HP.out).mono ?_
      rintro e y ⟨rfl, hb⟩
      replace HP := hid (HP.out.below hb)
      replace s0 := keepcell hb s0
      replace s1 := keepcell hb s1
      replace BX := hid (btrans BX.out hb)
      clear hb
      go_wp2_with fail
      refine hK.out _ _ ?_ (fun hHeld => ?_)
      · exact ⟨s0, s1⟩
      clear hK K
      try simp only [sq]
      refine wpAnyH_take (i := 15) (v := ?_) rfl (by kernel_rfl) (by kernel_rfl) (by kernel_rfl) (fun _ _ _ h => h) (Or.inl ⟨by rfl, ?_⟩) hHeld ?_
      rotate_left
      · intro w hSw; (try dsimp only at hSw); go_simp; try (with_reducible rfl)
      try simp only [sq]
      refine wpAnyH_take (i := 16) (v := ?_) rfl (by kernel_rfl) (by kernel_rfl) (by kernel_rfl) (fun _ _ _ h => h) (Or.inl ⟨by rfl, ?_⟩) hHeld ?_
      rotate_left
      · intro w hSw; (try dsimp only at hSw); go_simp; try (with_reducible rfl)
      try simp only [sq]
      refine wpAnyH_take (i := 17) (v := ?_) rfl (by kernel_rfl) (by kernel_rfl) (by kernel_rfl) (fun _ _ _ h => h) (Or.inl ⟨by rfl, ?_⟩) hHeld ?_
      rotate_left
      · intro w hSw; (try dsimp only at hSw); go_simp; try (with_reducible rfl)
      try simp only [sq]
      refine wpAnyH_take (i := 18) (v := ?_) rfl (by kernel_rfl) (by kernel_rfl) (by kernel_rfl) (fun _ _ _ h => h) (Or.inl ⟨by rfl, ?_⟩) hHeld ?_
      rotate_left
      · intro w hSw; (try dsimp only at hSw); go_simp; try (with_reducible rfl)
      try simp only [sq]
      refine wpAnyH_take (i := 19) (v := ?_) rfl (by kernel_rfl) (by kernel_rfl) (by kernel_rfl) (fun _ _ _ h => h) (Or.inl ⟨by rfl, ?_⟩) hHeld ?_
      rotate_left
      · intro w hSw; (try dsimp only at hSw); go_simp; try (with_reducible rfl)
      try simp only [sq]
      refine wpAnyH_take (i := 20) (v := ?_) rfl (by kernel_rfl) (by kernel_rfl) (by kernel_rfl) (fun _ _ _ h => h) (Or.inl ⟨by rfl, ?_⟩) hHeld ?_
      rotate_left
      · intro w hSw; (try dsimp only at hSw); go_simp; try (with_reducible rfl)
      try simp only [sq]
      refine wpAnyH_ready (rs := [21]) (by kernel_rfl) (by simp) ?_
      refine (AllReadyH.cons rfl (fun K hK => ?_) AllReadyH.nil)
      try simp only [sq]
      go_simp
      go_at_call 11
      refine (C8.out _ HP.out).mono ?_
      rintro e y ⟨rfl, hb⟩
      replace HP := hid (HP.out.below hb)
      replace s0 := keepcell hb s0
      replace s1 := keepcell hb s1
      replace BX := hid (btrans BX.out hb)
      clear hb
      go_wp2_with fail
      refine hK.out _ _ ?_ (fun hHeld => ?_)
      · exact ⟨s0, s1⟩
      clear hK K
      try simp only [sq]
      refine wpAnyH_take (i := 22) (v := ?_) rfl (by kernel_rfl) (by kernel_rfl) (by kernel_rfl) (fun _ _ _ h => h) (Or.inl ⟨by rfl, ?_⟩) hHeld ?_
      rotate_left
      · intro w hSw; (try dsimp only at hSw); go_simp; try (with_reducible rfl)
      try simp only [sq]
      refine wpAnyH_take (i := 23) (v := ?_) rfl (by kernel_rfl) (by kernel_rfl) (by kernel_rfl) (fun _ _ _ h => h) (Or.inl ⟨by rfl, ?_⟩) hHeld ?_
      rotate_left
      · intro w hSw; (try dsimp only at hSw); go_simp; try (with_reducible rfl)
      try simp only [sq]
      refine wpAnyH_take (i := 24) (v := ?_) rfl (by kernel_rfl) (by kernel_rfl) (by kernel_rfl) (fun _ _ _ h => h) (Or.inl ⟨by rfl, ?_⟩) hHeld ?_
      rotate_left
      · intro w hSw; (try dsimp only at hSw); go_simp; try (with_reducible rfl)
      try simp only [sq]
      refine wpAnyH_take (i := 25) (v := ?_) rfl (by kernel_rfl) (by kernel_rfl) (by kernel_rfl) (fun _ _ _ h => h) (Or.inl ⟨by rfl, ?_⟩) hHeld ?_
      rotate_left
      · intro w hSw; (try dsimp only at hSw); go_simp; try (with_reducible rfl)
      try simp only [sq]
      refine wpAnyH_take (i := 26) (v := ?_) rfl (by kernel_rfl) (by kernel_rfl) (by kernel_rfl) (fun _ _ _ h => h) (Or.inl ⟨by rfl, ?_⟩) hHeld ?_
      rotate_left
      · intro w hSw; (try dsimp only at hSw); go_simp; try (with_reducible rfl)
      try simp only [sq]
      refine wpAnyH_take (i := 27) (v := ?_) rfl (by kernel_rfl) (by kernel_rfl) (by kernel_rfl) (fun _ _ _ h => h) (Or.inl ⟨by rfl, ?_⟩) hHeld ?_
      rotate_left
      · intro w hSw; (try dsimp only at hSw); go_simp; try (with_reducible rfl)
      try simp only [sq]
      refine wpAnyH_ready (rs := [28]) (by kernel_rfl) (by simp) ?_
      refine (AllReadyH.cons rfl (fun K hK => ?_) AllReadyH.nil)
      try simp only [sq]
      go_simp
      go_at_call 11
      refine (C8.out _ HP.out).mono ?_
      rintro e y ⟨rfl, hb⟩
      replace HP := hid (HP.out.below hb)
      replace s0 := keepcell hb s0
      replace s1 := keepcell hb s1
      replace BX := hid (btrans BX.out hb)
      clear hb
      go_wp2_with fail
      refine hK.out _ _ ?_ (fun hHeld => ?_)
      · exact ⟨s0, s1⟩
      clear hK K
      try simp only [sq]
      refine wpAnyH_take (i := 29) (v := ?_) rfl (by kernel_rfl) (by kernel_rfl) (by kernel_rfl) (fun _ _ _ h => h) (Or.inl ⟨by rfl, ?_⟩) hHeld ?_
      rotate_left
      · intro w hSw; (try dsimp only at hSw); go_simp; try (with_reducible rfl)
      try simp only [sq]
      refine wpAnyH_take (i := 30) (v := ?_) rfl (by kernel_rfl) (by kernel_rfl) (by kernel_rfl) (fun _ _ _ h => h) (Or.inl ⟨by rfl, ?_⟩) hHeld ?_
      rotate_left
      · intro w hSw; (try dsimp only at hSw); go_simp; try (with_reducible rfl)
      try simp only [sq]
      refine wpAnyH_done (by kernel_rfl) ?_ _
      go_wp2_with fail
      go_meet
      exact ⟨rfl, BX.out⟩
  case rest =>
    obtain ⟨rfl, hb⟩ := hcut
    clear s0 s1
    replace HP := hid (HP.out.below hb)
    replace gS := hid (keepheap hb gS.out)
    replace B0 := hid (btrans B0.out hb)
    clear hb
    obtain ⟨s0, s1, _, _⟩ := cell2g gS.out
    clear C3 C4 C5 C8
    go_upto_if 61 with fail
    go_cut [] (fun wx => Below wc.heap.size wc wx)
    case first =>
      cases sb
      · obtain ⟨rfl, rfl⟩ := HF.out rfl
        clear HT HF CIT CIR CSR CIG CSG HC
        have hn6 : (⟨#[]⟩ : ByteArray).toList.isEmpty = true := by rw [ByteArray.toList_eq]; rfl
        have hn5 : (!(⟨#[]⟩ : ByteArray).toList.isEmpty) = false := by rw [hn6]; rfl
        rw [hn5]
        go_wp2_with fail
        go_meet
        exact Below.refl _ _
      · obtain ⟨hT0, hB0, hr1, hg1⟩ := HT.out rfl
        have E1 := hid (CIR.out tt (by omega))
        rw [hr1] at E1
        simp only [roK, roP, Option.isSome_some] at E1
        have E2 := hid (CIG.out ((⟨#[97, 98]⟩ : ByteArray) ++ bb ++ ⟨#[99]⟩) 2 (by
          rw [ByteArray.size_append, ByteArray.size_append]
          have h1 : (⟨#[97, 98]⟩ : ByteArray).size = 2 := rfl
          have h2 : (⟨#[99]⟩ : ByteArray).size = 1 := rfl
          omega))
        rw [hg1] at E2
        simp only [soK, soP, soN] at E2
        clear hr1 hg1 HT HF CIT CIR CSR CIG CSG HC
        have hn1 := ne_empty hT0
        have hn2 := ne_empty hB0
        have hn3 := isE_no hT0
        have hn4 := isE_no hB0
        have hn5 : (!tt.toList.isEmpty) = true := by rw [hn3]; rfl
        have hq1 : ¬ 9223372036854775807 < 2 + bb.size := by omega
        have hq2 : ¬ 9223372036854775807 < 2 + bb.size + 1 := by omega
        have hwq : IntKind.i64.wrap (2 + (bb.size : Int)) = 2 + (bb.size : Int) := by rw [IntKind.wrap_i64]; omega
        have BX := hid (Below.refl wc.heap.size wc)
        rw [hn5]
        go_wp2_with fail
        refine (E1.out _ B0.out).mono ?_
        rintro e x1 ⟨xa, xc, rfl, hxc, hx, _, hb⟩
        clear s0 s1
        replace BX := hid (btrans BX.out hb)
        replace HP := hid (HP.out.below hb)
        replace gS := hid (keepheap hb gS.out)
        replace B0 := hid (btrans B0.out hb)
        clear hb
        obtain ⟨s0, s1, _, _⟩ := cell2g gS.out
        have HX := hid hx.pts
        clear hx E1
        go_wp2_with fail
        clear s0 s1
        replace BX := hid (balloc BX.out (.cells #[.int .i64 kd, .slice xa ps.length xc] 26))
        have hbA := balloc (Below.refl x1.heap.size x1) (.cells #[.int .i64 kd, .slice xa ps.length xc] 26)
        have gX := hid (new_alloc x1 x1.heap.size (.cells #[.int .i64 kd, .slice xa ps.length xc] 26) rfl)
        replace HP := hid (HP.out.below hbA)
        replace HX := hid (HX.out.below hbA)
        replace gS := hid (keepheap hbA gS.out)
        replace B0 := hid (btrans B0.out hbA)
        clear hbA
        generalize x1.alloc (.cells #[.int .i64 kd, .slice xa ps.length xc] 26) = x2 at *
        generalize x1.heap.size = X at *
        obtain ⟨s0, s1, _, _⟩ := cell2g gS.out
        obtain ⟨x0, x1, _, _⟩ := cell2g gX.out
        refine (E2.out _ B0.out).mono ?_
        rintro e x3 ⟨ya, yc, rfl, hyc, hy, _, hb⟩
        clear s0 s1
        clear x0 x1
        replace BX := hid (btrans BX.out hb)
        replace HP := hid (HP.out.below hb)
        replace HX := hid (HX.out.below hb)
        replace gS := hid (keepheap hb gS.out)
        replace gX := hid (keepheap hb gX.out)
        replace B0 := hid (btrans B0.out hb)
        clear hb
        obtain ⟨s0, s1, _, _⟩ := cell2g gS.out
        obtain ⟨x0, x1, _, _⟩ := cell2g gX.out
        have HY := hid hy.pts
        clear hy E2
        go_upto_region 11 with fail
        clear s0 s1
        clear x0 x1
        replace BX := hid (balloc BX.out (.cells #[.int .i64 kd, .slice ya ps.length yc] 26))
        have hbA := balloc (Below.refl x3.heap.size x3) (.cells #[.int .i64 kd, .slice ya ps.length yc] 26)
        have gY := hid (new_alloc x3 x3.heap.size (.cells #[.int .i64 kd, .slice ya ps.length yc] 26) rfl)
        replace HP := hid (HP.out.below hbA)
        replace HX := hid (HX.out.below hbA)
        replace HY := hid (HY.out.below hbA)
        replace gS := hid (keepheap hbA gS.out)
        replace gX := hid (keepheap hbA gX.out)
        replace B0 := hid (btrans B0.out hbA)
        clear hbA
        generalize x3.alloc (.cells #[.int .i64 kd, .slice ya ps.length yc] 26) = x4 at *
        generalize x3.heap.size = Y at *
        obtain ⟨s0, s1, _, _⟩ := cell2g gS.out
        obtain ⟨x0, x1, _, _⟩ := cell2g gX.out
        obtain ⟨y0, y1, _, _⟩ := cell2g gY.out
        go_wp2_with fail
        refine (same_shp kd xa ao xc cp ps _ (by omega) hxc hcp HX.out HP.out).mono ?_
        rintro e x5 ⟨rfl, hb⟩
        clear s0 s1
        clear x0 x1
        clear y0 y1
        replace BX := hid (btrans BX.out hb)
        replace HP := hid (HP.out.below hb)
        replace HX := hid (HX.out.below hb)
        replace HY := hid (HY.out.below hb)
        replace gS := hid (keepheap hb gS.out)
        replace gX := hid (keepheap hb gX.out)
        replace gY := hid (keepheap hb gY.out)
        replace B0 := hid (btrans B0.out hb)
        clear hb
        obtain ⟨s0, s1, _, _⟩ := cell2g gS.out
        obtain ⟨x0, x1, _, _⟩ := cell2g gX.out
        obtain ⟨y0, y1, _, _⟩ := cell2g gY.out
        go_wp2_with fail
        refine (same_shp kd ya ao yc cp ps _ (by omega) hyc hcp HY.out HP.out).mono ?_
        rintro e x6 ⟨rfl, hb⟩
        clear s0 s1
        clear x0 x1
        clear y0 y1
        replace BX := hid (btrans BX.out hb)
        replace HP := hid (HP.out.below hb)
        replace HX := hid (HX.out.below hb)
        replace HY := hid (HY.out.below hb)
        replace gS := hid (keepheap hb gS.out)
        replace gX := hid (keepheap hb gX.out)
        replace gY := hid (keepheap hb gY.out)
        replace B0 := hid (btrans B0.out hb)
        clear hb
        obtain ⟨s0, s1, _, _⟩ := cell2g gS.out
        obtain ⟨x0, x1, _, _⟩ := cell2g gX.out
        obtain ⟨y0, y1, _, _⟩ := cell2g gY.out
        go_wp2_with fail
        go_meet
        exact BX.out
    case rest =>
      replace B0 := hid (btrans B0.out hcut)
      clear hcut HT HF HP gS s0 s1
      go_wp2_with fail
      refine (draw_rtext _ a0 len0 cap0 ((HC.out.below B0.out).mono B0.out.size)).mono ?_
      rintro e u1 ⟨u, rfl, hu, hb⟩
      replace B0 := hid (btrans B0.out hb)
      clear hb
      have D1 := hid (CIR.out u (by omega))
      have D2 := hid (CSR.out u (by omega))
      have RF : Hid (∀ k1 l1, rso (rest u u.size 0 0) = some (k1, l1) → l1.length ≤ 60 ∧ ∀ (a : Option Addr) (cap : Nat) (hc : l1.length ≤ cap) (W : World) (hp : Pts W a l1) (hb : Below w.heap.size w W), Calls Tryz.prog 6 #[shv k1 a l1.length cap] W fun e w' => e = .returned (.string u) ∧ Below W.heap.size W w') := hid (fun k1 l1 hr => by
        have hl1 := rso_few hr
        obtain ⟨_, hux⟩ := txv_rso hr
        refine ⟨hl1, fun a cap hc W hp hb => ?_⟩
        have C6 := CIT.out k1 a cap l1 (by omega) hc W hp hb
        rw [hux] at C6
        exact C6)
      generalize rso (rest u u.size 0 0) = ro at *
      generalize hrn : (roP ro).length = rn at *
      generalize hrk : roK ro = rk at *
      generalize hrs : ro.isSome = rs at *
      go_wp2_with fail
      refine (D1.out _ B0.out).mono ?_
      rintro e u2 ⟨xa, xc, rfl, hxc, hx, _, hb⟩
      replace B0 := hid (btrans B0.out hb)
      clear hb
      have HX := hid hx.pts
      clear hx D1
      go_wp2_with fail
      have hbA := balloc (Below.refl u2.heap.size u2) (.cells #[.int .i64 rk, .slice xa rn xc] 26)
      have gX := hid (new_alloc u2 u2.heap.size (.cells #[.int .i64 rk, .slice xa rn xc] 26) rfl)
      replace HX := hid (HX.out.below hbA)
      replace B0 := hid (btrans B0.out hbA)
      clear hbA
      generalize u2.alloc (.cells #[.int .i64 rk, .slice xa rn xc] 26) = u3 at *
      generalize u2.heap.size = X at *
      obtain ⟨x0, x1, _, _⟩ := cell2g gX.out
      refine (D2.out _).mono ?_
      rintro e u4 ⟨xb, xd, rfl, hxd, _, _, hb⟩
      clear x0 x1
      replace HX := hid (HX.out.below hb)
      replace gX := hid (keepheap hb gX.out)
      replace B0 := hid (btrans B0.out hb)
      clear hb
      obtain ⟨x0, x1, _, _⟩ := cell2g gX.out
      clear D2
      go_wp2_with fail
      clear x0 x1
      have hbA := balloc (Below.refl u4.heap.size u4) (.cells #[.int .i64 rk, .slice xb rn xd] 26)
      have gXs := hid (new_alloc u4 u4.heap.size (.cells #[.int .i64 rk, .slice xb rn xd] 26) rfl)
      replace HX := hid (HX.out.below hbA)
      replace gX := hid (keepheap hbA gX.out)
      replace B0 := hid (btrans B0.out hbA)
      clear hbA
      generalize u4.alloc (.cells #[.int .i64 rk, .slice xb rn xd] 26) = u5 at *
      generalize u4.heap.size = Xs at *
      obtain ⟨x0, x1, _, _⟩ := cell2g gX.out
      obtain ⟨xs0, xs1, _, _⟩ := cell2g gXs.out
      clear xs0 xs1 gXs
      refine (draw_gshape _ a0 len0 cap0 ((HC.out.below B0.out).mono B0.out.size)).mono ?_
      rintro e u6 ⟨v, i, rfl, hv, hi, hb⟩
      clear x0 x1
      replace HX := hid (HX.out.below hb)
      replace gX := hid (keepheap hb gX.out)
      replace B0 := hid (btrans B0.out hb)
      clear hb
      obtain ⟨x0, x1, _, _⟩ := cell2g gX.out
      have D3 := hid (CIG.out v i (by omega))
      have D4 := hid (CSG.out v i (by omega) (by omega) (by omega))
      rw [gso_same v 2000000000 (by omega) i] at D3
      have GF : Hid (∀ k2 l2 q2, gso v 200000 i = some (k2, l2, q2) → ∃ p n : Nat, i = (p : Int) ∧ q2 = (n : Int) ∧ p ≤ n ∧ n ≤ v.size ∧ l2.length ≤ 60 ∧ ∀ (a : Option Addr) (cap : Nat) (hc : l2.length ≤ cap) (W : World) (hp : Pts W a l2), Calls Tryz.prog 7 #[shv k2 a l2.length cap] W fun e w' => e = .returned (.string (v.extract p n)) ∧ Below W.heap.size W w') := hid (fun k2 l2 q2 hq => by
        obtain ⟨p, n, h1, h2, hpn, hnv, hpx, hl2⟩ := gso_cut hq
        refine ⟨p, n, h1, h2, hpn, hnv, hl2, fun a cap hc W hp => ?_⟩
        have C7 := impl_PutShape k2 a cap l2 W (by omega) hc hp
        rw [hpx] at C7
        exact C7)
      generalize gso v 200000 i = go at *
      generalize hgn : (soP go).length = gn at *
      generalize hgk : soK go = gk at *
      generalize hgs : soN go = gs at *
      go_wp2_with fail
      refine (D3.out _ B0.out).mono ?_
      rintro e u7 ⟨ya, yc, rfl, hyc, hy, _, hb⟩
      clear x0 x1
      replace HX := hid (HX.out.below hb)
      replace gX := hid (keepheap hb gX.out)
      replace B0 := hid (btrans B0.out hb)
      clear hb
      obtain ⟨x0, x1, _, _⟩ := cell2g gX.out
      have HY := hid hy.pts
      clear hy D3
      go_wp2_with fail
      clear x0 x1
      have hbA := balloc (Below.refl u7.heap.size u7) (.cells #[.int .i64 gk, .slice ya gn yc] 26)
      have gY := hid (new_alloc u7 u7.heap.size (.cells #[.int .i64 gk, .slice ya gn yc] 26) rfl)
      replace HX := hid (HX.out.below hbA)
      replace HY := hid (HY.out.below hbA)
      replace gX := hid (keepheap hbA gX.out)
      replace B0 := hid (btrans B0.out hbA)
      clear hbA
      generalize u7.alloc (.cells #[.int .i64 gk, .slice ya gn yc] 26) = u8 at *
      generalize u7.heap.size = Y at *
      obtain ⟨x0, x1, _, _⟩ := cell2g gX.out
      obtain ⟨y0, y1, _, _⟩ := cell2g gY.out
      refine (D4.out _).mono ?_
      rintro e u9 ⟨za, zc, rfl, hzc, hz, _, hb⟩
      clear x0 x1
      clear y0 y1
      replace HX := hid (HX.out.below hb)
      replace HY := hid (HY.out.below hb)
      replace gX := hid (keepheap hb gX.out)
      replace gY := hid (keepheap hb gY.out)
      replace B0 := hid (btrans B0.out hb)
      clear hb
      obtain ⟨x0, x1, _, _⟩ := cell2g gX.out
      obtain ⟨y0, y1, _, _⟩ := cell2g gY.out
      have HZ := hid hz.pts
      clear hz D4
      go_upto_region 19 with fail
      clear x0 x1
      clear y0 y1
      have hbA := balloc (Below.refl u9.heap.size u9) (.cells #[.int .i64 gk, .slice za gn zc] 26)
      have gZ := hid (new_alloc u9 u9.heap.size (.cells #[.int .i64 gk, .slice za gn zc] 26) rfl)
      replace HX := hid (HX.out.below hbA)
      replace HY := hid (HY.out.below hbA)
      replace HZ := hid (HZ.out.below hbA)
      replace gX := hid (keepheap hbA gX.out)
      replace gY := hid (keepheap hbA gY.out)
      replace B0 := hid (btrans B0.out hbA)
      clear hbA
      generalize u9.alloc (.cells #[.int .i64 gk, .slice za gn zc] 26) = V0 at *
      generalize u9.heap.size = Z at *
      obtain ⟨x0, x1, _, _⟩ := cell2g gX.out
      obtain ⟨y0, y1, _, _⟩ := cell2g gY.out
      obtain ⟨z0, z1, _, _⟩ := cell2g gZ.out
      go_cut [2] (fun t2 wx => t2 = .bool true ∧ Below V0.heap.size V0 wx)
      case first =>
        clear CIT CIR CSR CIG CSG HC
        have hbD := bdrew (Below.refl V0.heap.size V0)
        have BX := hid hbD
        cases ro with
        | none =>
          simp only [roK, roP, Option.isSome_some, Option.isSome_none, List.length_nil] at hrn hrk hrs HX
          subst hrn hrk hrs
          clear RF
          cases go with
          | none =>
            simp only [soK, soP, soN, List.length_nil] at hgn hgk hgs HY HZ
            subst hgn hgk hgs
            clear GF
            have SM := hid (fun (W : World) (hp : Pts W ya []) (hq : Pts W za []) => same_shp 0 ya za yc zc [] W (by first | (simp; done) | omega) (by first | exact hyc | (simp; done)) (by first | exact hzc | (simp; done)) hp hq)
            simp only [List.length_nil] at SM
            refine wp_region_held_drew (S := (fun w' => w'.cell? ⟨X, 0, none⟩ = some (.int .i64 0) ∧ w'.cell? ⟨X, 1, none⟩ = some (.slice xa 0 xc) ∧ w'.cell? ⟨Y, 0, none⟩ = some (.int .i64 0) ∧ w'.cell? ⟨Y, 1, none⟩ = some (.slice ya 0 yc) ∧ w'.cell? ⟨Z, 0, none⟩ = some (.int .i64 0) ∧ w'.cell? ⟨Z, 1, none⟩ = some (.slice za 0 zc))) (by kernel_rfl) ?_ (fun hHeld => ?_)
            · (repeat' apply And.intro) <;> (first | with_reducible exact x0 | with_reducible exact x1 | with_reducible exact y0 | with_reducible exact y1 | with_reducible exact z0 | with_reducible exact z1 | exact x0 | exact x1 | exact y0 | exact y1 | exact z0 | exact z1)
            replace HX := hid (HX.out.below hbD)
            replace HY := hid (HY.out.below hbD)
            replace HZ := hid (HZ.out.below hbD)
            replace x0 := keepcell hbD x0
            replace x1 := keepcell hbD x1
            replace y0 := keepcell hbD y0
            replace y1 := keepcell hbD y1
            replace z0 := keepcell hbD z0
            replace z1 := keepcell hbD z1
            replace B0 := hid (btrans B0.out hbD)
            clear hbD gX gY gZ
            generalize V0.drew = V1 at *
            refine wpAnyH_take (i := 0) (v := ?_) rfl (by kernel_rfl) (by kernel_rfl) (by kernel_rfl) (fun _ _ _ h => h) (Or.inl ⟨by rfl, ?_⟩) hHeld ?_
            rotate_left
            · intro w hSw; (try dsimp only at hSw); go_simp; try (with_reducible rfl)
            try simp only [sq]
            refine wpAnyH_take (i := 1) (v := ?_) rfl (by kernel_rfl) (by kernel_rfl) (by kernel_rfl) (fun _ _ _ h => h) (Or.inl ⟨by rfl, ?_⟩) hHeld ?_
            rotate_left
            · intro w hSw; (try dsimp only at hSw); go_simp; try (with_reducible rfl)
            try simp only [sq]
            refine wpAnyH_take (i := 2) (v := ?_) rfl (by kernel_rfl) (by kernel_rfl) (by kernel_rfl) (fun _ _ _ h => h) (Or.inl ⟨by rfl, ?_⟩) hHeld ?_
            rotate_left
            · intro w hSw; (try dsimp only at hSw); go_simp; try (with_reducible rfl)
            try simp only [sq]
            refine wpAnyH_take (i := 3) (v := ?_) rfl (by kernel_rfl) (by kernel_rfl) (by kernel_rfl) (fun _ _ _ h => h) (Or.inl ⟨by rfl, ?_⟩) hHeld ?_
            rotate_left
            · intro w hSw; (try dsimp only at hSw); go_simp; try (with_reducible rfl)
            try simp only [sq]
            refine wpAnyH_take (i := 4) (v := ?_) rfl (by kernel_rfl) (by kernel_rfl) (by kernel_rfl) (fun _ _ _ h => h) (Or.inl ⟨by rfl, ?_⟩) hHeld ?_
            rotate_left
            · intro w hSw; (try dsimp only at hSw); go_simp; try (with_reducible rfl)
            try simp only [sq]
            refine wpAnyH_take (i := 5) (v := ?_) rfl (by kernel_rfl) (by kernel_rfl) (by kernel_rfl) (fun _ _ _ h => h) (Or.inl ⟨by rfl, ?_⟩) hHeld ?_
            rotate_left
            · intro w hSw; (try dsimp only at hSw); go_simp; try (with_reducible rfl)
            try simp only [sq]
            refine wpAnyH_take (i := 6) (v := ?_) rfl (by kernel_rfl) (by kernel_rfl) (by kernel_rfl) (fun _ _ _ h => h) (Or.inl ⟨by rfl, ?_⟩) hHeld ?_
            rotate_left
            · intro w hSw; (try dsimp only at hSw); go_simp; try (with_reducible rfl)
            try simp only [sq]
            refine wpAnyH_take (i := 7) (v := undef) rfl (by kernel_rfl) (by kernel_rfl) (by kernel_rfl) (fun _ _ _ h => h) (Or.inr ⟨by rfl, rfl⟩) hHeld ?_
            try simp only [sq]
            refine wpAnyH_take (i := 8) (v := undef) rfl (by kernel_rfl) (by kernel_rfl) (by kernel_rfl) (fun _ _ _ h => h) (Or.inr ⟨by rfl, rfl⟩) hHeld ?_
            try simp only [sq]
            refine wpAnyH_take (i := 9) (v := undef) rfl (by kernel_rfl) (by kernel_rfl) (by kernel_rfl) (fun _ _ _ h => h) (Or.inr ⟨by rfl, rfl⟩) hHeld ?_
            try simp only [sq]
            refine wpAnyH_take (i := 10) (v := undef) rfl (by kernel_rfl) (by kernel_rfl) (by kernel_rfl) (fun _ _ _ h => h) (Or.inr ⟨by rfl, rfl⟩) hHeld ?_
            try simp only [sq]
            refine wpAnyH_take (i := 11) (v := ?_) rfl (by kernel_rfl) (by kernel_rfl) (by kernel_rfl) (fun _ _ _ h => h) (Or.inl ⟨by rfl, ?_⟩) hHeld ?_
            rotate_left
            · intro w hSw; (try dsimp only at hSw); go_simp; try (with_reducible rfl)
            try simp only [sq]
            refine wpAnyH_take (i := 12) (v := ?_) rfl (by kernel_rfl) (by kernel_rfl) (by kernel_rfl) (fun _ _ _ h => h) (Or.inl ⟨by rfl, ?_⟩) hHeld ?_
            rotate_left
            · intro w hSw; (try dsimp only at hSw); go_simp; try (with_reducible rfl)
            try simp only [sq]
            refine wpAnyH_take (i := 13) (v := ?_) rfl (by kernel_rfl) (by kernel_rfl) (by kernel_rfl) (fun _ _ _ h => h) (Or.inl ⟨by rfl, ?_⟩) hHeld ?_
            rotate_left
            · intro w hSw; (try dsimp only at hSw); go_simp; try (with_reducible rfl)
            try simp only [sq]
            refine wpAnyH_take (i := 14) (v := ?_) rfl (by kernel_rfl) (by kernel_rfl) (by kernel_rfl) (fun _ _ _ h => h) (Or.inl ⟨by rfl, ?_⟩) hHeld ?_
            rotate_left
            · intro w hSw; (try dsimp only at hSw); go_simp; try (with_reducible rfl)
            try simp only [sq]
            refine wpAnyH_take (i := 15) (v := ?_) rfl (by kernel_rfl) (by kernel_rfl) (by kernel_rfl) (fun _ _ _ h => h) (Or.inl ⟨by rfl, ?_⟩) hHeld ?_
            rotate_left
            · intro w hSw; (try dsimp only at hSw); go_simp; try (with_reducible rfl)
            try simp only [sq]
            refine wpAnyH_take (i := 16) (v := ?_) rfl (by kernel_rfl) (by kernel_rfl) (by kernel_rfl) (fun _ _ _ h => h) (Or.inl ⟨by rfl, ?_⟩) hHeld ?_
            rotate_left
            · intro w hSw; (try dsimp only at hSw); go_simp; try (with_reducible rfl)
            try simp only [sq]
            refine wpAnyH_take (i := 17) (v := ?_) rfl (by kernel_rfl) (by kernel_rfl) (by kernel_rfl) (fun _ _ _ h => h) (Or.inl ⟨by rfl, ?_⟩) hHeld ?_
            rotate_left
            · intro w hSw; (try dsimp only at hSw); go_simp; try (with_reducible rfl)
            try simp only [sq]
            refine wpAnyH_take (i := 18) (v := ?_) rfl (by kernel_rfl) (by kernel_rfl) (by kernel_rfl) (fun _ _ _ h => h) (Or.inl ⟨by rfl, ?_⟩) hHeld ?_
            rotate_left
            · intro w hSw; (try dsimp only at hSw); go_simp; try (with_reducible rfl)
            try simp only [sq]
            refine wpAnyH_take (i := 19) (v := ?_) rfl (by kernel_rfl) (by kernel_rfl) (by kernel_rfl) (fun _ _ _ h => h) (Or.inl ⟨by rfl, ?_⟩) hHeld ?_
            rotate_left
            · intro w hSw; (try dsimp only at hSw); go_simp; try (with_reducible rfl)
            try simp only [sq]
            refine wpAnyH_take (i := 20) (v := ?_) rfl (by kernel_rfl) (by kernel_rfl) (by kernel_rfl) (fun _ _ _ h => h) (Or.inl ⟨by rfl, ?_⟩) hHeld ?_
            rotate_left
            · intro w hSw; (try dsimp only at hSw); go_simp; try (with_reducible rfl)
            try simp only [sq]
            refine wpAnyH_ready (rs := [21]) (by kernel_rfl) (by simp) ?_
            refine AllReadyH.cons rfl (fun K hK => ?_) AllReadyH.nil
            try simp only [sq]
            go_simp
            (first
                | (go_at_call 14; refine (SM.out _ HY.out HZ.out).mono ?_; rintro e y ⟨rfl, hb⟩; replace HX := hid (HX.out.below hb); replace HY := hid (HY.out.below hb); replace HZ := hid (HZ.out.below hb); replace x0 := keepcell hb x0; replace x1 := keepcell hb x1; replace y0 := keepcell hb y0; replace y1 := keepcell hb y1; replace z0 := keepcell hb z0; replace z1 := keepcell hb z1; replace B0 := hid (btrans B0.out hb); replace BX := hid (btrans BX.out hb); clear hb))
            go_wp2_with fail
            refine hK.out _ _ ?_ (fun hHeld => ?_)
            · (repeat' apply And.intro) <;> (first | with_reducible exact x0 | with_reducible exact x1 | with_reducible exact y0 | with_reducible exact y1 | with_reducible exact z0 | with_reducible exact z1 | exact x0 | exact x1 | exact y0 | exact y1 | exact z0 | exact z1)
            clear hK K
            try simp only [sq]
            refine wpAnyH_take (i := 22) (v := ?_) rfl (by kernel_rfl) (by kernel_rfl) (by kernel_rfl) (fun _ _ _ h => h) (Or.inl ⟨by rfl, ?_⟩) hHeld ?_
            rotate_left
            · intro w hSw; (try dsimp only at hSw); go_simp; try (with_reducible rfl)
            try simp only [sq]
            refine wpAnyH_take (i := 23) (v := ?_) rfl (by kernel_rfl) (by kernel_rfl) (by kernel_rfl) (fun _ _ _ h => h) (Or.inl ⟨by rfl, ?_⟩) hHeld ?_
            rotate_left
            · intro w hSw; (try dsimp only at hSw); go_simp; try (with_reducible rfl)
            try simp only [sq]
            refine wpAnyH_take (i := 24) (v := ?_) rfl (by kernel_rfl) (by kernel_rfl) (by kernel_rfl) (fun _ _ _ h => h) (Or.inl ⟨by rfl, ?_⟩) hHeld ?_
            rotate_left
            · intro w hSw; (try dsimp only at hSw); go_simp; try (with_reducible rfl)
            try simp only [sq]
            refine wpAnyH_take (i := 25) (v := ?_) rfl (by kernel_rfl) (by kernel_rfl) (by kernel_rfl) (fun _ _ _ h => h) (Or.inl ⟨by rfl, ?_⟩) hHeld ?_
            rotate_left
            · intro w hSw; (try dsimp only at hSw); go_simp; try (with_reducible rfl)
            try simp only [sq]
            refine wpAnyH_take (i := 26) (v := ?_) rfl (by kernel_rfl) (by kernel_rfl) (by kernel_rfl) (fun _ _ _ h => h) (Or.inl ⟨by rfl, ?_⟩) hHeld ?_
            rotate_left
            · intro w hSw; (try dsimp only at hSw); go_simp; try (with_reducible rfl)
            try simp only [sq]
            refine wpAnyH_take (i := 27) (v := undef) rfl (by kernel_rfl) (by kernel_rfl) (by kernel_rfl) (fun _ _ _ h => h) (Or.inr ⟨by rfl, rfl⟩) hHeld ?_
            try simp only [sq]
            refine wpAnyH_take (i := 28) (v := undef) rfl (by kernel_rfl) (by kernel_rfl) (by kernel_rfl) (fun _ _ _ h => h) (Or.inr ⟨by rfl, rfl⟩) hHeld ?_
            try simp only [sq]
            refine wpAnyH_take (i := 29) (v := undef) rfl (by kernel_rfl) (by kernel_rfl) (by kernel_rfl) (fun _ _ _ h => h) (Or.inr ⟨by rfl, rfl⟩) hHeld ?_
            try simp only [sq]
            refine wpAnyH_take (i := 30) (v := undef) rfl (by kernel_rfl) (by kernel_rfl) (by kernel_rfl) (fun _ _ _ h => h) (Or.inr ⟨by rfl, rfl⟩) hHeld ?_
            try simp only [sq]
            refine wpAnyH_take (i := 31) (v := undef) rfl (by kernel_rfl) (by kernel_rfl) (by kernel_rfl) (fun _ _ _ h => h) (Or.inr ⟨by rfl, rfl⟩) hHeld ?_
            try simp only [sq]
            refine wpAnyH_take (i := 32) (v := undef) rfl (by kernel_rfl) (by kernel_rfl) (by kernel_rfl) (fun _ _ _ h => h) (Or.inr ⟨by rfl, rfl⟩) hHeld ?_
            try simp only [sq]
            refine wpAnyH_take (i := 33) (v := undef) rfl (by kernel_rfl) (by kernel_rfl) (by kernel_rfl) (fun _ _ _ h => h) (Or.inr ⟨by rfl, rfl⟩) hHeld ?_
            try simp only [sq]
            refine wpAnyH_take (i := 34) (v := ?_) rfl (by kernel_rfl) (by kernel_rfl) (by kernel_rfl) (fun _ _ _ h => h) (Or.inl ⟨by rfl, ?_⟩) hHeld ?_
            rotate_left
            · intro w hSw; (try dsimp only at hSw); go_simp; try (with_reducible rfl)
            try simp only [sq]
            refine wpAnyH_take (i := 35) (v := ?_) rfl (by kernel_rfl) (by kernel_rfl) (by kernel_rfl) (fun _ _ _ h => h) (Or.inl ⟨by rfl, ?_⟩) hHeld ?_
            rotate_left
            · intro w hSw; (try dsimp only at hSw); go_simp; try (with_reducible rfl)
            try simp only [sq]
            refine wpAnyH_take (i := 36) (v := ?_) rfl (by kernel_rfl) (by kernel_rfl) (by kernel_rfl) (fun _ _ _ h => h) (Or.inl ⟨by rfl, ?_⟩) hHeld ?_
            rotate_left
            · intro w hSw; (try dsimp only at hSw); go_simp; try (with_reducible rfl)
            try simp only [sq]
            refine wpAnyH_done (by kernel_rfl) ?_ _
            go_wp2_with fail
            go_meet
            exact ⟨rfl, BX.out⟩
          | some r =>
            obtain ⟨k2, l2, q2⟩ := r
            obtain ⟨p, n, rfl, rfl, hpn, hnv, hl2, C7⟩ := GF.out k2 l2 q2 rfl
            replace C7 := hid C7
            simp only [soK, soP, soN, List.length_nil] at hgn hgk hgs HY HZ
            subst hgn hgk hgs
            clear GF
            have hn0 : ¬ (n : Int) < 0 := by omega
            have hs0 : (0 : Int) ≤ (p : Int) := by omega
            have hs1 : (p : Int) ≤ (n : Int) := by omega
            have hs2 : (n : Int) ≤ (v.size : Int) := by omega
            have SM := hid (fun (W : World) (hp : Pts W ya l2) (hq : Pts W za l2) => same_shp k2 ya za yc zc l2 W (by first | (simp; done) | omega) (by first | exact hyc | (simp; done)) (by first | exact hzc | (simp; done)) hp hq)
            refine wp_region_held_drew (S := (fun w' => w'.cell? ⟨X, 0, none⟩ = some (.int .i64 0) ∧ w'.cell? ⟨X, 1, none⟩ = some (.slice xa 0 xc) ∧ w'.cell? ⟨Y, 0, none⟩ = some (.int .i64 k2) ∧ w'.cell? ⟨Y, 1, none⟩ = some (.slice ya l2.length yc) ∧ w'.cell? ⟨Z, 0, none⟩ = some (.int .i64 k2) ∧ w'.cell? ⟨Z, 1, none⟩ = some (.slice za l2.length zc))) (by kernel_rfl) ?_ (fun hHeld => ?_)
            · (repeat' apply And.intro) <;> (first | with_reducible exact x0 | with_reducible exact x1 | with_reducible exact y0 | with_reducible exact y1 | with_reducible exact z0 | with_reducible exact z1 | exact x0 | exact x1 | exact y0 | exact y1 | exact z0 | exact z1)
            replace HX := hid (HX.out.below hbD)
            replace HY := hid (HY.out.below hbD)
            replace HZ := hid (HZ.out.below hbD)
            replace x0 := keepcell hbD x0
            replace x1 := keepcell hbD x1
            replace y0 := keepcell hbD y0
            replace y1 := keepcell hbD y1
            replace z0 := keepcell hbD z0
            replace z1 := keepcell hbD z1
            replace B0 := hid (btrans B0.out hbD)
            clear hbD gX gY gZ
            generalize V0.drew = V1 at *
            refine wpAnyH_take (i := 0) (v := ?_) rfl (by kernel_rfl) (by kernel_rfl) (by kernel_rfl) (fun _ _ _ h => h) (Or.inl ⟨by rfl, ?_⟩) hHeld ?_
            rotate_left
            · intro w hSw; (try dsimp only at hSw); go_simp; try (with_reducible rfl)
            try simp only [sq]
            refine wpAnyH_take (i := 1) (v := ?_) rfl (by kernel_rfl) (by kernel_rfl) (by kernel_rfl) (fun _ _ _ h => h) (Or.inl ⟨by rfl, ?_⟩) hHeld ?_
            rotate_left
            · intro w hSw; (try dsimp only at hSw); go_simp; try (with_reducible rfl)
            try simp only [sq]
            refine wpAnyH_take (i := 2) (v := ?_) rfl (by kernel_rfl) (by kernel_rfl) (by kernel_rfl) (fun _ _ _ h => h) (Or.inl ⟨by rfl, ?_⟩) hHeld ?_
            rotate_left
            · intro w hSw; (try dsimp only at hSw); go_simp; try (with_reducible rfl)
            try simp only [sq]
            refine wpAnyH_take (i := 3) (v := ?_) rfl (by kernel_rfl) (by kernel_rfl) (by kernel_rfl) (fun _ _ _ h => h) (Or.inl ⟨by rfl, ?_⟩) hHeld ?_
            rotate_left
            · intro w hSw; (try dsimp only at hSw); go_simp; try (with_reducible rfl)
            try simp only [sq]
            refine wpAnyH_take (i := 4) (v := ?_) rfl (by kernel_rfl) (by kernel_rfl) (by kernel_rfl) (fun _ _ _ h => h) (Or.inl ⟨by rfl, ?_⟩) hHeld ?_
            rotate_left
            · intro w hSw; (try dsimp only at hSw); go_simp; try (with_reducible rfl)
            try simp only [sq]
            refine wpAnyH_take (i := 5) (v := ?_) rfl (by kernel_rfl) (by kernel_rfl) (by kernel_rfl) (fun _ _ _ h => h) (Or.inl ⟨by rfl, ?_⟩) hHeld ?_
            rotate_left
            · intro w hSw; (try dsimp only at hSw); go_simp; try (with_reducible rfl)
            try simp only [sq]
            refine wpAnyH_take (i := 6) (v := ?_) rfl (by kernel_rfl) (by kernel_rfl) (by kernel_rfl) (fun _ _ _ h => h) (Or.inl ⟨by rfl, ?_⟩) hHeld ?_
            rotate_left
            · intro w hSw; (try dsimp only at hSw); go_simp; try (with_reducible rfl)
            try simp only [sq]
            refine wpAnyH_take (i := 7) (v := undef) rfl (by kernel_rfl) (by kernel_rfl) (by kernel_rfl) (fun _ _ _ h => h) (Or.inr ⟨by rfl, rfl⟩) hHeld ?_
            try simp only [sq]
            refine wpAnyH_take (i := 8) (v := undef) rfl (by kernel_rfl) (by kernel_rfl) (by kernel_rfl) (fun _ _ _ h => h) (Or.inr ⟨by rfl, rfl⟩) hHeld ?_
            try simp only [sq]
            refine wpAnyH_take (i := 9) (v := undef) rfl (by kernel_rfl) (by kernel_rfl) (by kernel_rfl) (fun _ _ _ h => h) (Or.inr ⟨by rfl, rfl⟩) hHeld ?_
            try simp only [sq]
            refine wpAnyH_take (i := 10) (v := undef) rfl (by kernel_rfl) (by kernel_rfl) (by kernel_rfl) (fun _ _ _ h => h) (Or.inr ⟨by rfl, rfl⟩) hHeld ?_
            try simp only [sq]
            refine wpAnyH_take (i := 11) (v := ?_) rfl (by kernel_rfl) (by kernel_rfl) (by kernel_rfl) (fun _ _ _ h => h) (Or.inl ⟨by rfl, ?_⟩) hHeld ?_
            rotate_left
            · intro w hSw; (try dsimp only at hSw); go_simp; try (with_reducible rfl)
            try simp only [sq]
            refine wpAnyH_take (i := 12) (v := ?_) rfl (by kernel_rfl) (by kernel_rfl) (by kernel_rfl) (fun _ _ _ h => h) (Or.inl ⟨by rfl, ?_⟩) hHeld ?_
            rotate_left
            · intro w hSw; (try dsimp only at hSw); go_simp; try (with_reducible rfl)
            try simp only [sq]
            refine wpAnyH_take (i := 13) (v := ?_) rfl (by kernel_rfl) (by kernel_rfl) (by kernel_rfl) (fun _ _ _ h => h) (Or.inl ⟨by rfl, ?_⟩) hHeld ?_
            rotate_left
            · intro w hSw; (try dsimp only at hSw); go_simp; try (with_reducible rfl)
            try simp only [sq]
            refine wpAnyH_take (i := 14) (v := ?_) rfl (by kernel_rfl) (by kernel_rfl) (by kernel_rfl) (fun _ _ _ h => h) (Or.inl ⟨by rfl, ?_⟩) hHeld ?_
            rotate_left
            · intro w hSw; (try dsimp only at hSw); go_simp; try (with_reducible rfl)
            try simp only [sq]
            refine wpAnyH_take (i := 15) (v := ?_) rfl (by kernel_rfl) (by kernel_rfl) (by kernel_rfl) (fun _ _ _ h => h) (Or.inl ⟨by rfl, ?_⟩) hHeld ?_
            rotate_left
            · intro w hSw; (try dsimp only at hSw); go_simp; try (with_reducible rfl)
            try simp only [sq]
            refine wpAnyH_take (i := 16) (v := ?_) rfl (by kernel_rfl) (by kernel_rfl) (by kernel_rfl) (fun _ _ _ h => h) (Or.inl ⟨by rfl, ?_⟩) hHeld ?_
            rotate_left
            · intro w hSw; (try dsimp only at hSw); go_simp; try (with_reducible rfl)
            try simp only [sq]
            refine wpAnyH_take (i := 17) (v := ?_) rfl (by kernel_rfl) (by kernel_rfl) (by kernel_rfl) (fun _ _ _ h => h) (Or.inl ⟨by rfl, ?_⟩) hHeld ?_
            rotate_left
            · intro w hSw; (try dsimp only at hSw); go_simp; try (with_reducible rfl)
            try simp only [sq]
            refine wpAnyH_take (i := 18) (v := ?_) rfl (by kernel_rfl) (by kernel_rfl) (by kernel_rfl) (fun _ _ _ h => h) (Or.inl ⟨by rfl, ?_⟩) hHeld ?_
            rotate_left
            · intro w hSw; (try dsimp only at hSw); go_simp; try (with_reducible rfl)
            try simp only [sq]
            refine wpAnyH_take (i := 19) (v := ?_) rfl (by kernel_rfl) (by kernel_rfl) (by kernel_rfl) (fun _ _ _ h => h) (Or.inl ⟨by rfl, ?_⟩) hHeld ?_
            rotate_left
            · intro w hSw; (try dsimp only at hSw); go_simp; try (with_reducible rfl)
            try simp only [sq]
            refine wpAnyH_take (i := 20) (v := ?_) rfl (by kernel_rfl) (by kernel_rfl) (by kernel_rfl) (fun _ _ _ h => h) (Or.inl ⟨by rfl, ?_⟩) hHeld ?_
            rotate_left
            · intro w hSw; (try dsimp only at hSw); go_simp; try (with_reducible rfl)
            try simp only [sq]
            refine wpAnyH_ready (rs := [21]) (by kernel_rfl) (by simp) ?_
            refine AllReadyH.cons rfl (fun K hK => ?_) AllReadyH.nil
            try simp only [sq]
            go_simp
            (first
                | (go_at_call 14; refine (SM.out _ HY.out HZ.out).mono ?_; rintro e y ⟨rfl, hb⟩; replace HX := hid (HX.out.below hb); replace HY := hid (HY.out.below hb); replace HZ := hid (HZ.out.below hb); replace x0 := keepcell hb x0; replace x1 := keepcell hb x1; replace y0 := keepcell hb y0; replace y1 := keepcell hb y1; replace z0 := keepcell hb z0; replace z1 := keepcell hb z1; replace B0 := hid (btrans B0.out hb); replace BX := hid (btrans BX.out hb); clear hb))
            go_wp2_with fail
            refine hK.out _ _ ?_ (fun hHeld => ?_)
            · (repeat' apply And.intro) <;> (first | with_reducible exact x0 | with_reducible exact x1 | with_reducible exact y0 | with_reducible exact y1 | with_reducible exact z0 | with_reducible exact z1 | exact x0 | exact x1 | exact y0 | exact y1 | exact z0 | exact z1)
            clear hK K
            try simp only [sq]
            refine wpAnyH_take (i := 22) (v := ?_) rfl (by kernel_rfl) (by kernel_rfl) (by kernel_rfl) (fun _ _ _ h => h) (Or.inl ⟨by rfl, ?_⟩) hHeld ?_
            rotate_left
            · intro w hSw; (try dsimp only at hSw); go_simp; try (with_reducible rfl)
            try simp only [sq]
            refine wpAnyH_take (i := 23) (v := ?_) rfl (by kernel_rfl) (by kernel_rfl) (by kernel_rfl) (fun _ _ _ h => h) (Or.inl ⟨by rfl, ?_⟩) hHeld ?_
            rotate_left
            · intro w hSw; (try dsimp only at hSw); go_simp; try (with_reducible rfl)
            try simp only [sq]
            refine wpAnyH_take (i := 24) (v := ?_) rfl (by kernel_rfl) (by kernel_rfl) (by kernel_rfl) (fun _ _ _ h => h) (Or.inl ⟨by rfl, ?_⟩) hHeld ?_
            rotate_left
            · intro w hSw; (try dsimp only at hSw); go_simp; try (with_reducible rfl)
            try simp only [sq]
            refine wpAnyH_take (i := 25) (v := ?_) rfl (by kernel_rfl) (by kernel_rfl) (by kernel_rfl) (fun _ _ _ h => h) (Or.inl ⟨by rfl, ?_⟩) hHeld ?_
            rotate_left
            · intro w hSw; (try dsimp only at hSw); go_simp; try (with_reducible rfl)
            try simp only [sq]
            refine wpAnyH_take (i := 26) (v := ?_) rfl (by kernel_rfl) (by kernel_rfl) (by kernel_rfl) (fun _ _ _ h => h) (Or.inl ⟨by rfl, ?_⟩) hHeld ?_
            rotate_left
            · intro w hSw; (try dsimp only at hSw); go_simp; try (with_reducible rfl)
            try simp only [sq]
            refine wpAnyH_take (i := 27) (v := ?_) rfl (by kernel_rfl) (by kernel_rfl) (by kernel_rfl) (fun _ _ _ h => h) (Or.inl ⟨by rfl, ?_⟩) hHeld ?_
            rotate_left
            · intro w hSw; (try dsimp only at hSw); go_simp; try (with_reducible rfl)
            try simp only [sq]
            refine wpAnyH_take (i := 29) (v := ?_) rfl (by kernel_rfl) (by kernel_rfl) (by kernel_rfl) (fun _ _ _ h => h) (Or.inl ⟨by rfl, ?_⟩) hHeld ?_
            rotate_left
            · intro w hSw; (try dsimp only at hSw); go_simp; try (with_reducible rfl)
            try simp only [sq]
            refine wpAnyH_take (i := 30) (v := ?_) rfl (by kernel_rfl) (by kernel_rfl) (by kernel_rfl) (fun _ _ _ h => h) (Or.inl ⟨by rfl, ?_⟩) hHeld ?_
            rotate_left
            · intro w hSw; (try dsimp only at hSw); go_simp; try (with_reducible rfl)
            try simp only [sq]
            refine wpAnyH_take (i := 31) (v := ?_) rfl (by kernel_rfl) (by kernel_rfl) (by kernel_rfl) (fun _ _ _ h => h) (Or.inl ⟨by rfl, ?_⟩) hHeld ?_
            rotate_left
            · intro w hSw; (try dsimp only at hSw); go_simp; try (with_reducible rfl)
            try simp only [sq]
            refine wpAnyH_take (i := 32) (v := ?_) rfl (by kernel_rfl) (by kernel_rfl) (by kernel_rfl) (fun _ _ _ h => h) (Or.inl ⟨by rfl, ?_⟩) hHeld ?_
            rotate_left
            · intro w hSw; (try dsimp only at hSw); go_simp; try (with_reducible rfl)
            try simp only [sq]
            refine wpAnyH_ready (rs := [28]) (by kernel_rfl) (by simp) ?_
            refine AllReadyH.cons rfl (fun K hK => ?_) AllReadyH.nil
            try simp only [sq]
            go_simp
            (first
                | (go_at_call 7; refine (C7.out _ _ hyc _ HY.out).mono ?_; rintro e y ⟨rfl, hb⟩; replace HX := hid (HX.out.below hb); replace HY := hid (HY.out.below hb); replace HZ := hid (HZ.out.below hb); replace x0 := keepcell hb x0; replace x1 := keepcell hb x1; replace y0 := keepcell hb y0; replace y1 := keepcell hb y1; replace z0 := keepcell hb z0; replace z1 := keepcell hb z1; replace B0 := hid (btrans B0.out hb); replace BX := hid (btrans BX.out hb); clear hb))
            go_wp2_with fail
            refine hK.out _ _ ?_ (fun hHeld => ?_)
            · (repeat' apply And.intro) <;> (first | with_reducible exact x0 | with_reducible exact x1 | with_reducible exact y0 | with_reducible exact y1 | with_reducible exact z0 | with_reducible exact z1 | exact x0 | exact x1 | exact y0 | exact y1 | exact z0 | exact z1)
            clear hK K
            try simp only [sq]
            refine wpAnyH_take (i := 33) (v := ?_) rfl (by kernel_rfl) (by kernel_rfl) (by kernel_rfl) (fun _ _ _ h => h) (Or.inl ⟨by rfl, ?_⟩) hHeld ?_
            rotate_left
            · intro w hSw; (try dsimp only at hSw); go_simp; try (with_reducible rfl)
            try simp only [sq]
            refine wpAnyH_take (i := 34) (v := ?_) rfl (by kernel_rfl) (by kernel_rfl) (by kernel_rfl) (fun _ _ _ h => h) (Or.inl ⟨by rfl, ?_⟩) hHeld ?_
            rotate_left
            · intro w hSw; (try dsimp only at hSw); go_simp; try (with_reducible rfl)
            try simp only [sq]
            refine wpAnyH_take (i := 35) (v := ?_) rfl (by kernel_rfl) (by kernel_rfl) (by kernel_rfl) (fun _ _ _ h => h) (Or.inl ⟨by rfl, ?_⟩) hHeld ?_
            rotate_left
            · intro w hSw; (try dsimp only at hSw); go_simp; try (with_reducible rfl)
            try simp only [sq]
            refine wpAnyH_take (i := 36) (v := ?_) rfl (by kernel_rfl) (by kernel_rfl) (by kernel_rfl) (fun _ _ _ h => h) (Or.inl ⟨by rfl, ?_⟩) hHeld ?_
            rotate_left
            · intro w hSw; (try dsimp only at hSw); go_simp; try (with_reducible rfl)
            try simp only [sq]
            refine wpAnyH_done (by kernel_rfl) ?_ _
            go_wp2_with fail
            go_meet
            exact ⟨rfl, BX.out⟩
        | some r =>
          obtain ⟨k1, l1⟩ := r
          obtain ⟨hl1, C6⟩ := RF.out k1 l1 rfl
          replace C6 := hid C6
          simp only [roK, roP, Option.isSome_some, Option.isSome_none, List.length_nil] at hrn hrk hrs HX
          subst hrn hrk hrs
          clear RF
          cases go with
          | none =>
            simp only [soK, soP, soN, List.length_nil] at hgn hgk hgs HY HZ
            subst hgn hgk hgs
            clear GF
            have SM := hid (fun (W : World) (hp : Pts W ya []) (hq : Pts W za []) => same_shp 0 ya za yc zc [] W (by first | (simp; done) | omega) (by first | exact hyc | (simp; done)) (by first | exact hzc | (simp; done)) hp hq)
            simp only [List.length_nil] at SM
            refine wp_region_held_drew (S := (fun w' => w'.cell? ⟨X, 0, none⟩ = some (.int .i64 k1) ∧ w'.cell? ⟨X, 1, none⟩ = some (.slice xa l1.length xc) ∧ w'.cell? ⟨Y, 0, none⟩ = some (.int .i64 0) ∧ w'.cell? ⟨Y, 1, none⟩ = some (.slice ya 0 yc) ∧ w'.cell? ⟨Z, 0, none⟩ = some (.int .i64 0) ∧ w'.cell? ⟨Z, 1, none⟩ = some (.slice za 0 zc))) (by kernel_rfl) ?_ (fun hHeld => ?_)
            · (repeat' apply And.intro) <;> (first | with_reducible exact x0 | with_reducible exact x1 | with_reducible exact y0 | with_reducible exact y1 | with_reducible exact z0 | with_reducible exact z1 | exact x0 | exact x1 | exact y0 | exact y1 | exact z0 | exact z1)
            replace HX := hid (HX.out.below hbD)
            replace HY := hid (HY.out.below hbD)
            replace HZ := hid (HZ.out.below hbD)
            replace x0 := keepcell hbD x0
            replace x1 := keepcell hbD x1
            replace y0 := keepcell hbD y0
            replace y1 := keepcell hbD y1
            replace z0 := keepcell hbD z0
            replace z1 := keepcell hbD z1
            replace B0 := hid (btrans B0.out hbD)
            clear hbD gX gY gZ
            generalize V0.drew = V1 at *
            refine wpAnyH_take (i := 0) (v := ?_) rfl (by kernel_rfl) (by kernel_rfl) (by kernel_rfl) (fun _ _ _ h => h) (Or.inl ⟨by rfl, ?_⟩) hHeld ?_
            rotate_left
            · intro w hSw; (try dsimp only at hSw); go_simp; try (with_reducible rfl)
            try simp only [sq]
            refine wpAnyH_take (i := 1) (v := ?_) rfl (by kernel_rfl) (by kernel_rfl) (by kernel_rfl) (fun _ _ _ h => h) (Or.inl ⟨by rfl, ?_⟩) hHeld ?_
            rotate_left
            · intro w hSw; (try dsimp only at hSw); go_simp; try (with_reducible rfl)
            try simp only [sq]
            refine wpAnyH_take (i := 2) (v := ?_) rfl (by kernel_rfl) (by kernel_rfl) (by kernel_rfl) (fun _ _ _ h => h) (Or.inl ⟨by rfl, ?_⟩) hHeld ?_
            rotate_left
            · intro w hSw; (try dsimp only at hSw); go_simp; try (with_reducible rfl)
            try simp only [sq]
            refine wpAnyH_take (i := 3) (v := ?_) rfl (by kernel_rfl) (by kernel_rfl) (by kernel_rfl) (fun _ _ _ h => h) (Or.inl ⟨by rfl, ?_⟩) hHeld ?_
            rotate_left
            · intro w hSw; (try dsimp only at hSw); go_simp; try (with_reducible rfl)
            try simp only [sq]
            refine wpAnyH_take (i := 4) (v := ?_) rfl (by kernel_rfl) (by kernel_rfl) (by kernel_rfl) (fun _ _ _ h => h) (Or.inl ⟨by rfl, ?_⟩) hHeld ?_
            rotate_left
            · intro w hSw; (try dsimp only at hSw); go_simp; try (with_reducible rfl)
            try simp only [sq]
            refine wpAnyH_take (i := 5) (v := ?_) rfl (by kernel_rfl) (by kernel_rfl) (by kernel_rfl) (fun _ _ _ h => h) (Or.inl ⟨by rfl, ?_⟩) hHeld ?_
            rotate_left
            · intro w hSw; (try dsimp only at hSw); go_simp; try (with_reducible rfl)
            try simp only [sq]
            refine wpAnyH_take (i := 6) (v := ?_) rfl (by kernel_rfl) (by kernel_rfl) (by kernel_rfl) (fun _ _ _ h => h) (Or.inl ⟨by rfl, ?_⟩) hHeld ?_
            rotate_left
            · intro w hSw; (try dsimp only at hSw); go_simp; try (with_reducible rfl)
            try simp only [sq]
            refine wpAnyH_take (i := 7) (v := ?_) rfl (by kernel_rfl) (by kernel_rfl) (by kernel_rfl) (fun _ _ _ h => h) (Or.inl ⟨by rfl, ?_⟩) hHeld ?_
            rotate_left
            · intro w hSw; (try dsimp only at hSw); go_simp; try (with_reducible rfl)
            try simp only [sq]
            refine wpAnyH_take (i := 9) (v := ?_) rfl (by kernel_rfl) (by kernel_rfl) (by kernel_rfl) (fun _ _ _ h => h) (Or.inl ⟨by rfl, ?_⟩) hHeld ?_
            rotate_left
            · intro w hSw; (try dsimp only at hSw); go_simp; try (with_reducible rfl)
            try simp only [sq]
            refine wpAnyH_ready (rs := [8]) (by kernel_rfl) (by simp) ?_
            refine AllReadyH.cons rfl (fun K hK => ?_) AllReadyH.nil
            try simp only [sq]
            go_simp
            (first
                | (go_at_call 6; refine (C6.out _ _ hxc _ HX.out B0.out).mono ?_; rintro e y ⟨rfl, hb⟩; replace HX := hid (HX.out.below hb); replace HY := hid (HY.out.below hb); replace HZ := hid (HZ.out.below hb); replace x0 := keepcell hb x0; replace x1 := keepcell hb x1; replace y0 := keepcell hb y0; replace y1 := keepcell hb y1; replace z0 := keepcell hb z0; replace z1 := keepcell hb z1; replace B0 := hid (btrans B0.out hb); replace BX := hid (btrans BX.out hb); clear hb))
            go_wp2_with fail
            refine hK.out _ _ ?_ (fun hHeld => ?_)
            · (repeat' apply And.intro) <;> (first | with_reducible exact x0 | with_reducible exact x1 | with_reducible exact y0 | with_reducible exact y1 | with_reducible exact z0 | with_reducible exact z1 | exact x0 | exact x1 | exact y0 | exact y1 | exact z0 | exact z1)
            clear hK K
            try simp only [sq]
            refine wpAnyH_take (i := 10) (v := ?_) rfl (by kernel_rfl) (by kernel_rfl) (by kernel_rfl) (fun _ _ _ h => h) (Or.inl ⟨by rfl, ?_⟩) hHeld ?_
            rotate_left
            · intro w hSw; (try dsimp only at hSw); go_simp; try (with_reducible rfl)
            try simp only [sq]
            refine wpAnyH_take (i := 11) (v := ?_) rfl (by kernel_rfl) (by kernel_rfl) (by kernel_rfl) (fun _ _ _ h => h) (Or.inl ⟨by rfl, ?_⟩) hHeld ?_
            rotate_left
            · intro w hSw; (try dsimp only at hSw); go_simp; try (with_reducible rfl)
            try simp only [sq]
            refine wpAnyH_take (i := 12) (v := ?_) rfl (by kernel_rfl) (by kernel_rfl) (by kernel_rfl) (fun _ _ _ h => h) (Or.inl ⟨by rfl, ?_⟩) hHeld ?_
            rotate_left
            · intro w hSw; (try dsimp only at hSw); go_simp; try (with_reducible rfl)
            try simp only [sq]
            refine wpAnyH_take (i := 13) (v := ?_) rfl (by kernel_rfl) (by kernel_rfl) (by kernel_rfl) (fun _ _ _ h => h) (Or.inl ⟨by rfl, ?_⟩) hHeld ?_
            rotate_left
            · intro w hSw; (try dsimp only at hSw); go_simp; try (with_reducible rfl)
            try simp only [sq]
            refine wpAnyH_take (i := 14) (v := ?_) rfl (by kernel_rfl) (by kernel_rfl) (by kernel_rfl) (fun _ _ _ h => h) (Or.inl ⟨by rfl, ?_⟩) hHeld ?_
            rotate_left
            · intro w hSw; (try dsimp only at hSw); go_simp; try (with_reducible rfl)
            try simp only [sq]
            refine wpAnyH_take (i := 15) (v := ?_) rfl (by kernel_rfl) (by kernel_rfl) (by kernel_rfl) (fun _ _ _ h => h) (Or.inl ⟨by rfl, ?_⟩) hHeld ?_
            rotate_left
            · intro w hSw; (try dsimp only at hSw); go_simp; try (with_reducible rfl)
            try simp only [sq]
            refine wpAnyH_take (i := 16) (v := ?_) rfl (by kernel_rfl) (by kernel_rfl) (by kernel_rfl) (fun _ _ _ h => h) (Or.inl ⟨by rfl, ?_⟩) hHeld ?_
            rotate_left
            · intro w hSw; (try dsimp only at hSw); go_simp; try (with_reducible rfl)
            try simp only [sq]
            refine wpAnyH_take (i := 17) (v := ?_) rfl (by kernel_rfl) (by kernel_rfl) (by kernel_rfl) (fun _ _ _ h => h) (Or.inl ⟨by rfl, ?_⟩) hHeld ?_
            rotate_left
            · intro w hSw; (try dsimp only at hSw); go_simp; try (with_reducible rfl)
            try simp only [sq]
            refine wpAnyH_take (i := 18) (v := ?_) rfl (by kernel_rfl) (by kernel_rfl) (by kernel_rfl) (fun _ _ _ h => h) (Or.inl ⟨by rfl, ?_⟩) hHeld ?_
            rotate_left
            · intro w hSw; (try dsimp only at hSw); go_simp; try (with_reducible rfl)
            try simp only [sq]
            refine wpAnyH_take (i := 19) (v := ?_) rfl (by kernel_rfl) (by kernel_rfl) (by kernel_rfl) (fun _ _ _ h => h) (Or.inl ⟨by rfl, ?_⟩) hHeld ?_
            rotate_left
            · intro w hSw; (try dsimp only at hSw); go_simp; try (with_reducible rfl)
            try simp only [sq]
            refine wpAnyH_take (i := 20) (v := ?_) rfl (by kernel_rfl) (by kernel_rfl) (by kernel_rfl) (fun _ _ _ h => h) (Or.inl ⟨by rfl, ?_⟩) hHeld ?_
            rotate_left
            · intro w hSw; (try dsimp only at hSw); go_simp; try (with_reducible rfl)
            try simp only [sq]
            refine wpAnyH_ready (rs := [21]) (by kernel_rfl) (by simp) ?_
            refine AllReadyH.cons rfl (fun K hK => ?_) AllReadyH.nil
            try simp only [sq]
            go_simp
            (first
                | (go_at_call 14; refine (SM.out _ HY.out HZ.out).mono ?_; rintro e y ⟨rfl, hb⟩; replace HX := hid (HX.out.below hb); replace HY := hid (HY.out.below hb); replace HZ := hid (HZ.out.below hb); replace x0 := keepcell hb x0; replace x1 := keepcell hb x1; replace y0 := keepcell hb y0; replace y1 := keepcell hb y1; replace z0 := keepcell hb z0; replace z1 := keepcell hb z1; replace B0 := hid (btrans B0.out hb); replace BX := hid (btrans BX.out hb); clear hb))
            go_wp2_with fail
            refine hK.out _ _ ?_ (fun hHeld => ?_)
            · (repeat' apply And.intro) <;> (first | with_reducible exact x0 | with_reducible exact x1 | with_reducible exact y0 | with_reducible exact y1 | with_reducible exact z0 | with_reducible exact z1 | exact x0 | exact x1 | exact y0 | exact y1 | exact z0 | exact z1)
            clear hK K
            try simp only [sq]
            refine wpAnyH_take (i := 22) (v := ?_) rfl (by kernel_rfl) (by kernel_rfl) (by kernel_rfl) (fun _ _ _ h => h) (Or.inl ⟨by rfl, ?_⟩) hHeld ?_
            rotate_left
            · intro w hSw; (try dsimp only at hSw); go_simp; try (with_reducible rfl)
            try simp only [sq]
            refine wpAnyH_take (i := 23) (v := ?_) rfl (by kernel_rfl) (by kernel_rfl) (by kernel_rfl) (fun _ _ _ h => h) (Or.inl ⟨by rfl, ?_⟩) hHeld ?_
            rotate_left
            · intro w hSw; (try dsimp only at hSw); go_simp; try (with_reducible rfl)
            try simp only [sq]
            refine wpAnyH_take (i := 24) (v := ?_) rfl (by kernel_rfl) (by kernel_rfl) (by kernel_rfl) (fun _ _ _ h => h) (Or.inl ⟨by rfl, ?_⟩) hHeld ?_
            rotate_left
            · intro w hSw; (try dsimp only at hSw); go_simp; try (with_reducible rfl)
            try simp only [sq]
            refine wpAnyH_take (i := 25) (v := ?_) rfl (by kernel_rfl) (by kernel_rfl) (by kernel_rfl) (fun _ _ _ h => h) (Or.inl ⟨by rfl, ?_⟩) hHeld ?_
            rotate_left
            · intro w hSw; (try dsimp only at hSw); go_simp; try (with_reducible rfl)
            try simp only [sq]
            refine wpAnyH_take (i := 26) (v := ?_) rfl (by kernel_rfl) (by kernel_rfl) (by kernel_rfl) (fun _ _ _ h => h) (Or.inl ⟨by rfl, ?_⟩) hHeld ?_
            rotate_left
            · intro w hSw; (try dsimp only at hSw); go_simp; try (with_reducible rfl)
            try simp only [sq]
            refine wpAnyH_take (i := 27) (v := undef) rfl (by kernel_rfl) (by kernel_rfl) (by kernel_rfl) (fun _ _ _ h => h) (Or.inr ⟨by rfl, rfl⟩) hHeld ?_
            try simp only [sq]
            refine wpAnyH_take (i := 28) (v := undef) rfl (by kernel_rfl) (by kernel_rfl) (by kernel_rfl) (fun _ _ _ h => h) (Or.inr ⟨by rfl, rfl⟩) hHeld ?_
            try simp only [sq]
            refine wpAnyH_take (i := 29) (v := undef) rfl (by kernel_rfl) (by kernel_rfl) (by kernel_rfl) (fun _ _ _ h => h) (Or.inr ⟨by rfl, rfl⟩) hHeld ?_
            try simp only [sq]
            refine wpAnyH_take (i := 30) (v := undef) rfl (by kernel_rfl) (by kernel_rfl) (by kernel_rfl) (fun _ _ _ h => h) (Or.inr ⟨by rfl, rfl⟩) hHeld ?_
            try simp only [sq]
            refine wpAnyH_take (i := 31) (v := undef) rfl (by kernel_rfl) (by kernel_rfl) (by kernel_rfl) (fun _ _ _ h => h) (Or.inr ⟨by rfl, rfl⟩) hHeld ?_
            try simp only [sq]
            refine wpAnyH_take (i := 32) (v := undef) rfl (by kernel_rfl) (by kernel_rfl) (by kernel_rfl) (fun _ _ _ h => h) (Or.inr ⟨by rfl, rfl⟩) hHeld ?_
            try simp only [sq]
            refine wpAnyH_take (i := 33) (v := undef) rfl (by kernel_rfl) (by kernel_rfl) (by kernel_rfl) (fun _ _ _ h => h) (Or.inr ⟨by rfl, rfl⟩) hHeld ?_
            try simp only [sq]
            refine wpAnyH_take (i := 34) (v := ?_) rfl (by kernel_rfl) (by kernel_rfl) (by kernel_rfl) (fun _ _ _ h => h) (Or.inl ⟨by rfl, ?_⟩) hHeld ?_
            rotate_left
            · intro w hSw; (try dsimp only at hSw); go_simp; try (with_reducible rfl)
            try simp only [sq]
            refine wpAnyH_take (i := 35) (v := ?_) rfl (by kernel_rfl) (by kernel_rfl) (by kernel_rfl) (fun _ _ _ h => h) (Or.inl ⟨by rfl, ?_⟩) hHeld ?_
            rotate_left
            · intro w hSw; (try dsimp only at hSw); go_simp; try (with_reducible rfl)
            try simp only [sq]
            refine wpAnyH_take (i := 36) (v := ?_) rfl (by kernel_rfl) (by kernel_rfl) (by kernel_rfl) (fun _ _ _ h => h) (Or.inl ⟨by rfl, ?_⟩) hHeld ?_
            rotate_left
            · intro w hSw; (try dsimp only at hSw); go_simp; try (with_reducible rfl)
            try simp only [sq]
            refine wpAnyH_done (by kernel_rfl) ?_ _
            go_wp2_with fail
            go_meet
            exact ⟨rfl, BX.out⟩
          | some r =>
            obtain ⟨k2, l2, q2⟩ := r
            obtain ⟨p, n, rfl, rfl, hpn, hnv, hl2, C7⟩ := GF.out k2 l2 q2 rfl
            replace C7 := hid C7
            simp only [soK, soP, soN, List.length_nil] at hgn hgk hgs HY HZ
            subst hgn hgk hgs
            clear GF
            have hn0 : ¬ (n : Int) < 0 := by omega
            have hs0 : (0 : Int) ≤ (p : Int) := by omega
            have hs1 : (p : Int) ≤ (n : Int) := by omega
            have hs2 : (n : Int) ≤ (v.size : Int) := by omega
            have SM := hid (fun (W : World) (hp : Pts W ya l2) (hq : Pts W za l2) => same_shp k2 ya za yc zc l2 W (by first | (simp; done) | omega) (by first | exact hyc | (simp; done)) (by first | exact hzc | (simp; done)) hp hq)
            refine wp_region_held_drew (S := (fun w' => w'.cell? ⟨X, 0, none⟩ = some (.int .i64 k1) ∧ w'.cell? ⟨X, 1, none⟩ = some (.slice xa l1.length xc) ∧ w'.cell? ⟨Y, 0, none⟩ = some (.int .i64 k2) ∧ w'.cell? ⟨Y, 1, none⟩ = some (.slice ya l2.length yc) ∧ w'.cell? ⟨Z, 0, none⟩ = some (.int .i64 k2) ∧ w'.cell? ⟨Z, 1, none⟩ = some (.slice za l2.length zc))) (by kernel_rfl) ?_ (fun hHeld => ?_)
            · (repeat' apply And.intro) <;> (first | with_reducible exact x0 | with_reducible exact x1 | with_reducible exact y0 | with_reducible exact y1 | with_reducible exact z0 | with_reducible exact z1 | exact x0 | exact x1 | exact y0 | exact y1 | exact z0 | exact z1)
            replace HX := hid (HX.out.below hbD)
            replace HY := hid (HY.out.below hbD)
            replace HZ := hid (HZ.out.below hbD)
            replace x0 := keepcell hbD x0
            replace x1 := keepcell hbD x1
            replace y0 := keepcell hbD y0
            replace y1 := keepcell hbD y1
            replace z0 := keepcell hbD z0
            replace z1 := keepcell hbD z1
            replace B0 := hid (btrans B0.out hbD)
            clear hbD gX gY gZ
            generalize V0.drew = V1 at *
            refine wpAnyH_take (i := 0) (v := ?_) rfl (by kernel_rfl) (by kernel_rfl) (by kernel_rfl) (fun _ _ _ h => h) (Or.inl ⟨by rfl, ?_⟩) hHeld ?_
            rotate_left
            · intro w hSw; (try dsimp only at hSw); go_simp; try (with_reducible rfl)
            try simp only [sq]
            refine wpAnyH_take (i := 1) (v := ?_) rfl (by kernel_rfl) (by kernel_rfl) (by kernel_rfl) (fun _ _ _ h => h) (Or.inl ⟨by rfl, ?_⟩) hHeld ?_
            rotate_left
            · intro w hSw; (try dsimp only at hSw); go_simp; try (with_reducible rfl)
            try simp only [sq]
            refine wpAnyH_take (i := 2) (v := ?_) rfl (by kernel_rfl) (by kernel_rfl) (by kernel_rfl) (fun _ _ _ h => h) (Or.inl ⟨by rfl, ?_⟩) hHeld ?_
            rotate_left
            · intro w hSw; (try dsimp only at hSw); go_simp; try (with_reducible rfl)
            try simp only [sq]
            refine wpAnyH_take (i := 3) (v := ?_) rfl (by kernel_rfl) (by kernel_rfl) (by kernel_rfl) (fun _ _ _ h => h) (Or.inl ⟨by rfl, ?_⟩) hHeld ?_
            rotate_left
            · intro w hSw; (try dsimp only at hSw); go_simp; try (with_reducible rfl)
            try simp only [sq]
            refine wpAnyH_take (i := 4) (v := ?_) rfl (by kernel_rfl) (by kernel_rfl) (by kernel_rfl) (fun _ _ _ h => h) (Or.inl ⟨by rfl, ?_⟩) hHeld ?_
            rotate_left
            · intro w hSw; (try dsimp only at hSw); go_simp; try (with_reducible rfl)
            try simp only [sq]
            refine wpAnyH_take (i := 5) (v := ?_) rfl (by kernel_rfl) (by kernel_rfl) (by kernel_rfl) (fun _ _ _ h => h) (Or.inl ⟨by rfl, ?_⟩) hHeld ?_
            rotate_left
            · intro w hSw; (try dsimp only at hSw); go_simp; try (with_reducible rfl)
            try simp only [sq]
            refine wpAnyH_take (i := 6) (v := ?_) rfl (by kernel_rfl) (by kernel_rfl) (by kernel_rfl) (fun _ _ _ h => h) (Or.inl ⟨by rfl, ?_⟩) hHeld ?_
            rotate_left
            · intro w hSw; (try dsimp only at hSw); go_simp; try (with_reducible rfl)
            try simp only [sq]
            refine wpAnyH_take (i := 7) (v := ?_) rfl (by kernel_rfl) (by kernel_rfl) (by kernel_rfl) (fun _ _ _ h => h) (Or.inl ⟨by rfl, ?_⟩) hHeld ?_
            rotate_left
            · intro w hSw; (try dsimp only at hSw); go_simp; try (with_reducible rfl)
            try simp only [sq]
            refine wpAnyH_take (i := 9) (v := ?_) rfl (by kernel_rfl) (by kernel_rfl) (by kernel_rfl) (fun _ _ _ h => h) (Or.inl ⟨by rfl, ?_⟩) hHeld ?_
            rotate_left
            · intro w hSw; (try dsimp only at hSw); go_simp; try (with_reducible rfl)
            try simp only [sq]
            refine wpAnyH_ready (rs := [8]) (by kernel_rfl) (by simp) ?_
            refine AllReadyH.cons rfl (fun K hK => ?_) AllReadyH.nil
            try simp only [sq]
            go_simp
            (first
                | (go_at_call 6; refine (C6.out _ _ hxc _ HX.out B0.out).mono ?_; rintro e y ⟨rfl, hb⟩; replace HX := hid (HX.out.below hb); replace HY := hid (HY.out.below hb); replace HZ := hid (HZ.out.below hb); replace x0 := keepcell hb x0; replace x1 := keepcell hb x1; replace y0 := keepcell hb y0; replace y1 := keepcell hb y1; replace z0 := keepcell hb z0; replace z1 := keepcell hb z1; replace B0 := hid (btrans B0.out hb); replace BX := hid (btrans BX.out hb); clear hb))
            go_wp2_with fail
            refine hK.out _ _ ?_ (fun hHeld => ?_)
            · (repeat' apply And.intro) <;> (first | with_reducible exact x0 | with_reducible exact x1 | with_reducible exact y0 | with_reducible exact y1 | with_reducible exact z0 | with_reducible exact z1 | exact x0 | exact x1 | exact y0 | exact y1 | exact z0 | exact z1)
            clear hK K
            try simp only [sq]
            refine wpAnyH_take (i := 10) (v := ?_) rfl (by kernel_rfl) (by kernel_rfl) (by kernel_rfl) (fun _ _ _ h => h) (Or.inl ⟨by rfl, ?_⟩) hHeld ?_
            rotate_left
            · intro w hSw; (try dsimp only at hSw); go_simp; try (with_reducible rfl)
            try simp only [sq]
            refine wpAnyH_take (i := 11) (v := ?_) rfl (by kernel_rfl) (by kernel_rfl) (by kernel_rfl) (fun _ _ _ h => h) (Or.inl ⟨by rfl, ?_⟩) hHeld ?_
            rotate_left
            · intro w hSw; (try dsimp only at hSw); go_simp; try (with_reducible rfl)
            try simp only [sq]
            refine wpAnyH_take (i := 12) (v := ?_) rfl (by kernel_rfl) (by kernel_rfl) (by kernel_rfl) (fun _ _ _ h => h) (Or.inl ⟨by rfl, ?_⟩) hHeld ?_
            rotate_left
            · intro w hSw; (try dsimp only at hSw); go_simp; try (with_reducible rfl)
            try simp only [sq]
            refine wpAnyH_take (i := 13) (v := ?_) rfl (by kernel_rfl) (by kernel_rfl) (by kernel_rfl) (fun _ _ _ h => h) (Or.inl ⟨by rfl, ?_⟩) hHeld ?_
            rotate_left
            · intro w hSw; (try dsimp only at hSw); go_simp; try (with_reducible rfl)
            try simp only [sq]
            refine wpAnyH_take (i := 14) (v := ?_) rfl (by kernel_rfl) (by kernel_rfl) (by kernel_rfl) (fun _ _ _ h => h) (Or.inl ⟨by rfl, ?_⟩) hHeld ?_
            rotate_left
            · intro w hSw; (try dsimp only at hSw); go_simp; try (with_reducible rfl)
            try simp only [sq]
            refine wpAnyH_take (i := 15) (v := ?_) rfl (by kernel_rfl) (by kernel_rfl) (by kernel_rfl) (fun _ _ _ h => h) (Or.inl ⟨by rfl, ?_⟩) hHeld ?_
            rotate_left
            · intro w hSw; (try dsimp only at hSw); go_simp; try (with_reducible rfl)
            try simp only [sq]
            refine wpAnyH_take (i := 16) (v := ?_) rfl (by kernel_rfl) (by kernel_rfl) (by kernel_rfl) (fun _ _ _ h => h) (Or.inl ⟨by rfl, ?_⟩) hHeld ?_
            rotate_left
            · intro w hSw; (try dsimp only at hSw); go_simp; try (with_reducible rfl)
            try simp only [sq]
            refine wpAnyH_take (i := 17) (v := ?_) rfl (by kernel_rfl) (by kernel_rfl) (by kernel_rfl) (fun _ _ _ h => h) (Or.inl ⟨by rfl, ?_⟩) hHeld ?_
            rotate_left
            · intro w hSw; (try dsimp only at hSw); go_simp; try (with_reducible rfl)
            try simp only [sq]
            refine wpAnyH_take (i := 18) (v := ?_) rfl (by kernel_rfl) (by kernel_rfl) (by kernel_rfl) (fun _ _ _ h => h) (Or.inl ⟨by rfl, ?_⟩) hHeld ?_
            rotate_left
            · intro w hSw; (try dsimp only at hSw); go_simp; try (with_reducible rfl)
            try simp only [sq]
            refine wpAnyH_take (i := 19) (v := ?_) rfl (by kernel_rfl) (by kernel_rfl) (by kernel_rfl) (fun _ _ _ h => h) (Or.inl ⟨by rfl, ?_⟩) hHeld ?_
            rotate_left
            · intro w hSw; (try dsimp only at hSw); go_simp; try (with_reducible rfl)
            try simp only [sq]
            refine wpAnyH_take (i := 20) (v := ?_) rfl (by kernel_rfl) (by kernel_rfl) (by kernel_rfl) (fun _ _ _ h => h) (Or.inl ⟨by rfl, ?_⟩) hHeld ?_
            rotate_left
            · intro w hSw; (try dsimp only at hSw); go_simp; try (with_reducible rfl)
            try simp only [sq]
            refine wpAnyH_ready (rs := [21]) (by kernel_rfl) (by simp) ?_
            refine AllReadyH.cons rfl (fun K hK => ?_) AllReadyH.nil
            try simp only [sq]
            go_simp
            (first
                | (go_at_call 14; refine (SM.out _ HY.out HZ.out).mono ?_; rintro e y ⟨rfl, hb⟩; replace HX := hid (HX.out.below hb); replace HY := hid (HY.out.below hb); replace HZ := hid (HZ.out.below hb); replace x0 := keepcell hb x0; replace x1 := keepcell hb x1; replace y0 := keepcell hb y0; replace y1 := keepcell hb y1; replace z0 := keepcell hb z0; replace z1 := keepcell hb z1; replace B0 := hid (btrans B0.out hb); replace BX := hid (btrans BX.out hb); clear hb))
            go_wp2_with fail
            refine hK.out _ _ ?_ (fun hHeld => ?_)
            · (repeat' apply And.intro) <;> (first | with_reducible exact x0 | with_reducible exact x1 | with_reducible exact y0 | with_reducible exact y1 | with_reducible exact z0 | with_reducible exact z1 | exact x0 | exact x1 | exact y0 | exact y1 | exact z0 | exact z1)
            clear hK K
            try simp only [sq]
            refine wpAnyH_take (i := 22) (v := ?_) rfl (by kernel_rfl) (by kernel_rfl) (by kernel_rfl) (fun _ _ _ h => h) (Or.inl ⟨by rfl, ?_⟩) hHeld ?_
            rotate_left
            · intro w hSw; (try dsimp only at hSw); go_simp; try (with_reducible rfl)
            try simp only [sq]
            refine wpAnyH_take (i := 23) (v := ?_) rfl (by kernel_rfl) (by kernel_rfl) (by kernel_rfl) (fun _ _ _ h => h) (Or.inl ⟨by rfl, ?_⟩) hHeld ?_
            rotate_left
            · intro w hSw; (try dsimp only at hSw); go_simp; try (with_reducible rfl)
            try simp only [sq]
            refine wpAnyH_take (i := 24) (v := ?_) rfl (by kernel_rfl) (by kernel_rfl) (by kernel_rfl) (fun _ _ _ h => h) (Or.inl ⟨by rfl, ?_⟩) hHeld ?_
            rotate_left
            · intro w hSw; (try dsimp only at hSw); go_simp; try (with_reducible rfl)
            try simp only [sq]
            refine wpAnyH_take (i := 25) (v := ?_) rfl (by kernel_rfl) (by kernel_rfl) (by kernel_rfl) (fun _ _ _ h => h) (Or.inl ⟨by rfl, ?_⟩) hHeld ?_
            rotate_left
            · intro w hSw; (try dsimp only at hSw); go_simp; try (with_reducible rfl)
            try simp only [sq]
            refine wpAnyH_take (i := 26) (v := ?_) rfl (by kernel_rfl) (by kernel_rfl) (by kernel_rfl) (fun _ _ _ h => h) (Or.inl ⟨by rfl, ?_⟩) hHeld ?_
            rotate_left
            · intro w hSw; (try dsimp only at hSw); go_simp; try (with_reducible rfl)
            try simp only [sq]
            refine wpAnyH_take (i := 27) (v := ?_) rfl (by kernel_rfl) (by kernel_rfl) (by kernel_rfl) (fun _ _ _ h => h) (Or.inl ⟨by rfl, ?_⟩) hHeld ?_
            rotate_left
            · intro w hSw; (try dsimp only at hSw); go_simp; try (with_reducible rfl)
            try simp only [sq]
            refine wpAnyH_take (i := 29) (v := ?_) rfl (by kernel_rfl) (by kernel_rfl) (by kernel_rfl) (fun _ _ _ h => h) (Or.inl ⟨by rfl, ?_⟩) hHeld ?_
            rotate_left
            · intro w hSw; (try dsimp only at hSw); go_simp; try (with_reducible rfl)
            try simp only [sq]
            refine wpAnyH_take (i := 30) (v := ?_) rfl (by kernel_rfl) (by kernel_rfl) (by kernel_rfl) (fun _ _ _ h => h) (Or.inl ⟨by rfl, ?_⟩) hHeld ?_
            rotate_left
            · intro w hSw; (try dsimp only at hSw); go_simp; try (with_reducible rfl)
            try simp only [sq]
            refine wpAnyH_take (i := 31) (v := ?_) rfl (by kernel_rfl) (by kernel_rfl) (by kernel_rfl) (fun _ _ _ h => h) (Or.inl ⟨by rfl, ?_⟩) hHeld ?_
            rotate_left
            · intro w hSw; (try dsimp only at hSw); go_simp; try (with_reducible rfl)
            try simp only [sq]
            refine wpAnyH_take (i := 32) (v := ?_) rfl (by kernel_rfl) (by kernel_rfl) (by kernel_rfl) (fun _ _ _ h => h) (Or.inl ⟨by rfl, ?_⟩) hHeld ?_
            rotate_left
            · intro w hSw; (try dsimp only at hSw); go_simp; try (with_reducible rfl)
            try simp only [sq]
            refine wpAnyH_ready (rs := [28]) (by kernel_rfl) (by simp) ?_
            refine AllReadyH.cons rfl (fun K hK => ?_) AllReadyH.nil
            try simp only [sq]
            go_simp
            (first
                | (go_at_call 7; refine (C7.out _ _ hyc _ HY.out).mono ?_; rintro e y ⟨rfl, hb⟩; replace HX := hid (HX.out.below hb); replace HY := hid (HY.out.below hb); replace HZ := hid (HZ.out.below hb); replace x0 := keepcell hb x0; replace x1 := keepcell hb x1; replace y0 := keepcell hb y0; replace y1 := keepcell hb y1; replace z0 := keepcell hb z0; replace z1 := keepcell hb z1; replace B0 := hid (btrans B0.out hb); replace BX := hid (btrans BX.out hb); clear hb))
            go_wp2_with fail
            refine hK.out _ _ ?_ (fun hHeld => ?_)
            · (repeat' apply And.intro) <;> (first | with_reducible exact x0 | with_reducible exact x1 | with_reducible exact y0 | with_reducible exact y1 | with_reducible exact z0 | with_reducible exact z1 | exact x0 | exact x1 | exact y0 | exact y1 | exact z0 | exact z1)
            clear hK K
            try simp only [sq]
            refine wpAnyH_take (i := 33) (v := ?_) rfl (by kernel_rfl) (by kernel_rfl) (by kernel_rfl) (fun _ _ _ h => h) (Or.inl ⟨by rfl, ?_⟩) hHeld ?_
            rotate_left
            · intro w hSw; (try dsimp only at hSw); go_simp; try (with_reducible rfl)
            try simp only [sq]
            refine wpAnyH_take (i := 34) (v := ?_) rfl (by kernel_rfl) (by kernel_rfl) (by kernel_rfl) (fun _ _ _ h => h) (Or.inl ⟨by rfl, ?_⟩) hHeld ?_
            rotate_left
            · intro w hSw; (try dsimp only at hSw); go_simp; try (with_reducible rfl)
            try simp only [sq]
            refine wpAnyH_take (i := 35) (v := ?_) rfl (by kernel_rfl) (by kernel_rfl) (by kernel_rfl) (fun _ _ _ h => h) (Or.inl ⟨by rfl, ?_⟩) hHeld ?_
            rotate_left
            · intro w hSw; (try dsimp only at hSw); go_simp; try (with_reducible rfl)
            try simp only [sq]
            refine wpAnyH_take (i := 36) (v := ?_) rfl (by kernel_rfl) (by kernel_rfl) (by kernel_rfl) (fun _ _ _ h => h) (Or.inl ⟨by rfl, ?_⟩) hHeld ?_
            rotate_left
            · intro w hSw; (try dsimp only at hSw); go_simp; try (with_reducible rfl)
            try simp only [sq]
            refine wpAnyH_done (by kernel_rfl) ?_ _
            go_wp2_with fail
            go_meet
            exact ⟨rfl, BX.out⟩
      case rest =>
        obtain ⟨rfl, hb⟩ := hcut
        replace B0 := hid (btrans B0.out hb)
        go_wp2_with fail
        go_ret
        exact ⟨rfl, B0.out⟩
end Go.Proofs.YtjafahhoihlliaaGreatDoor
