/- AskText of the landed side. -/
import Derived.Test.YtkifhdkebddnpaaGreatDoorRQb
namespace Go.Proofs.YtkifhdkebddnpaaGreatDoorR
open Go.RowKit
set_option linter.unusedVariables false
set_option linter.unusedSimpArgs false
theorem impl_tokB (l c r : Int) (w : World) (h : Tab w) : Calls Tryz.prog 31 #[.agg #[.int .i64 l, .int .i64 c, .int .i64 r]] w fun e w' => e = .returned (.bool (tok l c r)) ∧ Below w.heap.size w w' := (impl_tileok l c r w h).mono fun e w' ⟨he, hw⟩ => ⟨he, by rw [hw]; exact balloc (Below.refl _ _) _⟩
theorem cell1q {w : World} {p : Nat} {a : Value} {t : TypeId} (h : w.heap[p]? = some (.cells #[a] t (0, 0))) : w.cell? ⟨p, 0, none⟩ = some a ∧ w.frozen? ⟨p, 0, none⟩ = false := by
  refine ⟨?_, ?_⟩ <;> simp [World.cell?, World.frozen?, h]
/-- The table of the statements' words lies in its place. -/
def AF (w : World) : Prop := ∀ k : Nat, k ≤ 9 → w.cell? ⟨0, k * 2, none⟩ = some (.string (akw k))
theorem AF.below {w w' : World} (h : AF w) (hb : Below w.heap.size w w') : AF w' := fun k hk => keepcell hb (h k hk)
theorem join_ws (ws : List ByteArray) (tx : ByteArray) (B bk n c : Nat) (w : World) (hn : ws.length = n) (h0 : 0 < n) (h4 : n ≤ 4) (hown : w.ownsRow B 9 1 (.slice (some ⟨bk, 0, none⟩) n c) n (ws.map Value.string)) (hj : Lib.join (ws.map (·.data.toList)) spc.data.toList = tx.data.toList) (htx : tx.size ≤ 10000) : Calls Tryz.prog 21 #[.slice (some ⟨bk, 0, none⟩) n c, .string spc] w fun e w' => e = .returned (.string tx) ∧ Below w.heap.size w w' := by
  have hb := (World.ownsRow.lt hown bk rfl).2
  have hz : tx.data.toList.length = tx.size := by rw [Array.length_toList]; rfl
  have hcc : n ≤ c := by
    rcases hown.2 with ⟨q, _⟩ | ⟨g, cap, cur, e, _, _, hc, _⟩
    · cases q
    · cases e; exact hc
  subst hn
  have h : ∀ (j : Nat) x, ws[j]? = some x → w.cell? ⟨bk, 0 + j, none⟩ = some (.string x) := by
    intro j x hx
    have hjl : j < ws.length := by
      rcases Nat.lt_or_ge j ws.length with h | h
      · exact h
      · rw [List.getElem?_eq_none h] at hx; cases hx
    rw [Nat.zero_add, World.ownsRow.cellAt hown j (by omega), List.getElem?_map, hx]
    rfl
  have := Any.strings_Join Tryz.lays156 Tryz.Builder_Extra_156 bk 0 c ws spc w h hb (by omega) (by omega) (by rw [hj]; omega)
  rw [hj] at this
  exact this
set_option maxRecDepth 100000 in
set_option maxHeartbeats 2000000 in
theorem impl_rightm (m : Nat) (hm9 : m ≤ 9) (id kd : Int) (a : Option Addr) (cap : Nat) (ps : List (Int × Int)) (l c r : Int) (w : World) (hm : ps.length ≤ 1099511627776) (hc : ps.length ≤ cap) (hp : Pts w a ps) (hi0 : -9223372036854775808 ≤ id) (hi1 : id ≤ 9223372036854775807) (ht : Tab w) : Calls Tryz.prog 18 #[asv m id kd a ps.length cap l c r] w fun e w' => e = .returned (.bool (askb m id kd ps l c r)) ∧ Below w.heap.size w w' := by
  have hB := Below.refl w.heap.size w
  have HP := hid hp
  have HT := hid ht
  clear hp ht
  have IO := hid (fun w' => impl_idq id w')
  have SO := hid (fun w' (h : Pts w' a ps) => impl_ShapeOk kd a cap ps w' hm hc h)
  have TK := hid (fun w' (h : Tab w') => impl_tokB l c r w' h)
  generalize hsk : shok kd ps = sk at *
  generalize hdi : idq id = bi at *
  generalize hto : tok l c r = bt at *
  obtain ⟨ans, hans⟩ : ∃ ans, ans = askb m id kd ps l c r := ⟨_, rfl⟩
  rw [← hans]
  have HN := hid hans
  clear hans hi0 hi1
  rcases (show m = 0 ∨ m = 1 ∨ m = 2 ∨ m = 3 ∨ m = 4 ∨ m = 5 ∨ m = 6 ∨ m = 7 ∨ m = 8 ∨ m = 9 by omega) with e | e | e | e | e | e | e | e | e | e <;> subst e
  · skip
    go_enter Tryz.func18, Tryz.ntmps18
    go_wp2_with fail
    replace hB := balloc hB (.cells #[.int .i64 0, .int .i64 id, .int .i64 kd, .slice a ps.length cap, .int .i64 l, .int .i64 c, .int .i64 r] 36)
    go_ret
    exact ⟨by rw [HN.out]; simp [askb], hB⟩
  · skip
    go_enter Tryz.func18, Tryz.ntmps18
    go_wp2_with fail
    replace hB := balloc hB (.cells #[.int .i64 1, .int .i64 id, .int .i64 kd, .slice a ps.length cap, .int .i64 l, .int .i64 c, .int .i64 r] 36)
    go_ret
    exact ⟨by rw [HN.out]; simp [askb], hB⟩
  · skip
    go_enter Tryz.func18, Tryz.ntmps18
    go_wp2_with fail
    replace hB := balloc hB (.cells #[.int .i64 2, .int .i64 id, .int .i64 kd, .slice a ps.length cap, .int .i64 l, .int .i64 c, .int .i64 r] 36)
    go_ret
    exact ⟨by rw [HN.out]; simp [askb], hB⟩
  · skip
    go_enter Tryz.func18, Tryz.ntmps18
    go_wp2_with fail
    have gS := (new_alloc w (w.heap.size) (.cells #[.int .i64 3, .int .i64 id, .int .i64 kd, .slice a ps.length cap, .int .i64 l, .int .i64 c, .int .i64 r] 36) (by simp))
    have hal : Below w.heap.size w (w.alloc (.cells #[.int .i64 3, .int .i64 id, .int .i64 kd, .slice a ps.length cap, .int .i64 l, .int .i64 c, .int .i64 r] 36)) := (balloc (Below.refl _ _) (.cells #[.int .i64 3, .int .i64 id, .int .i64 kd, .slice a ps.length cap, .int .i64 l, .int .i64 c, .int .i64 r] 36))
    replace HP := hid (HP.out.below hal)
    replace HT := hid (HT.out.below hal)
    replace hB := btrans hB hal
    clear hal
    generalize (w.alloc (.cells #[.int .i64 3, .int .i64 id, .int .i64 kd, .slice a ps.length cap, .int .i64 l, .int .i64 c, .int .i64 r] 36)) = yw1 at *
    refine (IO.out _).mono ?_
    rintro e yq ⟨rfl, hq⟩
    replace hq := hq.symm
    subst hq
    cases bi
    · skip
      obtain ⟨k1_0, k1_1, k1_2, k1_3, k1_4, k1_5, k1_6, _, _, _, _, _, _, _⟩ := cell7 gS
      go_wp2_with fail
      go_ret
      exact ⟨by rw [HN.out]; simp [askb, hdi], hB⟩
    · skip
      obtain ⟨k1_0, k1_1, k1_2, k1_3, k1_4, k1_5, k1_6, _, _, _, _, _, _, _⟩ := cell7 gS
      go_wp2_with fail
      clear k1_0 k1_1 k1_2 k1_3 k1_4 k1_5 k1_6
      refine (SO.out _ HP.out).mono ?_
      rintro e yw2 ⟨rfl, hcl⟩
      replace gS := keepheap hcl gS
      replace HP := hid (HP.out.below hcl)
      replace HT := hid (HT.out.below hcl)
      replace hB := btrans hB hcl
      clear hcl
      obtain ⟨k2_0, k2_1, k2_2, k2_3, k2_4, k2_5, k2_6, _, _, _, _, _, _, _⟩ := cell7 gS
      go_wp2_with fail
      go_ret
      exact ⟨by rw [HN.out]; simp [askb, hdi, hsk], hB⟩
  · skip
    go_enter Tryz.func18, Tryz.ntmps18
    go_wp2_with fail
    have gS := (new_alloc w (w.heap.size) (.cells #[.int .i64 4, .int .i64 id, .int .i64 kd, .slice a ps.length cap, .int .i64 l, .int .i64 c, .int .i64 r] 36) (by simp))
    have hal : Below w.heap.size w (w.alloc (.cells #[.int .i64 4, .int .i64 id, .int .i64 kd, .slice a ps.length cap, .int .i64 l, .int .i64 c, .int .i64 r] 36)) := (balloc (Below.refl _ _) (.cells #[.int .i64 4, .int .i64 id, .int .i64 kd, .slice a ps.length cap, .int .i64 l, .int .i64 c, .int .i64 r] 36))
    replace HP := hid (HP.out.below hal)
    replace HT := hid (HT.out.below hal)
    replace hB := btrans hB hal
    clear hal
    generalize (w.alloc (.cells #[.int .i64 4, .int .i64 id, .int .i64 kd, .slice a ps.length cap, .int .i64 l, .int .i64 c, .int .i64 r] 36)) = yw1 at *
    refine (IO.out _).mono ?_
    rintro e yq ⟨rfl, hq⟩
    replace hq := hq.symm
    subst hq
    obtain ⟨k1_0, k1_1, k1_2, k1_3, k1_4, k1_5, k1_6, _, _, _, _, _, _, _⟩ := cell7 gS
    cases bi
    · skip
      go_wp2_with fail
      go_ret
      exact ⟨by rw [HN.out]; simp [askb, hdi], hB⟩
    · skip
      go_wp2_with fail
      go_ret
      exact ⟨by rw [HN.out]; simp [askb, hdi], hB⟩
  · skip
    go_enter Tryz.func18, Tryz.ntmps18
    go_wp2_with fail
    have gS := (new_alloc w (w.heap.size) (.cells #[.int .i64 5, .int .i64 id, .int .i64 kd, .slice a ps.length cap, .int .i64 l, .int .i64 c, .int .i64 r] 36) (by simp))
    have hal : Below w.heap.size w (w.alloc (.cells #[.int .i64 5, .int .i64 id, .int .i64 kd, .slice a ps.length cap, .int .i64 l, .int .i64 c, .int .i64 r] 36)) := (balloc (Below.refl _ _) (.cells #[.int .i64 5, .int .i64 id, .int .i64 kd, .slice a ps.length cap, .int .i64 l, .int .i64 c, .int .i64 r] 36))
    replace HP := hid (HP.out.below hal)
    replace HT := hid (HT.out.below hal)
    replace hB := btrans hB hal
    clear hal
    generalize (w.alloc (.cells #[.int .i64 5, .int .i64 id, .int .i64 kd, .slice a ps.length cap, .int .i64 l, .int .i64 c, .int .i64 r] 36)) = yw1 at *
    refine (IO.out _).mono ?_
    rintro e yq ⟨rfl, hq⟩
    replace hq := hq.symm
    subst hq
    obtain ⟨k1_0, k1_1, k1_2, k1_3, k1_4, k1_5, k1_6, _, _, _, _, _, _, _⟩ := cell7 gS
    cases bi
    · skip
      go_wp2_with fail
      go_ret
      exact ⟨by rw [HN.out]; simp [askb, hdi], hB⟩
    · skip
      go_wp2_with fail
      go_ret
      exact ⟨by rw [HN.out]; simp [askb, hdi], hB⟩
  · skip
    go_enter Tryz.func18, Tryz.ntmps18
    go_wp2_with fail
    have gS := (new_alloc w (w.heap.size) (.cells #[.int .i64 6, .int .i64 id, .int .i64 kd, .slice a ps.length cap, .int .i64 l, .int .i64 c, .int .i64 r] 36) (by simp))
    have hal : Below w.heap.size w (w.alloc (.cells #[.int .i64 6, .int .i64 id, .int .i64 kd, .slice a ps.length cap, .int .i64 l, .int .i64 c, .int .i64 r] 36)) := (balloc (Below.refl _ _) (.cells #[.int .i64 6, .int .i64 id, .int .i64 kd, .slice a ps.length cap, .int .i64 l, .int .i64 c, .int .i64 r] 36))
    replace HP := hid (HP.out.below hal)
    replace HT := hid (HT.out.below hal)
    replace hB := btrans hB hal
    clear hal
    generalize (w.alloc (.cells #[.int .i64 6, .int .i64 id, .int .i64 kd, .slice a ps.length cap, .int .i64 l, .int .i64 c, .int .i64 r] 36)) = yw1 at *
    refine (SO.out _ HP.out).mono ?_
    rintro e yw2 ⟨rfl, hcl⟩
    replace gS := keepheap hcl gS
    replace HP := hid (HP.out.below hcl)
    replace HT := hid (HT.out.below hcl)
    replace hB := btrans hB hcl
    clear hcl
    obtain ⟨k1_0, k1_1, k1_2, k1_3, k1_4, k1_5, k1_6, _, _, _, _, _, _, _⟩ := cell7 gS
    go_wp2_with fail
    go_ret
    exact ⟨by rw [HN.out]; simp [askb, hsk], hB⟩
  · skip
    by_cases hkd : kd = 2
    · skip
      subst hkd
      go_enter Tryz.func18, Tryz.ntmps18
      go_wp2_with fail
      have gS := (new_alloc w (w.heap.size) (.cells #[.int .i64 7, .int .i64 id, .int .i64 2, .slice a ps.length cap, .int .i64 l, .int .i64 c, .int .i64 r] 36) (by simp))
      have hal : Below w.heap.size w (w.alloc (.cells #[.int .i64 7, .int .i64 id, .int .i64 2, .slice a ps.length cap, .int .i64 l, .int .i64 c, .int .i64 r] 36)) := (balloc (Below.refl _ _) (.cells #[.int .i64 7, .int .i64 id, .int .i64 2, .slice a ps.length cap, .int .i64 l, .int .i64 c, .int .i64 r] 36))
      replace HP := hid (HP.out.below hal)
      replace HT := hid (HT.out.below hal)
      replace hB := btrans hB hal
      clear hal
      generalize (w.alloc (.cells #[.int .i64 7, .int .i64 id, .int .i64 2, .slice a ps.length cap, .int .i64 l, .int .i64 c, .int .i64 r] 36)) = yw1 at *
      refine (SO.out _ HP.out).mono ?_
      rintro e yw2 ⟨rfl, hcl⟩
      replace gS := keepheap hcl gS
      replace HP := hid (HP.out.below hcl)
      replace HT := hid (HT.out.below hcl)
      replace hB := btrans hB hcl
      clear hcl
      obtain ⟨k1_0, k1_1, k1_2, k1_3, k1_4, k1_5, k1_6, _, _, _, _, _, _, _⟩ := cell7 gS
      go_wp2_with fail
      go_ret
      exact ⟨by rw [HN.out]; simp [askb, hsk], hB⟩
    · skip
      have hkb : (kd == 2) = false := by rw [beq_eq_false_iff_ne]; exact hkd
      go_enter Tryz.func18, Tryz.ntmps18
      go_wp2_with fail
      replace hB := balloc hB (.cells #[.int .i64 7, .int .i64 id, .int .i64 kd, .slice a ps.length cap, .int .i64 l, .int .i64 c, .int .i64 r] 36)
      go_ret
      exact ⟨by rw [HN.out]; simp [askb, hkd], hB⟩
  · skip
    go_enter Tryz.func18, Tryz.ntmps18
    go_wp2_with fail
    have gS := (new_alloc w (w.heap.size) (.cells #[.int .i64 8, .int .i64 id, .int .i64 kd, .slice a ps.length cap, .int .i64 l, .int .i64 c, .int .i64 r] 36) (by simp))
    have hal : Below w.heap.size w (w.alloc (.cells #[.int .i64 8, .int .i64 id, .int .i64 kd, .slice a ps.length cap, .int .i64 l, .int .i64 c, .int .i64 r] 36)) := (balloc (Below.refl _ _) (.cells #[.int .i64 8, .int .i64 id, .int .i64 kd, .slice a ps.length cap, .int .i64 l, .int .i64 c, .int .i64 r] 36))
    replace HP := hid (HP.out.below hal)
    replace HT := hid (HT.out.below hal)
    replace hB := btrans hB hal
    clear hal
    generalize (w.alloc (.cells #[.int .i64 8, .int .i64 id, .int .i64 kd, .slice a ps.length cap, .int .i64 l, .int .i64 c, .int .i64 r] 36)) = yw1 at *
    refine (TK.out _ HT.out).mono ?_
    rintro e yw2 ⟨rfl, hcl⟩
    replace gS := keepheap hcl gS
    replace HP := hid (HP.out.below hcl)
    replace HT := hid (HT.out.below hcl)
    replace hB := btrans hB hcl
    clear hcl
    obtain ⟨k1_0, k1_1, k1_2, k1_3, k1_4, k1_5, k1_6, _, _, _, _, _, _, _⟩ := cell7 gS
    go_wp2_with fail
    go_ret
    exact ⟨by rw [HN.out]; simp [askb, hto], hB⟩
  · skip
    go_enter Tryz.func18, Tryz.ntmps18
    go_wp2_with fail
    replace hB := balloc hB (.cells #[.int .i64 9, .int .i64 id, .int .i64 kd, .slice a ps.length cap, .int .i64 l, .int .i64 c, .int .i64 r] 36)
    go_ret
    exact ⟨by rw [HN.out]; simp [askb], hB⟩
theorem impl_right (k : Int) (id kd : Int) (a : Option Addr) (cap : Nat) (ps : List (Int × Int)) (l c r : Int) (w : World) (hm : ps.length ≤ 1099511627776) (hc : ps.length ≤ cap) (hp : Pts w a ps) (hi0 : -9223372036854775808 ≤ id) (hi1 : id ≤ 9223372036854775807) (ht : Tab w) : Calls Tryz.prog 18 #[asv k id kd a ps.length cap l c r] w fun e w' => e = .returned (.bool (askB k id kd ps l c r)) ∧ Below w.heap.size w w' := by
  by_cases hk : 0 ≤ k ∧ k ≤ 9
  · obtain ⟨m, rfl⟩ := Int.eq_ofNat_of_zero_le hk.1
    have := impl_rightm m (by omega) id kd a cap ps l c r w hm hc hp hi0 hi1 ht
    unfold askB
    rw [if_pos hk, Int.toNat_natCast]
    exact this
  · have e : askB k id kd ps l c r = false := by unfold askB; rw [if_neg hk]
    rw [e]
    have e0 : (k == 0) = false := by rw [beq_eq_false_iff_ne]; omega
    have e1 : (k == 1) = false := by rw [beq_eq_false_iff_ne]; omega
    have e2 : (k == 2) = false := by rw [beq_eq_false_iff_ne]; omega
    have e3 : (k == 3) = false := by rw [beq_eq_false_iff_ne]; omega
    have e4 : (k == 4) = false := by rw [beq_eq_false_iff_ne]; omega
    have e5 : (k == 5) = false := by rw [beq_eq_false_iff_ne]; omega
    have e6 : (k == 6) = false := by rw [beq_eq_false_iff_ne]; omega
    have e7 : (k == 7) = false := by rw [beq_eq_false_iff_ne]; omega
    have e8 : (k == 8) = false := by rw [beq_eq_false_iff_ne]; omega
    have e9 : (k == 9) = false := by rw [beq_eq_false_iff_ne]; omega
    clear hk e
    go_enter Tryz.func18, Tryz.ntmps18
    go_wp2_with fail
    go_ret
    exact ⟨rfl, balloc (Below.refl _ _) _⟩
set_option maxRecDepth 100000 in
set_option maxHeartbeats 4000000 in
theorem impl_askm (m : Nat) (hm9 : m ≤ 9) (id kd : Int) (a : Option Addr) (cap : Nat) (ps : List (Int × Int)) (l c r : Int) (w : World) (hm : ps.length ≤ 1099511627776) (hc : ps.length ≤ cap) (hp : Pts w a ps) (hi0 : -9223372036854775808 ≤ id) (hi1 : id ≤ 9223372036854775807) (hl : (-9223372036854775808 ≤ l ∧ l ≤ 9223372036854775807) ∧ (-9223372036854775808 ≤ c ∧ c ≤ 9223372036854775807) ∧ -9223372036854775808 ≤ r ∧ r ≤ 9223372036854775807) (hio : ItoaA w) (hkw : KW w) (ht : Tab w) (haf : AF w) (hb : askb m id kd ps l c r = true) : Calls Tryz.prog 7 #[asv m id kd a ps.length cap l c r] w fun e w' => e = .returned (.string (askx m id kd ps l c r)) ∧ Below w.heap.size w w' := by
  have hB := Below.refl w.heap.size w
  have HP := hid hp
  have HI := hid hio
  have HT := hid ht
  have AFm := hid (fun w' (h : Below w.heap.size w w') => haf.below h m hm9)
  have RI := hid (fun w' (h : Pts w' a ps) (h2 : Tab w') => impl_rightm m hm9 id kd a cap ps l c r w' hm hc h hi0 hi1 h2)
  rw [hb] at RI
  have ST := hid (fun w' (h : Below w.heap.size w w') => impl_ShapeText kd a cap ps w' hm hc (hp.below h) (hio.ok.below h) (hkw.below h))
  have DI := hid (fun w' (h : Below w.heap.size w w') => impl_decA id hi0 hi1 w' (hio.below h))
  have DL := hid (fun w' (h : Below w.heap.size w w') => impl_decA l hl.1.1 hl.1.2 w' (hio.below h))
  have DC := hid (fun w' (h : Below w.heap.size w w') => impl_decA c hl.2.1.1 hl.2.1.2 w' (hio.below h))
  have DR := hid (fun w' (h : Below w.heap.size w w') => impl_decA r hl.2.2.1 hl.2.2.2 w' (hio.below h))
  obtain ⟨i0, hi0', hz0, hz1, hz2⟩ := info_parts Tryz.infoStr
  clear hp hio hkw ht haf hb
  have zi := ia_sizeA hi0 hi1
  have zl := ia_sizeA hl.1.1 hl.1.2
  have zc := ia_sizeA hl.2.1.1 hl.2.1.2
  have zr := ia_sizeA hl.2.2.1 hl.2.2.2
  have zt := txv_size kd ps
  have zk := akw_size m
  have hm4 : (m : Int) < 10 := by omega
  have hm5 : (m : Int) ≤ 9 := by omega
  have hm0 : (0 : Int) ≤ (m : Int) := by omega
  obtain ⟨ans, hans⟩ : ∃ ans, ans = askx m id kd ps l c r := ⟨_, rfl⟩
  rw [← hans]
  have HN := hid hans
  clear hans hl hi0 hi1
  unfold askx at HN
  generalize txv kd ps = tx at *
  generalize ia id = xi at *
  generalize ia l = xl at *
  generalize ia c = xc at *
  generalize ia r = xr at *
  go_enter Tryz.func7, Tryz.ntmps7
  go_wp2_with fail
  have gS := (new_alloc w (w.heap.size) (.cells #[.int .i64 m, .int .i64 id, .int .i64 kd, .slice a ps.length cap, .int .i64 l, .int .i64 c, .int .i64 r] 36) (by simp))
  have hal : Below w.heap.size w (w.alloc (.cells #[.int .i64 m, .int .i64 id, .int .i64 kd, .slice a ps.length cap, .int .i64 l, .int .i64 c, .int .i64 r] 36)) := (balloc (Below.refl _ _) (.cells #[.int .i64 m, .int .i64 id, .int .i64 kd, .slice a ps.length cap, .int .i64 l, .int .i64 c, .int .i64 r] 36))
  replace HP := hid (HP.out.below hal)
  replace HT := hid (HT.out.below hal)
  replace hB := btrans hB hal
  clear hal
  generalize (w.alloc (.cells #[.int .i64 m, .int .i64 id, .int .i64 kd, .slice a ps.length cap, .int .i64 l, .int .i64 c, .int .i64 r] 36)) = yw1 at *
  refine (RI.out _ HP.out HT.out).mono ?_
  rintro e yw2 ⟨rfl, hcl⟩
  replace gS := keepheap hcl gS
  replace HP := hid (HP.out.below hcl)
  replace HT := hid (HT.out.below hcl)
  replace hB := btrans hB hcl
  clear hcl
  clear RI HP HT
  rcases (show m = 0 ∨ m = 1 ∨ m = 2 ∨ m = 3 ∨ m = 4 ∨ m = 5 ∨ m = 6 ∨ m = 7 ∨ m = 8 ∨ m = 9 by omega) with e | e | e | e | e | e | e | e | e | e <;> subst e
  · skip
    have kc : yw2.cell? ⟨0, 0, none⟩ = some (.string (akw 0)) := AFm.out _ hB
    have hXX := lt_of_block gS
    obtain ⟨k1_0, k1_1, k1_2, k1_3, k1_4, k1_5, k1_6, _, _, _, _, _, _, _⟩ := cell7 gS
    have ak1_0 := (keepalloc k1_0 (.cells #[.string (akw 0)] 9))
    have ak1_1 := (keepalloc k1_1 (.cells #[.string (akw 0)] 9))
    have ak1_2 := (keepalloc k1_2 (.cells #[.string (akw 0)] 9))
    have ak1_3 := (keepalloc k1_3 (.cells #[.string (akw 0)] 9))
    have ak1_4 := (keepalloc k1_4 (.cells #[.string (akw 0)] 9))
    have ak1_5 := (keepalloc k1_5 (.cells #[.string (akw 0)] 9))
    have ak1_6 := (keepalloc k1_6 (.cells #[.string (akw 0)] 9))
    go_wp2_with fail
    clear k1_0 k1_1 k1_2 k1_3 k1_4 k1_5 k1_6 ak1_0 ak1_1 ak1_2 ak1_3 ak1_4 ak1_5 ak1_6
    replace gS := (old_alloc (o' := .cells #[.string (akw 0)] 9) gS)
    have gL := (new_alloc yw2 (yw2.heap.size) (.cells #[.string (akw 0)] 9) (by simp))
    have hal : Below yw2.heap.size yw2 (yw2.alloc (.cells #[.string (akw 0)] 9)) := (balloc (Below.refl _ _) (.cells #[.string (akw 0)] 9))
    replace hB := btrans hB hal
    clear hal
    generalize (yw2.alloc (.cells #[.string (akw 0)] 9)) = yw3 at *
    generalize yw2.heap.size = X0 at *
    clear kc AFm
    have hX0 : w.heap.size < X0 := hXX
    have HO : Hid (Ow yw3 X0 (.slice (some ⟨X0, 0, none⟩) 1 1) 1 ([akw 0].map Value.string)) := hid ⟨rfl, Or.inr ⟨X0, 1, #[.string (akw 0)], rfl, Nat.le_refl _, gL, Nat.le_refl _, by unfold maxLen; omega, rfl, rfl⟩⟩
    have hgG : w.heap.size < X0 := hX0
    clear gL
    refine (join_ws [akw 0] ans X0 X0 1 1 _ rfl (by omega) (by omega) HO.out (by rw [HN.out]; simp [Lib.join_cons, Lib.joinTail, Lib.join_one, ba_list]) (by rw [HN.out]; (try simp only [ByteArray.size_append]); have : spc.size = 1 := rfl; omega)).mono ?_
    rintro e yw4 ⟨rfl, hcl⟩
    replace gS := keepheap hcl gS
    replace HO := hid (HO.out.below hcl)
    replace hB := btrans hB hcl
    clear hcl
    go_wp2_with fail
    go_ret
    exact ⟨rfl, hB⟩
  · skip
    have kc : yw2.cell? ⟨0, 2, none⟩ = some (.string (akw 1)) := AFm.out _ hB
    have hXX := lt_of_block gS
    obtain ⟨k1_0, k1_1, k1_2, k1_3, k1_4, k1_5, k1_6, _, _, _, _, _, _, _⟩ := cell7 gS
    have ak1_0 := (keepalloc k1_0 (.cells #[.string (akw 1)] 9))
    have ak1_1 := (keepalloc k1_1 (.cells #[.string (akw 1)] 9))
    have ak1_2 := (keepalloc k1_2 (.cells #[.string (akw 1)] 9))
    have ak1_3 := (keepalloc k1_3 (.cells #[.string (akw 1)] 9))
    have ak1_4 := (keepalloc k1_4 (.cells #[.string (akw 1)] 9))
    have ak1_5 := (keepalloc k1_5 (.cells #[.string (akw 1)] 9))
    have ak1_6 := (keepalloc k1_6 (.cells #[.string (akw 1)] 9))
    go_wp2_with fail
    clear k1_0 k1_1 k1_2 k1_3 k1_4 k1_5 k1_6 ak1_0 ak1_1 ak1_2 ak1_3 ak1_4 ak1_5 ak1_6
    replace gS := (old_alloc (o' := .cells #[.string (akw 1)] 9) gS)
    have gL := (new_alloc yw2 (yw2.heap.size) (.cells #[.string (akw 1)] 9) (by simp))
    have hal : Below yw2.heap.size yw2 (yw2.alloc (.cells #[.string (akw 1)] 9)) := (balloc (Below.refl _ _) (.cells #[.string (akw 1)] 9))
    replace hB := btrans hB hal
    clear hal
    generalize (yw2.alloc (.cells #[.string (akw 1)] 9)) = yw3 at *
    generalize yw2.heap.size = X0 at *
    clear kc AFm
    have hX0 : w.heap.size < X0 := hXX
    have HO : Hid (Ow yw3 X0 (.slice (some ⟨X0, 0, none⟩) 1 1) 1 ([akw 1].map Value.string)) := hid ⟨rfl, Or.inr ⟨X0, 1, #[.string (akw 1)], rfl, Nat.le_refl _, gL, Nat.le_refl _, by unfold maxLen; omega, rfl, rfl⟩⟩
    have hgG : w.heap.size < X0 := hX0
    clear gL
    refine (join_ws [akw 1] ans X0 X0 1 1 _ rfl (by omega) (by omega) HO.out (by rw [HN.out]; simp [Lib.join_cons, Lib.joinTail, Lib.join_one, ba_list]) (by rw [HN.out]; (try simp only [ByteArray.size_append]); have : spc.size = 1 := rfl; omega)).mono ?_
    rintro e yw4 ⟨rfl, hcl⟩
    replace gS := keepheap hcl gS
    replace HO := hid (HO.out.below hcl)
    replace hB := btrans hB hcl
    clear hcl
    go_wp2_with fail
    go_ret
    exact ⟨rfl, hB⟩
  · skip
    have kc : yw2.cell? ⟨0, 4, none⟩ = some (.string (akw 2)) := AFm.out _ hB
    have hXX := lt_of_block gS
    obtain ⟨k1_0, k1_1, k1_2, k1_3, k1_4, k1_5, k1_6, _, _, _, _, _, _, _⟩ := cell7 gS
    have ak1_0 := (keepalloc k1_0 (.cells #[.string (akw 2)] 9))
    have ak1_1 := (keepalloc k1_1 (.cells #[.string (akw 2)] 9))
    have ak1_2 := (keepalloc k1_2 (.cells #[.string (akw 2)] 9))
    have ak1_3 := (keepalloc k1_3 (.cells #[.string (akw 2)] 9))
    have ak1_4 := (keepalloc k1_4 (.cells #[.string (akw 2)] 9))
    have ak1_5 := (keepalloc k1_5 (.cells #[.string (akw 2)] 9))
    have ak1_6 := (keepalloc k1_6 (.cells #[.string (akw 2)] 9))
    go_wp2_with fail
    clear k1_0 k1_1 k1_2 k1_3 k1_4 k1_5 k1_6 ak1_0 ak1_1 ak1_2 ak1_3 ak1_4 ak1_5 ak1_6
    replace gS := (old_alloc (o' := .cells #[.string (akw 2)] 9) gS)
    have gL := (new_alloc yw2 (yw2.heap.size) (.cells #[.string (akw 2)] 9) (by simp))
    have hal : Below yw2.heap.size yw2 (yw2.alloc (.cells #[.string (akw 2)] 9)) := (balloc (Below.refl _ _) (.cells #[.string (akw 2)] 9))
    replace hB := btrans hB hal
    clear hal
    generalize (yw2.alloc (.cells #[.string (akw 2)] 9)) = yw3 at *
    generalize yw2.heap.size = X0 at *
    clear kc AFm
    have hX0 : w.heap.size < X0 := hXX
    have HO : Hid (Ow yw3 X0 (.slice (some ⟨X0, 0, none⟩) 1 1) 1 ([akw 2].map Value.string)) := hid ⟨rfl, Or.inr ⟨X0, 1, #[.string (akw 2)], rfl, Nat.le_refl _, gL, Nat.le_refl _, by unfold maxLen; omega, rfl, rfl⟩⟩
    have hgG : w.heap.size < X0 := hX0
    clear gL
    refine (join_ws [akw 2] ans X0 X0 1 1 _ rfl (by omega) (by omega) HO.out (by rw [HN.out]; simp [Lib.join_cons, Lib.joinTail, Lib.join_one, ba_list]) (by rw [HN.out]; (try simp only [ByteArray.size_append]); have : spc.size = 1 := rfl; omega)).mono ?_
    rintro e yw4 ⟨rfl, hcl⟩
    replace gS := keepheap hcl gS
    replace HO := hid (HO.out.below hcl)
    replace hB := btrans hB hcl
    clear hcl
    go_wp2_with fail
    go_ret
    exact ⟨rfl, hB⟩
  · skip
    have kc : yw2.cell? ⟨0, 6, none⟩ = some (.string (akw 3)) := AFm.out _ hB
    have hXX := lt_of_block gS
    obtain ⟨k1_0, k1_1, k1_2, k1_3, k1_4, k1_5, k1_6, _, _, _, _, _, _, _⟩ := cell7 gS
    have ak1_0 := (keepalloc k1_0 (.cells #[.string (akw 3)] 9))
    have ak1_1 := (keepalloc k1_1 (.cells #[.string (akw 3)] 9))
    have ak1_2 := (keepalloc k1_2 (.cells #[.string (akw 3)] 9))
    have ak1_3 := (keepalloc k1_3 (.cells #[.string (akw 3)] 9))
    have ak1_4 := (keepalloc k1_4 (.cells #[.string (akw 3)] 9))
    have ak1_5 := (keepalloc k1_5 (.cells #[.string (akw 3)] 9))
    have ak1_6 := (keepalloc k1_6 (.cells #[.string (akw 3)] 9))
    go_wp2_with fail
    clear k1_0 k1_1 k1_2 k1_3 k1_4 k1_5 k1_6 ak1_0 ak1_1 ak1_2 ak1_3 ak1_4 ak1_5 ak1_6
    replace gS := (old_alloc (o' := .cells #[.string (akw 3)] 9) gS)
    have gL := (new_alloc yw2 (yw2.heap.size) (.cells #[.string (akw 3)] 9) (by simp))
    have hal : Below yw2.heap.size yw2 (yw2.alloc (.cells #[.string (akw 3)] 9)) := (balloc (Below.refl _ _) (.cells #[.string (akw 3)] 9))
    replace hB := btrans hB hal
    clear hal
    generalize (yw2.alloc (.cells #[.string (akw 3)] 9)) = yw3 at *
    generalize yw2.heap.size = X0 at *
    clear kc AFm
    have hX0 : w.heap.size < X0 := hXX
    have HO : Hid (Ow yw3 X0 (.slice (some ⟨X0, 0, none⟩) 1 1) 1 ([akw 3].map Value.string)) := hid ⟨rfl, Or.inr ⟨X0, 1, #[.string (akw 3)], rfl, Nat.le_refl _, gL, Nat.le_refl _, by unfold maxLen; omega, rfl, rfl⟩⟩
    have hgG : w.heap.size < X0 := hX0
    clear gL
    refine (DI.out _ hB).mono ?_
    rintro e yw4 ⟨rfl, hcl⟩
    replace gS := keepheap hcl gS
    replace HO := hid (HO.out.below hcl)
    replace hB := btrans hB hcl
    clear hcl
    have hown := HO.out
    unfold Ow at hown
    have hxw : X0 ≤ yw4.heap.size := by have h1 := hown.lt X0 rfl; omega
    have GS := hid gS
    go_wp2_with (at_builtin; (refine wpList_append_lies _ rfl (.tmp 31) (.tmp 35) 42 rfl X0 9 i0 _ 1 16 Tryz.underlying42 hi0' hz0 hz1 hz2 rfl (by decide) (.slice (some ⟨X0, 0, none⟩) 1 1) 1 ([akw 3].map Value.string) rfl (hown.alloc _) ⟨yw4.heap.size, 0, none⟩ 1 1 [.string (xi)] rfl rfl (World.news_of_block (cs := #[.string (xi)]) (t := 9) (fr := (0, 0)) (heap_alloc_new yw4 _)) (by simp [Value.oneCell']) (by omega) (by unfold maxLen; omega) (by omega) (by simp; omega) (yw4.heap.size + 1) (by simp) ?_; intro g1 c1 s1 hown2 hgrow hat hlt2; have gSn : s1.heap[w.heap.size]? = some (.cells #[.int .i64 3, .int .i64 id, .int .i64 kd, .slice a ps.length cap, .int .i64 l, .int .i64 c, .int .i64 r] 36 (0, 0)) := (hgrow.block w.heap.size (by have := lt_of_block GS.out; simp; omega) (fun e => by simp [Value.ownBlock] at e; omega)).trans (old_alloc GS.out); obtain ⟨m0, m1, m2, m3, m4, m5, m6, _⟩ := cell7 gSn))
    clear m0 m1 m2 m3 m4 m5 m6 gS GS
    have gS := gSn
    clear gSn
    have hb1 : Below w.heap.size w s1 := Below.grown (balloc hB _) hgrow (by have := hB.size; simp; omega) (fun z hz => Nat.le_trans (Nat.le_of_lt hX0) (hown.lt z hz).1)
    replace HO : Hid (Ow s1 X0 (.slice (some ⟨g1, 0, none⟩) 2 c1) 2 ([akw 3, xi].map Value.string)) := hid hown2
    have hgn : w.heap.size < g1 := Nat.lt_of_lt_of_le hX0 (hown2.lt g1 rfl).1
    replace hB := hb1
    clear hb1 hown hown2 hgrow hat hlt2 hxw hgG
    have hgG := hgn
    clear hgn
    refine (ST.out _ hB).mono ?_
    rintro e yw5 ⟨rfl, hcl⟩
    replace gS := keepheap hcl gS
    replace HO := hid (HO.out.below hcl)
    replace hB := btrans hB hcl
    clear hcl
    have hown := HO.out
    unfold Ow at hown
    have hxw : X0 ≤ yw5.heap.size := by have h1 := hown.lt g1 rfl; omega
    go_wp2_with (at_builtin; (refine wpList_append_lies _ rfl (.tmp 37) (.tmp 41) 42 rfl X0 9 i0 _ 1 16 Tryz.underlying42 hi0' hz0 hz1 hz2 rfl (by decide) (.slice (some ⟨g1, 0, none⟩) 2 c1) 2 ([akw 3, xi].map Value.string) rfl (hown.alloc _) ⟨yw5.heap.size, 0, none⟩ 1 1 [.string (tx)] rfl rfl (World.news_of_block (cs := #[.string (tx)]) (t := 9) (fr := (0, 0)) (heap_alloc_new yw5 _)) (by simp [Value.oneCell']) (by omega) (by unfold maxLen; omega) (by omega) (by simp; omega) (yw5.heap.size + 1) (by simp) ?_; intro g2 c2 s2 hown2 hgrow hat hlt2))
    have hb2 : Below w.heap.size w s2 := Below.grown (balloc hB _) hgrow (by have := hB.size; simp; omega) (fun z hz => Nat.le_trans (Nat.le_of_lt hX0) (hown.lt z hz).1)
    replace HO : Hid (Ow s2 X0 (.slice (some ⟨g2, 0, none⟩) 3 c2) 3 ([akw 3, xi, tx].map Value.string)) := hid hown2
    replace hB := hb2
    clear hb2 hown hown2 hgrow hat hlt2 hxw gS
    refine (join_ws [akw 3, xi, tx] ans X0 g2 3 c2 _ rfl (by omega) (by omega) HO.out (by rw [HN.out]; simp [Lib.join_cons, Lib.joinTail, Lib.join_one, ba_list]) (by rw [HN.out]; (try simp only [ByteArray.size_append]); have : spc.size = 1 := rfl; omega)).mono ?_
    rintro e yw6 ⟨rfl, hcl⟩
    replace HO := hid (HO.out.below hcl)
    replace hB := btrans hB hcl
    clear hcl
    go_wp2_with fail
    go_ret
    exact ⟨rfl, hB⟩
  · skip
    have kc : yw2.cell? ⟨0, 8, none⟩ = some (.string (akw 4)) := AFm.out _ hB
    have hXX := lt_of_block gS
    obtain ⟨k1_0, k1_1, k1_2, k1_3, k1_4, k1_5, k1_6, _, _, _, _, _, _, _⟩ := cell7 gS
    have ak1_0 := (keepalloc k1_0 (.cells #[.string (akw 4)] 9))
    have ak1_1 := (keepalloc k1_1 (.cells #[.string (akw 4)] 9))
    have ak1_2 := (keepalloc k1_2 (.cells #[.string (akw 4)] 9))
    have ak1_3 := (keepalloc k1_3 (.cells #[.string (akw 4)] 9))
    have ak1_4 := (keepalloc k1_4 (.cells #[.string (akw 4)] 9))
    have ak1_5 := (keepalloc k1_5 (.cells #[.string (akw 4)] 9))
    have ak1_6 := (keepalloc k1_6 (.cells #[.string (akw 4)] 9))
    go_wp2_with fail
    clear k1_0 k1_1 k1_2 k1_3 k1_4 k1_5 k1_6 ak1_0 ak1_1 ak1_2 ak1_3 ak1_4 ak1_5 ak1_6
    replace gS := (old_alloc (o' := .cells #[.string (akw 4)] 9) gS)
    have gL := (new_alloc yw2 (yw2.heap.size) (.cells #[.string (akw 4)] 9) (by simp))
    have hal : Below yw2.heap.size yw2 (yw2.alloc (.cells #[.string (akw 4)] 9)) := (balloc (Below.refl _ _) (.cells #[.string (akw 4)] 9))
    replace hB := btrans hB hal
    clear hal
    generalize (yw2.alloc (.cells #[.string (akw 4)] 9)) = yw3 at *
    generalize yw2.heap.size = X0 at *
    clear kc AFm
    have hX0 : w.heap.size < X0 := hXX
    have HO : Hid (Ow yw3 X0 (.slice (some ⟨X0, 0, none⟩) 1 1) 1 ([akw 4].map Value.string)) := hid ⟨rfl, Or.inr ⟨X0, 1, #[.string (akw 4)], rfl, Nat.le_refl _, gL, Nat.le_refl _, by unfold maxLen; omega, rfl, rfl⟩⟩
    have hgG : w.heap.size < X0 := hX0
    clear gL
    refine (DI.out _ hB).mono ?_
    rintro e yw4 ⟨rfl, hcl⟩
    replace gS := keepheap hcl gS
    replace HO := hid (HO.out.below hcl)
    replace hB := btrans hB hcl
    clear hcl
    have hown := HO.out
    unfold Ow at hown
    have hxw : X0 ≤ yw4.heap.size := by have h1 := hown.lt X0 rfl; omega
    have GS := hid gS
    go_wp2_with (at_builtin; (refine wpList_append_lies _ rfl (.tmp 25) (.tmp 29) 42 rfl X0 9 i0 _ 1 16 Tryz.underlying42 hi0' hz0 hz1 hz2 rfl (by decide) (.slice (some ⟨X0, 0, none⟩) 1 1) 1 ([akw 4].map Value.string) rfl (hown.alloc _) ⟨yw4.heap.size, 0, none⟩ 1 1 [.string (xi)] rfl rfl (World.news_of_block (cs := #[.string (xi)]) (t := 9) (fr := (0, 0)) (heap_alloc_new yw4 _)) (by simp [Value.oneCell']) (by omega) (by unfold maxLen; omega) (by omega) (by simp; omega) (yw4.heap.size + 1) (by simp) ?_; intro g1 c1 s1 hown2 hgrow hat hlt2; have gSn : s1.heap[w.heap.size]? = some (.cells #[.int .i64 4, .int .i64 id, .int .i64 kd, .slice a ps.length cap, .int .i64 l, .int .i64 c, .int .i64 r] 36 (0, 0)) := (hgrow.block w.heap.size (by have := lt_of_block GS.out; simp; omega) (fun e => by simp [Value.ownBlock] at e; omega)).trans (old_alloc GS.out); obtain ⟨m0, m1, m2, m3, m4, m5, m6, _⟩ := cell7 gSn))
    clear m0 m1 m2 m3 m4 m5 m6 gS GS
    have gS := gSn
    clear gSn
    have hb1 : Below w.heap.size w s1 := Below.grown (balloc hB _) hgrow (by have := hB.size; simp; omega) (fun z hz => Nat.le_trans (Nat.le_of_lt hX0) (hown.lt z hz).1)
    replace HO : Hid (Ow s1 X0 (.slice (some ⟨g1, 0, none⟩) 2 c1) 2 ([akw 4, xi].map Value.string)) := hid hown2
    have hgn : w.heap.size < g1 := Nat.lt_of_lt_of_le hX0 (hown2.lt g1 rfl).1
    replace hB := hb1
    clear hb1 hown hown2 hgrow hat hlt2 hxw hgG
    have hgG := hgn
    clear hgn
    refine (join_ws [akw 4, xi] ans X0 g1 2 c1 _ rfl (by omega) (by omega) HO.out (by rw [HN.out]; simp [Lib.join_cons, Lib.joinTail, Lib.join_one, ba_list]) (by rw [HN.out]; (try simp only [ByteArray.size_append]); have : spc.size = 1 := rfl; omega)).mono ?_
    rintro e yw5 ⟨rfl, hcl⟩
    replace gS := keepheap hcl gS
    replace HO := hid (HO.out.below hcl)
    replace hB := btrans hB hcl
    clear hcl
    go_wp2_with fail
    go_ret
    exact ⟨rfl, hB⟩
  · skip
    have kc : yw2.cell? ⟨0, 10, none⟩ = some (.string (akw 5)) := AFm.out _ hB
    have hXX := lt_of_block gS
    obtain ⟨k1_0, k1_1, k1_2, k1_3, k1_4, k1_5, k1_6, _, _, _, _, _, _, _⟩ := cell7 gS
    have ak1_0 := (keepalloc k1_0 (.cells #[.string (akw 5)] 9))
    have ak1_1 := (keepalloc k1_1 (.cells #[.string (akw 5)] 9))
    have ak1_2 := (keepalloc k1_2 (.cells #[.string (akw 5)] 9))
    have ak1_3 := (keepalloc k1_3 (.cells #[.string (akw 5)] 9))
    have ak1_4 := (keepalloc k1_4 (.cells #[.string (akw 5)] 9))
    have ak1_5 := (keepalloc k1_5 (.cells #[.string (akw 5)] 9))
    have ak1_6 := (keepalloc k1_6 (.cells #[.string (akw 5)] 9))
    go_wp2_with fail
    clear k1_0 k1_1 k1_2 k1_3 k1_4 k1_5 k1_6 ak1_0 ak1_1 ak1_2 ak1_3 ak1_4 ak1_5 ak1_6
    replace gS := (old_alloc (o' := .cells #[.string (akw 5)] 9) gS)
    have gL := (new_alloc yw2 (yw2.heap.size) (.cells #[.string (akw 5)] 9) (by simp))
    have hal : Below yw2.heap.size yw2 (yw2.alloc (.cells #[.string (akw 5)] 9)) := (balloc (Below.refl _ _) (.cells #[.string (akw 5)] 9))
    replace hB := btrans hB hal
    clear hal
    generalize (yw2.alloc (.cells #[.string (akw 5)] 9)) = yw3 at *
    generalize yw2.heap.size = X0 at *
    clear kc AFm
    have hX0 : w.heap.size < X0 := hXX
    have HO : Hid (Ow yw3 X0 (.slice (some ⟨X0, 0, none⟩) 1 1) 1 ([akw 5].map Value.string)) := hid ⟨rfl, Or.inr ⟨X0, 1, #[.string (akw 5)], rfl, Nat.le_refl _, gL, Nat.le_refl _, by unfold maxLen; omega, rfl, rfl⟩⟩
    have hgG : w.heap.size < X0 := hX0
    clear gL
    refine (DI.out _ hB).mono ?_
    rintro e yw4 ⟨rfl, hcl⟩
    replace gS := keepheap hcl gS
    replace HO := hid (HO.out.below hcl)
    replace hB := btrans hB hcl
    clear hcl
    have hown := HO.out
    unfold Ow at hown
    have hxw : X0 ≤ yw4.heap.size := by have h1 := hown.lt X0 rfl; omega
    have GS := hid gS
    go_wp2_with (at_builtin; (refine wpList_append_lies _ rfl (.tmp 25) (.tmp 29) 42 rfl X0 9 i0 _ 1 16 Tryz.underlying42 hi0' hz0 hz1 hz2 rfl (by decide) (.slice (some ⟨X0, 0, none⟩) 1 1) 1 ([akw 5].map Value.string) rfl (hown.alloc _) ⟨yw4.heap.size, 0, none⟩ 1 1 [.string (xi)] rfl rfl (World.news_of_block (cs := #[.string (xi)]) (t := 9) (fr := (0, 0)) (heap_alloc_new yw4 _)) (by simp [Value.oneCell']) (by omega) (by unfold maxLen; omega) (by omega) (by simp; omega) (yw4.heap.size + 1) (by simp) ?_; intro g1 c1 s1 hown2 hgrow hat hlt2; have gSn : s1.heap[w.heap.size]? = some (.cells #[.int .i64 5, .int .i64 id, .int .i64 kd, .slice a ps.length cap, .int .i64 l, .int .i64 c, .int .i64 r] 36 (0, 0)) := (hgrow.block w.heap.size (by have := lt_of_block GS.out; simp; omega) (fun e => by simp [Value.ownBlock] at e; omega)).trans (old_alloc GS.out); obtain ⟨m0, m1, m2, m3, m4, m5, m6, _⟩ := cell7 gSn))
    clear m0 m1 m2 m3 m4 m5 m6 gS GS
    have gS := gSn
    clear gSn
    have hb1 : Below w.heap.size w s1 := Below.grown (balloc hB _) hgrow (by have := hB.size; simp; omega) (fun z hz => Nat.le_trans (Nat.le_of_lt hX0) (hown.lt z hz).1)
    replace HO : Hid (Ow s1 X0 (.slice (some ⟨g1, 0, none⟩) 2 c1) 2 ([akw 5, xi].map Value.string)) := hid hown2
    have hgn : w.heap.size < g1 := Nat.lt_of_lt_of_le hX0 (hown2.lt g1 rfl).1
    replace hB := hb1
    clear hb1 hown hown2 hgrow hat hlt2 hxw hgG
    have hgG := hgn
    clear hgn
    refine (join_ws [akw 5, xi] ans X0 g1 2 c1 _ rfl (by omega) (by omega) HO.out (by rw [HN.out]; simp [Lib.join_cons, Lib.joinTail, Lib.join_one, ba_list]) (by rw [HN.out]; (try simp only [ByteArray.size_append]); have : spc.size = 1 := rfl; omega)).mono ?_
    rintro e yw5 ⟨rfl, hcl⟩
    replace gS := keepheap hcl gS
    replace HO := hid (HO.out.below hcl)
    replace hB := btrans hB hcl
    clear hcl
    go_wp2_with fail
    go_ret
    exact ⟨rfl, hB⟩
  · skip
    have kc : yw2.cell? ⟨0, 12, none⟩ = some (.string (akw 6)) := AFm.out _ hB
    have hXX := lt_of_block gS
    obtain ⟨k1_0, k1_1, k1_2, k1_3, k1_4, k1_5, k1_6, _, _, _, _, _, _, _⟩ := cell7 gS
    have ak1_0 := (keepalloc k1_0 (.cells #[.string (akw 6)] 9))
    have ak1_1 := (keepalloc k1_1 (.cells #[.string (akw 6)] 9))
    have ak1_2 := (keepalloc k1_2 (.cells #[.string (akw 6)] 9))
    have ak1_3 := (keepalloc k1_3 (.cells #[.string (akw 6)] 9))
    have ak1_4 := (keepalloc k1_4 (.cells #[.string (akw 6)] 9))
    have ak1_5 := (keepalloc k1_5 (.cells #[.string (akw 6)] 9))
    have ak1_6 := (keepalloc k1_6 (.cells #[.string (akw 6)] 9))
    go_wp2_with fail
    clear k1_0 k1_1 k1_2 k1_3 k1_4 k1_5 k1_6 ak1_0 ak1_1 ak1_2 ak1_3 ak1_4 ak1_5 ak1_6
    replace gS := (old_alloc (o' := .cells #[.string (akw 6)] 9) gS)
    have gL := (new_alloc yw2 (yw2.heap.size) (.cells #[.string (akw 6)] 9) (by simp))
    have hal : Below yw2.heap.size yw2 (yw2.alloc (.cells #[.string (akw 6)] 9)) := (balloc (Below.refl _ _) (.cells #[.string (akw 6)] 9))
    replace hB := btrans hB hal
    clear hal
    generalize (yw2.alloc (.cells #[.string (akw 6)] 9)) = yw3 at *
    generalize yw2.heap.size = X0 at *
    clear kc AFm
    have hX0 : w.heap.size < X0 := hXX
    have HO : Hid (Ow yw3 X0 (.slice (some ⟨X0, 0, none⟩) 1 1) 1 ([akw 6].map Value.string)) := hid ⟨rfl, Or.inr ⟨X0, 1, #[.string (akw 6)], rfl, Nat.le_refl _, gL, Nat.le_refl _, by unfold maxLen; omega, rfl, rfl⟩⟩
    have hgG : w.heap.size < X0 := hX0
    clear gL
    refine (ST.out _ hB).mono ?_
    rintro e yw4 ⟨rfl, hcl⟩
    replace gS := keepheap hcl gS
    replace HO := hid (HO.out.below hcl)
    replace hB := btrans hB hcl
    clear hcl
    have hown := HO.out
    unfold Ow at hown
    have hxw : X0 ≤ yw4.heap.size := by have h1 := hown.lt X0 rfl; omega
    have GS := hid gS
    go_wp2_with (at_builtin; (refine wpList_append_lies _ rfl (.tmp 37) (.tmp 41) 42 rfl X0 9 i0 _ 1 16 Tryz.underlying42 hi0' hz0 hz1 hz2 rfl (by decide) (.slice (some ⟨X0, 0, none⟩) 1 1) 1 ([akw 6].map Value.string) rfl (hown.alloc _) ⟨yw4.heap.size, 0, none⟩ 1 1 [.string (tx)] rfl rfl (World.news_of_block (cs := #[.string (tx)]) (t := 9) (fr := (0, 0)) (heap_alloc_new yw4 _)) (by simp [Value.oneCell']) (by omega) (by unfold maxLen; omega) (by omega) (by simp; omega) (yw4.heap.size + 1) (by simp) ?_; intro g1 c1 s1 hown2 hgrow hat hlt2; have gSn : s1.heap[w.heap.size]? = some (.cells #[.int .i64 6, .int .i64 id, .int .i64 kd, .slice a ps.length cap, .int .i64 l, .int .i64 c, .int .i64 r] 36 (0, 0)) := (hgrow.block w.heap.size (by have := lt_of_block GS.out; simp; omega) (fun e => by simp [Value.ownBlock] at e; omega)).trans (old_alloc GS.out); obtain ⟨m0, m1, m2, m3, m4, m5, m6, _⟩ := cell7 gSn))
    clear m0 m1 m2 m3 m4 m5 m6 gS GS
    have gS := gSn
    clear gSn
    have hb1 : Below w.heap.size w s1 := Below.grown (balloc hB _) hgrow (by have := hB.size; simp; omega) (fun z hz => Nat.le_trans (Nat.le_of_lt hX0) (hown.lt z hz).1)
    replace HO : Hid (Ow s1 X0 (.slice (some ⟨g1, 0, none⟩) 2 c1) 2 ([akw 6, tx].map Value.string)) := hid hown2
    have hgn : w.heap.size < g1 := Nat.lt_of_lt_of_le hX0 (hown2.lt g1 rfl).1
    replace hB := hb1
    clear hb1 hown hown2 hgrow hat hlt2 hxw hgG
    have hgG := hgn
    clear hgn
    refine (join_ws [akw 6, tx] ans X0 g1 2 c1 _ rfl (by omega) (by omega) HO.out (by rw [HN.out]; simp [Lib.join_cons, Lib.joinTail, Lib.join_one, ba_list]) (by rw [HN.out]; (try simp only [ByteArray.size_append]); have : spc.size = 1 := rfl; omega)).mono ?_
    rintro e yw5 ⟨rfl, hcl⟩
    replace gS := keepheap hcl gS
    replace HO := hid (HO.out.below hcl)
    replace hB := btrans hB hcl
    clear hcl
    go_wp2_with fail
    go_ret
    exact ⟨rfl, hB⟩
  · skip
    have kc : yw2.cell? ⟨0, 14, none⟩ = some (.string (akw 7)) := AFm.out _ hB
    have hXX := lt_of_block gS
    obtain ⟨k1_0, k1_1, k1_2, k1_3, k1_4, k1_5, k1_6, _, _, _, _, _, _, _⟩ := cell7 gS
    have ak1_0 := (keepalloc k1_0 (.cells #[.string (akw 7)] 9))
    have ak1_1 := (keepalloc k1_1 (.cells #[.string (akw 7)] 9))
    have ak1_2 := (keepalloc k1_2 (.cells #[.string (akw 7)] 9))
    have ak1_3 := (keepalloc k1_3 (.cells #[.string (akw 7)] 9))
    have ak1_4 := (keepalloc k1_4 (.cells #[.string (akw 7)] 9))
    have ak1_5 := (keepalloc k1_5 (.cells #[.string (akw 7)] 9))
    have ak1_6 := (keepalloc k1_6 (.cells #[.string (akw 7)] 9))
    go_wp2_with fail
    clear k1_0 k1_1 k1_2 k1_3 k1_4 k1_5 k1_6 ak1_0 ak1_1 ak1_2 ak1_3 ak1_4 ak1_5 ak1_6
    replace gS := (old_alloc (o' := .cells #[.string (akw 7)] 9) gS)
    have gL := (new_alloc yw2 (yw2.heap.size) (.cells #[.string (akw 7)] 9) (by simp))
    have hal : Below yw2.heap.size yw2 (yw2.alloc (.cells #[.string (akw 7)] 9)) := (balloc (Below.refl _ _) (.cells #[.string (akw 7)] 9))
    replace hB := btrans hB hal
    clear hal
    generalize (yw2.alloc (.cells #[.string (akw 7)] 9)) = yw3 at *
    generalize yw2.heap.size = X0 at *
    clear kc AFm
    have hX0 : w.heap.size < X0 := hXX
    have HO : Hid (Ow yw3 X0 (.slice (some ⟨X0, 0, none⟩) 1 1) 1 ([akw 7].map Value.string)) := hid ⟨rfl, Or.inr ⟨X0, 1, #[.string (akw 7)], rfl, Nat.le_refl _, gL, Nat.le_refl _, by unfold maxLen; omega, rfl, rfl⟩⟩
    have hgG : w.heap.size < X0 := hX0
    clear gL
    refine (ST.out _ hB).mono ?_
    rintro e yw4 ⟨rfl, hcl⟩
    replace gS := keepheap hcl gS
    replace HO := hid (HO.out.below hcl)
    replace hB := btrans hB hcl
    clear hcl
    have hown := HO.out
    unfold Ow at hown
    have hxw : X0 ≤ yw4.heap.size := by have h1 := hown.lt X0 rfl; omega
    have GS := hid gS
    go_wp2_with (at_builtin; (refine wpList_append_lies _ rfl (.tmp 37) (.tmp 41) 42 rfl X0 9 i0 _ 1 16 Tryz.underlying42 hi0' hz0 hz1 hz2 rfl (by decide) (.slice (some ⟨X0, 0, none⟩) 1 1) 1 ([akw 7].map Value.string) rfl (hown.alloc _) ⟨yw4.heap.size, 0, none⟩ 1 1 [.string (tx)] rfl rfl (World.news_of_block (cs := #[.string (tx)]) (t := 9) (fr := (0, 0)) (heap_alloc_new yw4 _)) (by simp [Value.oneCell']) (by omega) (by unfold maxLen; omega) (by omega) (by simp; omega) (yw4.heap.size + 1) (by simp) ?_; intro g1 c1 s1 hown2 hgrow hat hlt2; have gSn : s1.heap[w.heap.size]? = some (.cells #[.int .i64 7, .int .i64 id, .int .i64 kd, .slice a ps.length cap, .int .i64 l, .int .i64 c, .int .i64 r] 36 (0, 0)) := (hgrow.block w.heap.size (by have := lt_of_block GS.out; simp; omega) (fun e => by simp [Value.ownBlock] at e; omega)).trans (old_alloc GS.out); obtain ⟨m0, m1, m2, m3, m4, m5, m6, _⟩ := cell7 gSn))
    clear m0 m1 m2 m3 m4 m5 m6 gS GS
    have gS := gSn
    clear gSn
    have hb1 : Below w.heap.size w s1 := Below.grown (balloc hB _) hgrow (by have := hB.size; simp; omega) (fun z hz => Nat.le_trans (Nat.le_of_lt hX0) (hown.lt z hz).1)
    replace HO : Hid (Ow s1 X0 (.slice (some ⟨g1, 0, none⟩) 2 c1) 2 ([akw 7, tx].map Value.string)) := hid hown2
    have hgn : w.heap.size < g1 := Nat.lt_of_lt_of_le hX0 (hown2.lt g1 rfl).1
    replace hB := hb1
    clear hb1 hown hown2 hgrow hat hlt2 hxw hgG
    have hgG := hgn
    clear hgn
    refine (join_ws [akw 7, tx] ans X0 g1 2 c1 _ rfl (by omega) (by omega) HO.out (by rw [HN.out]; simp [Lib.join_cons, Lib.joinTail, Lib.join_one, ba_list]) (by rw [HN.out]; (try simp only [ByteArray.size_append]); have : spc.size = 1 := rfl; omega)).mono ?_
    rintro e yw5 ⟨rfl, hcl⟩
    replace gS := keepheap hcl gS
    replace HO := hid (HO.out.below hcl)
    replace hB := btrans hB hcl
    clear hcl
    go_wp2_with fail
    go_ret
    exact ⟨rfl, hB⟩
  · skip
    have kc : yw2.cell? ⟨0, 16, none⟩ = some (.string (akw 8)) := AFm.out _ hB
    have hXX := lt_of_block gS
    obtain ⟨k1_0, k1_1, k1_2, k1_3, k1_4, k1_5, k1_6, _, _, _, _, _, _, _⟩ := cell7 gS
    have ak1_0 := (keepalloc k1_0 (.cells #[.string (akw 8)] 9))
    have ak1_1 := (keepalloc k1_1 (.cells #[.string (akw 8)] 9))
    have ak1_2 := (keepalloc k1_2 (.cells #[.string (akw 8)] 9))
    have ak1_3 := (keepalloc k1_3 (.cells #[.string (akw 8)] 9))
    have ak1_4 := (keepalloc k1_4 (.cells #[.string (akw 8)] 9))
    have ak1_5 := (keepalloc k1_5 (.cells #[.string (akw 8)] 9))
    have ak1_6 := (keepalloc k1_6 (.cells #[.string (akw 8)] 9))
    go_wp2_with fail
    clear k1_0 k1_1 k1_2 k1_3 k1_4 k1_5 k1_6 ak1_0 ak1_1 ak1_2 ak1_3 ak1_4 ak1_5 ak1_6
    replace gS := (old_alloc (o' := .cells #[.string (akw 8)] 9) gS)
    have gL := (new_alloc yw2 (yw2.heap.size) (.cells #[.string (akw 8)] 9) (by simp))
    have hal : Below yw2.heap.size yw2 (yw2.alloc (.cells #[.string (akw 8)] 9)) := (balloc (Below.refl _ _) (.cells #[.string (akw 8)] 9))
    replace hB := btrans hB hal
    clear hal
    generalize (yw2.alloc (.cells #[.string (akw 8)] 9)) = yw3 at *
    generalize yw2.heap.size = X0 at *
    clear kc AFm
    have hX0 : w.heap.size < X0 := hXX
    have HO : Hid (Ow yw3 X0 (.slice (some ⟨X0, 0, none⟩) 1 1) 1 ([akw 8].map Value.string)) := hid ⟨rfl, Or.inr ⟨X0, 1, #[.string (akw 8)], rfl, Nat.le_refl _, gL, Nat.le_refl _, by unfold maxLen; omega, rfl, rfl⟩⟩
    have hgG : w.heap.size < X0 := hX0
    clear gL
    refine wp_region_held_drew (S := (fun w' => w'.heap[w.heap.size]? = some (.cells #[.int .i64 8, .int .i64 id, .int .i64 kd, .slice a ps.length cap, .int .i64 l, .int .i64 c, .int .i64 r] 36 (0, 0)))) (by kernel_rfl) ?_ (fun hHeld => ?_)
    · exact gS
    replace gS : yw3.drew.heap[w.heap.size]? = some (.cells #[.int .i64 8, .int .i64 id, .int .i64 kd, .slice a ps.length cap, .int .i64 l, .int .i64 c, .int .i64 r] 36 (0, 0)) := gS
    replace HO : Hid (Ow yw3.drew X0 (.slice (some ⟨X0, 0, none⟩) 1 1) 1 ([akw 8].map Value.string)) := hid (HO.out.below (bdrew (Below.refl _ _)))
    replace hB := bdrew hB
    generalize yw3.drew = yw4 at *
    refine wpAnyH_take (i := 0) (v := ?_) rfl (by kernel_rfl) (by kernel_rfl) (by kernel_rfl) (fun _ _ _ h => h) (Or.inl ⟨by rfl, ?_⟩) hHeld ?_
    rotate_left
    · intro w hSw; (try dsimp only at hSw); go_simp; try (with_reducible rfl)
    try simp only [sq]
    refine wpAnyH_take (i := 1) (v := ?_) rfl (by kernel_rfl) (by kernel_rfl) (by kernel_rfl) (fun _ _ _ h => h) (Or.inl ⟨by rfl, ?_⟩) hHeld ?_
    rotate_left
    · intro w hSw; (try dsimp only at hSw); go_simp; try (with_reducible rfl)
    try simp only [sq]
    refine wpAnyH_take (i := 2) (v := ?_) rfl (by kernel_rfl) (by kernel_rfl) (by kernel_rfl) (fun _ _ _ h => h) (Or.inl ⟨by rfl, ?_⟩) hHeld ?_
    rotate_left
    · intro w hSw; (try dsimp only at hSw); go_simp; try (with_reducible rfl)
    try simp only [sq]
    refine wpAnyH_take (i := 3) (v := ?_) rfl (by kernel_rfl) (by kernel_rfl) (by kernel_rfl) (fun _ _ _ h => h) (Or.inl ⟨by rfl, ?_⟩) hHeld ?_
    rotate_left
    · intro w hSw; (try dsimp only at hSw); obtain ⟨_, _, _, _, _, _, _, _, _, _, _, _, _, _⟩ := cell7 (hSw); go_simp; try (with_reducible rfl)
    try simp only [sq]
    refine wpAnyH_take (i := 5) (v := ?_) rfl (by kernel_rfl) (by kernel_rfl) (by kernel_rfl) (fun _ _ _ h => h) (Or.inl ⟨by rfl, ?_⟩) hHeld ?_
    rotate_left
    · intro w hSw; (try dsimp only at hSw); go_simp; try (with_reducible rfl)
    try simp only [sq]
    refine wpAnyH_take (i := 6) (v := ?_) rfl (by kernel_rfl) (by kernel_rfl) (by kernel_rfl) (fun _ _ _ h => h) (Or.inl ⟨by rfl, ?_⟩) hHeld ?_
    rotate_left
    · intro w hSw; (try dsimp only at hSw); go_simp; try (with_reducible rfl)
    try simp only [sq]
    refine wpAnyH_take (i := 7) (v := ?_) rfl (by kernel_rfl) (by kernel_rfl) (by kernel_rfl) (fun _ _ _ h => h) (Or.inl ⟨by rfl, ?_⟩) hHeld ?_
    rotate_left
    · intro w hSw; (try dsimp only at hSw); obtain ⟨_, _, _, _, _, _, _, _, _, _, _, _, _, _⟩ := cell7 (hSw); go_simp; try (with_reducible rfl)
    try simp only [sq]
    refine wpAnyH_take (i := 9) (v := ?_) rfl (by kernel_rfl) (by kernel_rfl) (by kernel_rfl) (fun _ _ _ h => h) (Or.inl ⟨by rfl, ?_⟩) hHeld ?_
    rotate_left
    · intro w hSw; (try dsimp only at hSw); go_simp; try (with_reducible rfl)
    try simp only [sq]
    refine wpAnyH_take (i := 10) (v := ?_) rfl (by kernel_rfl) (by kernel_rfl) (by kernel_rfl) (fun _ _ _ h => h) (Or.inl ⟨by rfl, ?_⟩) hHeld ?_
    rotate_left
    · intro w hSw; (try dsimp only at hSw); go_simp; try (with_reducible rfl)
    try simp only [sq]
    refine wpAnyH_take (i := 11) (v := ?_) rfl (by kernel_rfl) (by kernel_rfl) (by kernel_rfl) (fun _ _ _ h => h) (Or.inl ⟨by rfl, ?_⟩) hHeld ?_
    rotate_left
    · intro w hSw; (try dsimp only at hSw); obtain ⟨_, _, _, _, _, _, _, _, _, _, _, _, _, _⟩ := cell7 (hSw); go_simp; try (with_reducible rfl)
    try simp only [sq]
    refine wpAnyH_ready (rs := [4]) (by kernel_rfl) (by simp) ?_
    refine AllReadyH.cons rfl (fun K hK => ?_) AllReadyH.nil
    try simp only [sq]
    go_simp
    go_at_call 19
    refine (DL.out _ hB).mono ?_
    rintro e yw5 ⟨rfl, hcl⟩
    replace gS := keepheap hcl gS
    replace HO := hid (HO.out.below hcl)
    replace hB := btrans hB hcl
    clear hcl
    go_wp2_with fail
    refine hK.out _ _ ?_ (fun hHeld => ?_)
    · exact gS
    clear hK K
    try simp only [sq]
    refine wpAnyH_ready (rs := [8]) (by kernel_rfl) (by simp) ?_
    refine AllReadyH.cons rfl (fun K hK => ?_) AllReadyH.nil
    try simp only [sq]
    go_simp
    go_at_call 19
    refine (DC.out _ hB).mono ?_
    rintro e yw6 ⟨rfl, hcl⟩
    replace gS := keepheap hcl gS
    replace HO := hid (HO.out.below hcl)
    replace hB := btrans hB hcl
    clear hcl
    go_wp2_with fail
    refine hK.out _ _ ?_ (fun hHeld => ?_)
    · exact gS
    clear hK K
    try simp only [sq]
    refine wpAnyH_ready (rs := [12]) (by kernel_rfl) (by simp) ?_
    refine AllReadyH.cons rfl (fun K hK => ?_) AllReadyH.nil
    try simp only [sq]
    go_simp
    go_at_call 19
    refine (DR.out _ hB).mono ?_
    rintro e yw7 ⟨rfl, hcl⟩
    replace gS := keepheap hcl gS
    replace HO := hid (HO.out.below hcl)
    replace hB := btrans hB hcl
    clear hcl
    go_wp2_with fail
    refine hK.out _ _ ?_ (fun hHeld => ?_)
    · exact gS
    clear hK K
    try simp only [sq]
    refine wpAnyH_ready (rs := [13]) (by kernel_rfl) (by simp) ?_
    refine AllReadyH.cons rfl (fun K hK => ?_) AllReadyH.nil
    try simp only [sq]
    go_simp
    refine hK.out _ _ ?_ (fun hHeld => ?_)
    · exact old_alloc gS
    clear hK K
    try simp only [sq]
    replace gS := (old_alloc (o' := .cells #[.string xl, .string xc, .string xr] 9) gS)
    have gQ := (new_alloc yw7 (yw7.heap.size) (.cells #[.string xl, .string xc, .string xr] 9) (by simp))
    have hal : Below yw7.heap.size yw7 (yw7.alloc (.cells #[.string xl, .string xc, .string xr] 9)) := (balloc (Below.refl _ _) (.cells #[.string xl, .string xc, .string xr] 9))
    replace HO := hid (HO.out.below hal)
    replace hB := btrans hB hal
    clear hal
    generalize (yw7.alloc (.cells #[.string xl, .string xc, .string xr] 9)) = yw8 at *
    generalize yw7.heap.size = Q at *
    refine wpAnyH_ready (rs := [14]) (by kernel_rfl) (by simp) ?_
    refine AllReadyH.cons rfl (fun K hK => ?_) AllReadyH.nil
    have hown := HO.out
    unfold Ow at hown
    have hxw : X0 ≤ yw8.heap.size := by have h1 := hown.lt X0 rfl; omega
    refine step_append_lies _ (by rfl) _ _ _ (by rfl) X0 9 i0 _ 1 16 Tryz.underlying42 hi0' hz0 hz1 hz2 rfl (by omega) _ 1 ([akw 8].map Value.string) (by rfl) hown ⟨Q, 0, none⟩ 3 3 [.string xl, .string xc, .string xr] (by rfl) (by rfl) (World.news_of_block (cs := #[.string xl, .string xc, .string xr]) (t := 9) (fr := (0, 0)) gQ) (by simp [Value.oneCell']) (by omega) (by unfold maxLen; omega) (by omega) hxw yw8.heap.size rfl ?_
    intro g1 c1 s1 hown2 hgrow hat hlt2
    have gSn : s1.heap[w.heap.size]? = some (.cells #[.int .i64 8, .int .i64 id, .int .i64 kd, .slice a ps.length cap, .int .i64 l, .int .i64 c, .int .i64 r] 36 (0, 0)) := (hgrow.block w.heap.size (lt_of_block gS) (fun e => by simp [Value.ownBlock] at e; omega)).trans gS
    have hb1 : Below w.heap.size w s1 := Below.grown hB hgrow hB.size (fun z hz => Nat.le_trans (Nat.le_of_lt hX0) (hown.lt z hz).1)
    replace HO : Hid (Ow s1 X0 (.slice (some ⟨g1, 0, none⟩) 4 c1) 4 ([akw 8, xl, xc, xr].map Value.string)) := hid hown2
    replace hB := hb1
    clear hb1 hown hown2 hgrow hat hlt2 hxw gS gQ
    have gS := gSn
    clear gSn
    refine hK.out _ _ ?_ (fun hHeld => ?_)
    · exact gS
    clear hK K
    try simp only [sq]
    refine wpAnyH_take (i := 15) (v := ?_) rfl (by kernel_rfl) (by kernel_rfl) (by kernel_rfl) (fun _ _ _ h => h) (Or.inl ⟨by rfl, ?_⟩) hHeld ?_
    rotate_left
    · intro w hSw; (try dsimp only at hSw); go_simp; try (with_reducible rfl)
    try simp only [sq]
    refine wpAnyH_done (by kernel_rfl) ?_ _
    clear hHeld
    go_wp2_with fail
    refine (join_ws [akw 8, xl, xc, xr] ans X0 g1 4 c1 _ rfl (by omega) (by omega) HO.out (by rw [HN.out]; simp [Lib.join_cons, Lib.joinTail, Lib.join_one, ba_list]) (by rw [HN.out]; (try simp only [ByteArray.size_append]); have : spc.size = 1 := rfl; omega)).mono ?_
    rintro e yw9 ⟨rfl, hcl⟩
    replace gS := keepheap hcl gS
    replace HO := hid (HO.out.below hcl)
    replace hB := btrans hB hcl
    clear hcl
    go_wp2_with fail
    go_ret
    exact ⟨rfl, hB⟩
  · skip
    have kc : yw2.cell? ⟨0, 18, none⟩ = some (.string (akw 9)) := AFm.out _ hB
    have hXX := lt_of_block gS
    obtain ⟨k1_0, k1_1, k1_2, k1_3, k1_4, k1_5, k1_6, _, _, _, _, _, _, _⟩ := cell7 gS
    have ak1_0 := (keepalloc k1_0 (.cells #[.string (akw 9)] 9))
    have ak1_1 := (keepalloc k1_1 (.cells #[.string (akw 9)] 9))
    have ak1_2 := (keepalloc k1_2 (.cells #[.string (akw 9)] 9))
    have ak1_3 := (keepalloc k1_3 (.cells #[.string (akw 9)] 9))
    have ak1_4 := (keepalloc k1_4 (.cells #[.string (akw 9)] 9))
    have ak1_5 := (keepalloc k1_5 (.cells #[.string (akw 9)] 9))
    have ak1_6 := (keepalloc k1_6 (.cells #[.string (akw 9)] 9))
    go_wp2_with fail
    clear k1_0 k1_1 k1_2 k1_3 k1_4 k1_5 k1_6 ak1_0 ak1_1 ak1_2 ak1_3 ak1_4 ak1_5 ak1_6
    replace gS := (old_alloc (o' := .cells #[.string (akw 9)] 9) gS)
    have gL := (new_alloc yw2 (yw2.heap.size) (.cells #[.string (akw 9)] 9) (by simp))
    have hal : Below yw2.heap.size yw2 (yw2.alloc (.cells #[.string (akw 9)] 9)) := (balloc (Below.refl _ _) (.cells #[.string (akw 9)] 9))
    replace hB := btrans hB hal
    clear hal
    generalize (yw2.alloc (.cells #[.string (akw 9)] 9)) = yw3 at *
    generalize yw2.heap.size = X0 at *
    clear kc AFm
    have hX0 : w.heap.size < X0 := hXX
    have HO : Hid (Ow yw3 X0 (.slice (some ⟨X0, 0, none⟩) 1 1) 1 ([akw 9].map Value.string)) := hid ⟨rfl, Or.inr ⟨X0, 1, #[.string (akw 9)], rfl, Nat.le_refl _, gL, Nat.le_refl _, by unfold maxLen; omega, rfl, rfl⟩⟩
    have hgG : w.heap.size < X0 := hX0
    clear gL
    refine (join_ws [akw 9] ans X0 X0 1 1 _ rfl (by omega) (by omega) HO.out (by rw [HN.out]; simp [Lib.join_cons, Lib.joinTail, Lib.join_one, ba_list]) (by rw [HN.out]; (try simp only [ByteArray.size_append]); have : spc.size = 1 := rfl; omega)).mono ?_
    rintro e yw4 ⟨rfl, hcl⟩
    replace gS := keepheap hcl gS
    replace HO := hid (HO.out.below hcl)
    replace hB := btrans hB hcl
    clear hcl
    go_wp2_with fail
    go_ret
    exact ⟨rfl, hB⟩
theorem impl_AskText (k : Int) (id kd : Int) (a : Option Addr) (cap : Nat) (ps : List (Int × Int)) (l c r : Int) (w : World) (hm : ps.length ≤ 1099511627776) (hc : ps.length ≤ cap) (hp : Pts w a ps) (hi0 : -9223372036854775808 ≤ id) (hi1 : id ≤ 9223372036854775807) (hl : (-9223372036854775808 ≤ l ∧ l ≤ 9223372036854775807) ∧ (-9223372036854775808 ≤ c ∧ c ≤ 9223372036854775807) ∧ -9223372036854775808 ≤ r ∧ r ≤ 9223372036854775807) (hio : ItoaA w) (hkw : KW w) (ht : Tab w) (haf : AF w) : Calls Tryz.prog 7 #[asv k id kd a ps.length cap l c r] w fun e w' => e = .returned (.string (askt k id kd ps l c r)) ∧ Below w.heap.size w w' := by
  cases hb : askB k id kd ps l c r
  · have e : askt k id kd ps l c r = ⟨#[]⟩ := by unfold askt; rw [hb]; rfl
    rw [e]
    have RI := hid (fun w' (h : Below w.heap.size w w') => impl_right k id kd a cap ps l c r w' hm hc (hp.below h) hi0 hi1 (ht.below h))
    rw [hb] at RI
    clear hb e hp ht hio hkw haf
    go_enter Tryz.func7, Tryz.ntmps7
    go_wp2_with fail
    refine (RI.out _ (balloc (Below.refl _ _) _)).mono ?_
    rintro e y0 ⟨rfl, hy0⟩
    go_wp2_with fail
    go_ret
    exact ⟨rfl, btrans (balloc (Below.refl _ _) _) hy0⟩
  · have hk : 0 ≤ k ∧ k ≤ 9 := by
      rcases Decidable.em (0 ≤ k ∧ k ≤ 9) with h | h
      · exact h
      · unfold askB at hb; rw [if_neg h] at hb; cases hb
    obtain ⟨m, rfl⟩ := Int.eq_ofNat_of_zero_le hk.1
    have hb2 := hb
    unfold askB at hb2
    rw [if_pos hk, Int.toNat_natCast] at hb2
    have := impl_askm m (by omega) id kd a cap ps l c r w hm hc hp hi0 hi1 hl hio hkw ht haf hb2
    unfold askt
    rw [if_pos hb, Int.toNat_natCast]
    exact this
end Go.Proofs.YtkifhdkebddnpaaGreatDoorR
