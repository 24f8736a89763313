/- A change's place among those of a transaction. -/
import Derived.Test.YtnajddjalagmoaaGreatDoorSb
import Derived.Test.YtnajddjalagmoaaGreatDoorRwC
namespace Go.Proofs.YtnajddjalagmoaaGreatDoor
open Go.RowKit
set_option linter.unusedSimpArgs false
set_option linter.unusedVariables false
def idc (cs : List Ch) (i : Nat) : Int := (cs.getD i (0, false, 0, [])).1
theorem idc_at {cs : List Ch} {i : Nat} (h : i < cs.length) : idc cs i = cs[i].1 := by
  unfold idc
  rw [List.getD_eq_getElem?_getD, List.getElem?_eq_getElem h]; rfl
theorem cmi_neg (a b : Int) : cmi a b < 0 ↔ a < b := by
  unfold cmi; split
  · constructor <;> intro <;> omega
  · split <;> constructor <;> intro <;> omega
theorem cmi_zero (a b : Int) : cmi a b = 0 ↔ a = b := by
  unfold cmi; split
  · constructor <;> intro <;> omega
  · split <;> constructor <;> intro <;> omega
set_option maxHeartbeats 1000000 in
theorem place_1 (x : Ch) (a' : Option Addr) (cap' : Nat) (id : Int) (w : World) : Calls Tryz.prog 123 #[chv x a' cap', .int .i64 id] w fun e w' => e = .returned (.int .i64 (cmi x.1 id)) ∧ Below w.heap.size w w' := by
  have CC := hid (fun W => compare_c x.1 id W)
  obtain ⟨c0, g0, k0, ps⟩ := x
  unfold chv
  simp only at *
  generalize ps.length = np at *
  generalize cmi c0 id = q at *
  have hB : Below w.heap.size w (w.alloc (.cells #[.int .i64 c0, .bool g0, .int .i64 k0, .slice a' np cap'] 66)) := balloc (Below.refl _ _) _
  have gx := new_alloc w w.heap.size (.cells #[.int .i64 c0, .bool g0, .int .i64 k0, .slice a' np cap'] 66) rfl
  go_enter Tryz.func123, Tryz.ntmps123
  go_upto_region 1 with fail
  generalize w.alloc (.cells #[.int .i64 c0, .bool g0, .int .i64 k0, .slice a' np cap'] 66) = W at *
  obtain ⟨⟨x0, x1, x2, x3⟩, _⟩ := cellk4 gx
  clear gx
  go_wp2_with fail
  refine (CC.out _).mono ?_
  rintro e z ⟨rfl, hz⟩
  replace hz := hz.symm
  subst hz
  go_wp2_with fail
  go_ret
  exact ⟨rfl, hB⟩
set_option maxRecDepth 100000 in
set_option maxHeartbeats 2000000 in
theorem bsearch {N : Nat → Prop} {M : Nat} (a : Option Addr) (cap : Nat) (cs : List Ch) (id : Int) (w : World) (hm : cs.length ≤ 1099511627776) (h : Chs N M w a cs) (ha : ∀ i j, i < j → j < cs.length → idc cs i < idc cs j) : Calls Tryz.prog 122 #[.slice a cs.length cap, .int .i64 id, .func (.func 123) #[] #[]] w fun e w' => ∃ i : Nat, e = .returned (.tuple #[.int .i64 i, .bool (decide (i < cs.length) && decide (idc cs i = id))]) ∧ i ≤ cs.length ∧ (∀ t, t < i → idc cs t < id) ∧ (∀ t, i ≤ t → t < cs.length → id ≤ idc cs t) ∧ Below w.heap.size w w' := by
  have HR := hid h
  have HA := hid ha
  clear h ha
  obtain ⟨n, hn⟩ : ∃ n, n = cs.length := ⟨_, rfl⟩
  have HN := hid hn.symm
  rw [← hn] at hm ⊢
  clear hn
  go_enter Tryz.func122, Tryz.ntmps122
  go_wp2_with fail
  go_loopw [9, 10] (fun t9 t10 wr => ∃ lo hi : Nat, t9 = .int .i64 lo ∧ t10 = .int .i64 hi ∧ lo ≤ hi ∧ hi ≤ n ∧ Hid (∀ t, t < lo → idc cs t < id) ∧ Hid (∀ t, hi ≤ t → t < n → id ≤ idc cs t) ∧ Hid (Below w.heap.size w wr)) (fun t9 t10 _ => (intOf t10).toNat - (intOf t9).toNat)
  case atStart => exact ⟨0, n, rfl, rfl, Nat.zero_le _, Nat.le_refl _, hid (fun t ht => absurd ht (Nat.not_lt_zero _)), hid (fun t h1 h2 => by omega), hid (Below.refl _ _)⟩
  case round =>
    obtain ⟨lo, hi, rfl, rfl, hlh, hin, HLO, HHI, HBW⟩ := hrel
    by_cases hlt : lo < hi
    · have c1 : (lo : Int) < (hi : Int) := by omega
      have hmn : ((lo + hi) / 2) < n := by omega
      have hmr : ((lo + hi) / 2) < cs.length := by rw [HN.out]; exact hmn
      obtain ⟨b, o, rfl, hbs, a', cap', k0, k1, k2, q1, q2, q3, q4, _⟩ := (HR.out.below HBW.out).at ((lo + hi) / 2) hmr
      have HP := hid (fun W => place_1 cs[(lo + hi) / 2] a' cap' id W)
      have HID := hid (idc_at hmr)
      unfold chv at HP
      clear q2 q3 q4
      generalize cs[(lo + hi) / 2].1 = x0 at *
      generalize cs[(lo + hi) / 2].2.1 = x1 at *
      generalize cs[(lo + hi) / 2].2.2.1 = x2 at *
      generalize cs[(lo + hi) / 2].2.2.2.length = np at *
      by_cases hy : x0 < id
      · have hy' : cmi x0 id < 0 := (cmi_neg _ _).2 hy
        have HLO2 : Hid (∀ t, t < ((lo + hi) / 2) + 1 → idc cs t < id) := hid (fun t ht => by
          by_cases e : t = ((lo + hi) / 2)
          · subst e; rw [HID.out]; exact hy
          · have := HA.out t ((lo + hi) / 2) (by omega) hmr; rw [HID.out] at this; omega)
        clear HLO hy
        go_wp2_with fail
        refine (HP.out _).mono ?_
        rintro e z ⟨rfl, hz⟩
        have HBz := hid (btrans HBW.out hz)
        clear hz HBW k0 k1 k2 q1 HP
        go_wp2_with fail
        go_roundw
        case rel => exact ⟨((lo + hi) / 2) + 1, hi, by rw [show ((lo : Int) + (hi : Int)) / 2 + 1 = (((lo + hi) / 2 + 1 : Nat) : Int) by omega], rfl, by omega, hin, HLO2, HHI, HBz⟩
        case measure => simp [intOf]; omega
      · have hy' : 0 ≤ cmi x0 id := by have := cmi_neg x0 id; omega
        have HHI2 : Hid (∀ t, ((lo + hi) / 2) ≤ t → t < n → id ≤ idc cs t) := hid (fun t h1 h2 => by
          by_cases e : t = ((lo + hi) / 2)
          · subst e; rw [HID.out]; omega
          · have := HA.out ((lo + hi) / 2) t (by omega) (by rw [HN.out]; exact h2); rw [HID.out] at this; omega)
        clear HHI hy
        go_wp2_with fail
        refine (HP.out _).mono ?_
        rintro e z ⟨rfl, hz⟩
        have HBz := hid (btrans HBW.out hz)
        clear hz HBW k0 k1 k2 q1 HP
        go_wp2_with fail
        go_roundw
        case rel => exact ⟨lo, ((lo + hi) / 2), rfl, by rw [show ((lo : Int) + (hi : Int)) / 2 = (((lo + hi) / 2 : Nat) : Int) by omega], by omega, by omega, HLO, HHI2, HBz⟩
        case measure => simp [intOf]; omega
    · have c1 : (hi : Int) ≤ (lo : Int) := by omega
      obtain rfl : hi = lo := by omega
      by_cases hn2 : hi < n
      · have hmr : hi < cs.length := by rw [HN.out]; exact hn2
        have c2 : (hi : Int) < (n : Int) := by omega
        obtain ⟨b, o, rfl, hbs, a', cap', k0, k1, k2, q1, q2, q3, q4, _⟩ := (HR.out.below HBW.out).at hi hmr
        have HP := hid (fun W => place_1 cs[hi] a' cap' id W)
        have HID := hid (idc_at hmr)
        unfold chv at HP
        clear q2 q3 q4
        generalize cs[hi].1 = x0 at *
        generalize cs[hi].2.1 = x1 at *
        generalize cs[hi].2.2.1 = x2 at *
        generalize cs[hi].2.2.2.length = np at *
        have HF : Hid ((decide (hi < n) && decide (idc cs hi = id)) = (cmi x0 id == 0)) := hid (by
          rw [HID.out, show (cmi x0 id == 0) = decide (cmi x0 id = 0) from rfl]
          by_cases e : x0 = id
          · simp [e, hn2, cmi_zero]
          · simp [e, hn2, cmi_zero])
        go_wp2_with fail
        refine (HP.out _).mono ?_
        rintro e z ⟨rfl, hz⟩
        have HBz := hid (btrans HBW.out hz)
        clear hz HBW k0 k1 k2 q1 HP
        go_wp2_with fail
        go_ret2
        exact ⟨hi, by rw [HF.out]; rfl, hin, HLO.out, HHI.out, HBz.out⟩
      · have c2 : (n : Int) ≤ (hi : Int) := by omega
        go_wp2_with fail
        go_ret2
        exact ⟨hi, by simp [hn2], hin, HLO.out, HHI.out, HBW.out⟩
set_option maxHeartbeats 1000000 in
theorem place_c {N : Nat → Prop} {M : Nat} (a : Option Addr) (cap : Nat) (cs : List Ch) (id : Int) (w : World) (hm : cs.length ≤ 1099511627776) (h : Chs N M w a cs) (ha : ∀ i j, i < j → j < cs.length → idc cs i < idc cs j) : Calls Tryz.prog 95 #[.slice a cs.length cap, .int .i64 id] w fun e w' => ∃ i : Nat, e = .returned (.tuple #[.int .i64 i, .bool (decide (i < cs.length) && decide (idc cs i = id))]) ∧ i ≤ cs.length ∧ (∀ t, t < i → idc cs t < id) ∧ (∀ t, i ≤ t → t < cs.length → id ≤ idc cs t) ∧ Below w.heap.size w w' := by
  have HB := hid (bsearch a cap cs id w hm h ha)
  clear h ha
  generalize cs.length = n at *
  go_enter Tryz.func95, Tryz.ntmps95
  go_wp2_with fail
  refine HB.out.mono ?_
  rintro e z ⟨i, rfl, h1, h2, h3, h4⟩
  have H2 := hid h2
  have H3 := hid h3
  have H4 := hid h4
  clear h2 h3 h4 HB
  go_wp2_with fail
  go_ret2
  exact ⟨i, rfl, h1, H2.out, H3.out, H4.out⟩
end Go.Proofs.YtnajddjalagmoaaGreatDoor
