/- PyramidGet of both sides. -/
import Derived.Test.YtdhdfgobefapiaaDoorKg
namespace Go.Proofs.YtdhdfgobefapiaaDoor
open Go.RowKit
set_option linter.unusedSimpArgs false
set_option linter.unusedVariables false
theorem S_P : ∀ (k n : Nat), n < 4 ^ k → Tm.S k (Tm.P k n) + 2 * Tm.S k (Tm.P k (n / 2)) = n
  | 0, n, h => by
    have : n = 0 := by simpa using h
    subst this; rfl
  | k + 1, n, h => by
    have ih := S_P k (n / 4) (by rw [Nat.pow_succ] at h; omega)
    simp only [S_more, P_more]
    have e1 : (n % 2 + 2 * Tm.P k (n / 4)) % 2 = n % 2 := by omega
    have e2 : (n % 2 + 2 * Tm.P k (n / 4)) / 2 = Tm.P k (n / 4) := by omega
    have e3 : (n / 2 % 2 + 2 * Tm.P k (n / 2 / 4)) % 2 = n / 2 % 2 := by omega
    have e4 : (n / 2 % 2 + 2 * Tm.P k (n / 2 / 4)) / 2 = Tm.P k (n / 2 / 4) := by omega
    rw [e1, e2, e3, e4, show n / 2 / 4 = n / 4 / 2 by omega]
    omega
theorem P_S : ∀ (k x y : Nat), x < 2 ^ k → y < 2 ^ k → Tm.P k (Tm.S k x + 2 * Tm.S k y) = x ∧ Tm.P k ((Tm.S k x + 2 * Tm.S k y) / 2) = y
  | 0, x, y, hx, hy => by
    have : x = 0 := by simpa using hx
    have : y = 0 := by simpa using hy
    subst x y; exact ⟨rfl, rfl⟩
  | k + 1, x, y, hx, hy => by
    have ih := P_S k (x / 2) (y / 2) (by rw [Nat.pow_succ] at hx; omega) (by rw [Nat.pow_succ] at hy; omega)
    simp only [S_more, P_more]
    generalize Tm.S k (x / 2) = a at *
    generalize Tm.S k (y / 2) = b at *
    rw [show (x % 2 + 4 * a + 2 * (y % 2 + 4 * b)) / 4 = a + 2 * b by omega, ih.1, show (x % 2 + 4 * a + 2 * (y % 2 + 4 * b)) / 2 / 4 = (a + 2 * b) / 2 by omega, ih.2]
    omega
/-- A count is that of a right tile just where its key is the tile's. -/
theorem key_iff (k l c r : Int) (h : tok l c r = true) : (klev k = l ∧ kcol k = c ∧ krow k = r) ↔ k = tkey l c r := by
  have hok := h
  obtain ⟨m, rfl, hm, c0, c1, r0, r1⟩ := tok_parts h
  obtain ⟨_, _, _, q1, q2, _, _⟩ := sid_bounds m hm
  obtain ⟨x, rfl⟩ := Int.eq_ofNat_of_zero_le c0
  obtain ⟨y, rfl⟩ := Int.eq_ofNat_of_zero_le r0
  have hx : x < 2 ^ 16 := by omega
  have hy : y < 2 ^ 16 := by omega
  have hv : tkey m x y = 16 * ((Tm.S 16 x + 2 * Tm.S 16 y : Nat) : Int) + m := by simp [tkey, hok]
  have hS1 := Tm.S_lt 16 x
  have hS2 := Tm.S_lt 16 y
  obtain ⟨e1, e2⟩ := P_S 16 x y hx hy
  have e0 := Int.tmod_add_mul_tdiv k 16
  rw [hv]
  constructor
  · rintro ⟨h1, h2, h3⟩
    by_cases hin : kin k
    · unfold kcol at h2
      unfold krow at h3
      unfold klev at h1
      rw [if_pos hin] at h2 h3
      obtain ⟨i1, i2⟩ := hin
      have hsp := S_P 16 (k.tdiv 16).toNat (by omega)
      rw [show Tm.P 16 (k.tdiv 16).toNat = x by omega, show Tm.P 16 ((k.tdiv 16).toNat / 2) = y by omega] at hsp
      omega
    · unfold kcol at h2
      rw [if_neg hin] at h2
      omega
  · intro hk
    have hs : Tm.S 16 x + 2 * Tm.S 16 y ≤ 4294967295 := by omega
    generalize Tm.S 16 x + 2 * Tm.S 16 y = s at *
    clear hS1 hS2 hv hok h e0 q1 q2 c0 c1 r0 r1
    have hk0 : 0 ≤ k := by omega
    have d1 : k.tdiv 16 = (s : Int) := by rw [Int.tdiv_eq_ediv_of_nonneg hk0]; omega
    have d2 : k.tmod 16 = (m : Int) := by rw [Int.tmod_eq_emod_of_nonneg hk0]; omega
    have hin : kin k := by unfold kin; rw [d1]; omega
    refine ⟨d2, ?_, ?_⟩
    · unfold kcol; rw [if_pos hin, d1, Int.toNat_natCast]; exact congrArg _ e1
    · unfold krow; rw [if_pos hin, d1, Int.toNat_natCast]; exact congrArg _ e2
/-- The count of a tile, as the first of its key tells. -/
def pgv (ps : List (Int × Int)) (l c r : Int) : Int := if tok l c r = true then ((ps.find? (fun x => decide (x.1 = tkey l c r))).map (·.2)).getD 0 else 0
theorem pgv_yes {ps : List (Int × Int)} {l c r : Int} {i : Nat} (hi : i < ps.length) (ht : tok l c r = true) (hb : ∀ m, m < i → ¬ (ps.getD m (0, 0)).1 = tkey l c r) (h : (ps.getD i (0, 0)).1 = tkey l c r) : pgv ps l c r = (ps.getD i (0, 0)).2 := by
  have hg : ps.getD i (0, 0) = ps[i] := by simp [List.getD_eq_getElem?_getD, hi]
  have : ps.find? (fun x => decide (x.1 = tkey l c r)) = some ps[i] := by
    rw [List.find?_eq_some_iff_getElem]
    refine ⟨by rw [← hg]; simpa using h, i, hi, rfl, ?_⟩
    intro j hj
    have := hb j hj
    rw [show ps.getD j (0, 0) = ps[j] by simp [List.getD_eq_getElem?_getD, show j < ps.length by omega]] at this
    simpa using this
  unfold pgv
  rw [if_pos ht, this, hg]
  rfl
theorem pgv_no {ps : List (Int × Int)} {l c r : Int} (hb : tok l c r = true → ∀ m, m < ps.length → ¬ (ps.getD m (0, 0)).1 = tkey l c r) : pgv ps l c r = 0 := by
  unfold pgv
  by_cases ht : tok l c r = true
  · rw [if_pos ht]
    have : ps.find? (fun x => decide (x.1 = tkey l c r)) = none := by
      rw [List.find?_eq_none]
      intro x hx
      obtain ⟨m, hm, rfl⟩ := List.getElem_of_mem hx
      have := hb ht m hm
      rw [show ps.getD m (0, 0) = ps[m] by simp [List.getD_eq_getElem?_getD, hm]] at this
      simpa using this
    rw [this]; rfl
  · rw [if_neg ht]
theorem get_1 (k n : Int) (hk : i64ok k) (l c r : Int) (p : Nat) (w : World) (hw : w.heap[p]? = some (.cells #[.int .i64 l, .int .i64 c, .int .i64 r] 50 (0, 0))) : Calls Tryd.prog 26 #[.agg #[.int .i64 k, .int .i64 n], .pointer (some ⟨p, 0, none⟩)] w fun e w' => e = .returned (.bool (decide (klev k = l ∧ kcol k = c ∧ krow k = r))) ∧ Below w.heap.size w w' := by
  have HT := hid (fun W => impl_ctile k n hk W)
  generalize klev k = l' at *
  generalize kcol k = c' at *
  generalize krow k = r' at *
  have hB : Below w.heap.size w (w.alloc (.cells #[.int .i64 k, .int .i64 n] 65)) := balloc (Below.refl _ _) _
  have g0 := new_alloc w w.heap.size (.cells #[.int .i64 k, .int .i64 n] 65) rfl
  replace hw := keepheapK hB hw
  go_enter Tryd.func26, Tryd.ntmps26
  go_upto_region 1 with fail
  generalize w.alloc (.cells #[.int .i64 k, .int .i64 n] 65) = W at *
  obtain ⟨x0, x1⟩ := cell2 g0
  obtain ⟨y0, y1, y2, _⟩ := cellT hw
  obtain ⟨X, hX⟩ : ∃ X, X = w.heap.size := ⟨_, rfl⟩
  have HX := hid hX
  rw [← hX] at x0 x1 ⊢
  clear hX g0 hw
  by_cases e1 : l = l'
  · subst e1
    by_cases e2 : c = c'
    · subst e2
      by_cases e3 : r = r'
      · subst e3
        go_region_held3 (fun w' => w'.cell? ⟨X, 0, none⟩ = some (.int .i64 k) ∧ w'.cell? ⟨X, 1, none⟩ = some (.int .i64 n) ∧ w'.cell? ⟨p, 0, none⟩ = some (.int .i64 l) ∧ w'.cell? ⟨p, 1, none⟩ = some (.int .i64 c) ∧ w'.cell? ⟨p, 2, none⟩ = some (.int .i64 r)) ((go_split_ands; (repeat' apply And.intro) <;> (repeat (first | with_reducible assumption | with_reducible refine keepcell (by with_reducible assumption) ?_ | with_reducible refine keepdrew ?_ | with_reducible refine keepalloc ?_ _))))
          (first
            | (go_at_call 27; refine (HT.out _).mono ?_; rintro e w1 ⟨rfl, hb1⟩))
        go_wp2_with fail
        go_ret
        exact ⟨by simp, by (repeat (first | with_reducible exact Below.refl _ _ | with_reducible assumption | (with_reducible refine btrans ?_ (by with_reducible assumption)) | with_reducible refine bdrew ?_ | with_reducible refine bdrewN ?_ | with_reducible refine balloc ?_ _))⟩
      · have f3 : (r' == r) = false := by rw [beq_eq_false_iff_ne]; exact fun h => e3 h.symm
        go_region_held3 (fun w' => w'.cell? ⟨X, 0, none⟩ = some (.int .i64 k) ∧ w'.cell? ⟨X, 1, none⟩ = some (.int .i64 n) ∧ w'.cell? ⟨p, 0, none⟩ = some (.int .i64 l) ∧ w'.cell? ⟨p, 1, none⟩ = some (.int .i64 c) ∧ w'.cell? ⟨p, 2, none⟩ = some (.int .i64 r)) ((go_split_ands; (repeat' apply And.intro) <;> (repeat (first | with_reducible assumption | with_reducible refine keepcell (by with_reducible assumption) ?_ | with_reducible refine keepdrew ?_ | with_reducible refine keepalloc ?_ _))))
          (first
            | (go_at_call 27; refine (HT.out _).mono ?_; rintro e w1 ⟨rfl, hb1⟩))
        go_wp2_with fail
        go_ret
        exact ⟨by simp [show ¬ r' = r from fun h => e3 h.symm], by (repeat (first | with_reducible exact Below.refl _ _ | with_reducible assumption | (with_reducible refine btrans ?_ (by with_reducible assumption)) | with_reducible refine bdrew ?_ | with_reducible refine bdrewN ?_ | with_reducible refine balloc ?_ _))⟩
    · have f2 : (c' == c) = false := by rw [beq_eq_false_iff_ne]; exact fun h => e2 h.symm
      go_region_held3 (fun w' => w'.cell? ⟨X, 0, none⟩ = some (.int .i64 k) ∧ w'.cell? ⟨X, 1, none⟩ = some (.int .i64 n) ∧ w'.cell? ⟨p, 0, none⟩ = some (.int .i64 l) ∧ w'.cell? ⟨p, 1, none⟩ = some (.int .i64 c) ∧ w'.cell? ⟨p, 2, none⟩ = some (.int .i64 r)) ((go_split_ands; (repeat' apply And.intro) <;> (repeat (first | with_reducible assumption | with_reducible refine keepcell (by with_reducible assumption) ?_ | with_reducible refine keepdrew ?_ | with_reducible refine keepalloc ?_ _))))
        (first
          | (go_at_call 27; refine (HT.out _).mono ?_; rintro e w1 ⟨rfl, hb1⟩))
      go_wp2_with fail
      go_ret
      exact ⟨by simp [show ¬ c' = c from fun h => e2 h.symm], by (repeat (first | with_reducible exact Below.refl _ _ | with_reducible assumption | (with_reducible refine btrans ?_ (by with_reducible assumption)) | with_reducible refine bdrew ?_ | with_reducible refine bdrewN ?_ | with_reducible refine balloc ?_ _))⟩
  · have f1 : (l' == l) = false := by rw [beq_eq_false_iff_ne]; exact fun h => e1 h.symm
    go_region_held3 (fun w' => w'.cell? ⟨X, 0, none⟩ = some (.int .i64 k) ∧ w'.cell? ⟨X, 1, none⟩ = some (.int .i64 n) ∧ w'.cell? ⟨p, 0, none⟩ = some (.int .i64 l) ∧ w'.cell? ⟨p, 1, none⟩ = some (.int .i64 c) ∧ w'.cell? ⟨p, 2, none⟩ = some (.int .i64 r)) ((go_split_ands; (repeat' apply And.intro) <;> (repeat (first | with_reducible assumption | with_reducible refine keepcell (by with_reducible assumption) ?_ | with_reducible refine keepdrew ?_ | with_reducible refine keepalloc ?_ _))))
      (first
        | (go_at_call 27; refine (HT.out _).mono ?_; rintro e w1 ⟨rfl, hb1⟩))
    go_wp2_with fail
    go_ret
    exact ⟨by simp [show ¬ l' = l from fun h => e1 h.symm], by (repeat (first | with_reducible exact Below.refl _ _ | with_reducible assumption | (with_reducible refine btrans ?_ (by with_reducible assumption)) | with_reducible refine bdrew ?_ | with_reducible refine bdrewN ?_ | with_reducible refine balloc ?_ _))⟩
set_option maxHeartbeats 2000000 in
theorem index_get (a : Option Addr) (cap : Nat) (ps : List (Int × Int)) (hk : KsIn ps) (l c r : Int) (p : Nat) (w : World) (hm : ps.length ≤ 1099511627776) (hc : ps.length ≤ cap) (h : Pts w a ps) (hw : w.heap[p]? = some (.cells #[.int .i64 l, .int .i64 c, .int .i64 r] 50 (0, 0))) : Calls Tryd.prog 25 #[.slice a ps.length cap, .func (.func 26) #[] #[.pointer (some ⟨p, 0, none⟩)]] w fun e w' => ∃ j : Int, e = .returned (.int .i64 j) ∧ Hid ((j = -1 ∧ ∀ m, m < ps.length → ¬ (klev (ps.getD m (0, 0)).1 = l ∧ kcol (ps.getD m (0, 0)).1 = c ∧ krow (ps.getD m (0, 0)).1 = r)) ∨ ∃ i : Nat, j = i ∧ i < ps.length ∧ (∀ m, m < i → ¬ (klev (ps.getD m (0, 0)).1 = l ∧ kcol (ps.getD m (0, 0)).1 = c ∧ krow (ps.getD m (0, 0)).1 = r)) ∧ (klev (ps.getD i (0, 0)).1 = l ∧ kcol (ps.getD i (0, 0)).1 = c ∧ krow (ps.getD i (0, 0)).1 = r)) ∧ Below w.heap.size w w' := by
  have HR := hid h
  have HW := hid hw
  have HK := hid hk
  obtain ⟨Q, hQ⟩ : ∃ Q : Int → Prop, ∀ k, Q k = (klev k = l ∧ kcol k = c ∧ krow k = r) := ⟨_, fun _ => rfl⟩
  simp only [← hQ]
  have HQ := hid hQ
  obtain ⟨n, hn⟩ : ∃ n, n = ps.length := ⟨_, rfl⟩
  have HN := hid hn.symm
  rw [← hn] at hm hc ⊢
  clear hn h hw hk hQ
  go_enter Tryd.func25, Tryd.ntmps25
  go_wp2_with fail
  go_loopw [8] (fun ti wr => ∃ i : Nat, ti = .int .i64 i ∧ i ≤ n ∧ Hid (∀ m, m < i → ¬ Q (ps.getD m (0, 0)).1) ∧ Hid (Below w.heap.size w wr)) (fun ti _ => n - (intOf ti).toNat)
  case atStart => exact ⟨0, rfl, Nat.zero_le _, hid (fun m hh => absurd hh (by omega)), hid (Below.refl _ _)⟩
  case round =>
    obtain ⟨i, rfl, hi, HA, HBW⟩ := hrel
    by_cases hlt : i < n
    · have d1 : (i : Int) < (n : Int) := by omega
      have d0 : (0 : Int) ≤ (i : Int) := by omega
      have hir : i < ps.length := by rw [HN.out]; exact hlt
      obtain ⟨g, o, rfl, hbs, hall⟩ : ∃ b o, a = some ⟨b, o, none⟩ ∧ b < w.heap.size ∧ PtsAt w b o ps := by
        rcases HR.out with h | h
        · rw [h] at hir; simp at hir
        · exact h
      obtain ⟨k0, k1⟩ := hall i hir
      clear hall
      replace k0 := keepcell HBW.out k0
      replace k1 := keepcell HBW.out k1
      have HX : Hid (¬ Q (ps.getD i (0, 0)).1 → ∀ m, m < i + 1 → ¬ Q (ps.getD m (0, 0)).1) := hid (fun e m hm => by
        by_cases e2 : m = i
        · subst e2; exact e
        · exact HA.out m (by omega))
      have HKI := hid (HK.out i hir)
      have HQI := hid (HQ.out (ps.getD i (0, 0)).1)
      generalize hkk : (ps.getD i (0, 0)).1 = kk at *
      generalize (ps.getD i (0, 0)).2 = nn at *
      have HKK := hid hkk
      clear hkk
      have HE := hid (fun (W : World) h => get_1 kk nn HKI.out l c r p W h)
      have HWW := hid (keepheapK HBW.out HW.out)
      go_wp2_with fail
      refine (HE.out _ HWW.out).mono ?_
      rintro e z ⟨rfl, hz⟩
      have HBZ := hid (btrans HBW.out hz)
      by_cases hq : klev kk = l ∧ kcol kk = c ∧ krow kk = r
      · have hd : decide (klev kk = l ∧ kcol kk = c ∧ krow kk = r) = true := by simpa using hq
        rw [hd]
        have HQT : Hid (Q kk) := hid (by rw [HQI.out]; exact hq)
        clear hd hq
        go_wp2_with fail
        go_ret
        exact ⟨_, rfl, hid (.inr ⟨i, rfl, hlt, HA.out, by rw [HKK.out]; exact HQT.out⟩), HBZ.out⟩
      · have hd : decide (klev kk = l ∧ kcol kk = c ∧ krow kk = r) = false := by simpa using hq
        rw [hd]
        have HQT : Hid (¬ Q kk) := hid (by rw [HQI.out]; exact hq)
        clear hd hq
        go_wp2_with fail
        go_roundw
        case rel => exact ⟨i + 1, by go_num, by omega, hid (HX.out HQT.out), HBZ⟩
        case measure => simp [intOf]; omega
    · have hin : i = n := by omega
      have HY : Hid (∀ m, m < n → ¬ Q (ps.getD m (0, 0)).1) := hid (fun m hm => HA.out m (by omega))
      clear hin
      go_wp2_with fail
      go_ret
      exact ⟨_, rfl, hid (.inl ⟨rfl, HY.out⟩), HBW.out⟩
set_option maxHeartbeats 2000000 in
theorem impl_PyramidGet (a : Option Addr) (cap : Nat) (ps : List (Int × Int)) (l c r : Int) (w : World) (ht : Tab w) (hk : KsIn ps) (hm : ps.length ≤ 1099511627776) (hc : ps.length ≤ cap) (h : Pts w a ps) : Calls Tryd.prog 15 #[.slice a ps.length cap, .agg #[.int .i64 l, .int .i64 c, .int .i64 r]] w fun e w' => e = .returned (.int .i64 (pgv ps l c r)) ∧ Below w.heap.size w w' := by
  have hB : Below w.heap.size w (w.alloc (.cells #[.int .i64 l, .int .i64 c, .int .i64 r] 50)) := balloc (Below.refl _ _) _
  have g0 := new_alloc w w.heap.size (.cells #[.int .i64 l, .int .i64 c, .int .i64 r] 50) rfl
  have HT := hid ht
  have HR := hid h
  have HIX := hid (fun (W : World) (hb : Below w.heap.size w W) p hw => index_get a cap ps hk l c r p W hm hc (h.below hb) hw)
  have HO := hid (fun W (h : Tab W) => impl_tileok l c r W h)
  have HNO : Hid ((tok l c r = true → ∀ m, m < ps.length → ¬ (ps.getD m (0, 0)).1 = tkey l c r) → pgv ps l c r = 0) := hid pgv_no
  have HYE : Hid (∀ i, i < ps.length → tok l c r = true → (∀ m, m < i → ¬ (ps.getD m (0, 0)).1 = tkey l c r) → (ps.getD i (0, 0)).1 = tkey l c r → pgv ps l c r = (ps.getD i (0, 0)).2) := hid (fun i hi h1 h2 h3 => pgv_yes hi h1 h2 h3)
  have HKI : Hid (tok l c r = true → ∀ k, (klev k = l ∧ kcol k = c ∧ krow k = r) ↔ k = tkey l c r) := hid (fun h k => key_iff k l c r h)
  generalize pgv ps l c r = v at *
  obtain ⟨b, hb⟩ : ∃ b, b = tok l c r := ⟨_, rfl⟩
  rw [← hb] at HO HNO HYE HKI
  clear hb ht hk h
  obtain ⟨n, hn⟩ : ∃ n, n = ps.length := ⟨_, rfl⟩
  have HN := hid hn.symm
  rw [← hn] at hm hc HIX HNO HYE ⊢
  clear hn
  go_enter Tryd.func15, Tryd.ntmps15
  go_upto_region 1 with fail
  have HB := hid hB
  clear hB
  generalize w.alloc (.cells #[.int .i64 l, .int .i64 c, .int .i64 r] 50) = W at *
  have HG := hid g0
  obtain ⟨X, hX⟩ : ∃ X, X = w.heap.size := ⟨_, rfl⟩
  rw [← hX] at g0 HG ⊢
  clear hX
  go_wp2_with fail
  refine (HIX.out _ HB.out _ HG.out).mono ?_
  rintro e z ⟨j, rfl, HJ, hz⟩
  obtain ⟨y0, y1, y2, _⟩ := cellT (keepheapK hz g0)
  have HBZ := hid (btrans HB.out hz)
  have HTZ := hid (HT.out.below HBZ.out)
  clear g0
  rcases HJ.out with ⟨rfl, hno⟩ | ⟨i, rfl, hi, hbf, hat⟩
  · have HV : Hid (v = 0) := hid (HNO.out (fun hb m hm => fun h => hno m hm ((HKI.out hb _).2 h)))
    clear hno
    go_wp2_with fail
    go_ret
    exact ⟨by rw [HV.out]; rfl, HBZ.out⟩
  · have hir : i < ps.length := by rw [HN.out]; exact hi
    obtain ⟨g, o, rfl, hbs, hall⟩ : ∃ b o, a = some ⟨b, o, none⟩ ∧ b < w.heap.size ∧ PtsAt w b o ps := by
      rcases HR.out with h | h
      · rw [h] at hir; simp at hir
      · exact h
    obtain ⟨k0, k1⟩ := hall i hir
    replace k1 := keepcell HBZ.out k1
    have hi0 : (0 : Int) ≤ (i : Int) := by omega
    have hi1 : (i : Int) < (n : Int) := by omega
    have hi2 : ¬ ((i : Int) < 0) := by omega
    have HVY : Hid (b = true → v = (ps.getD i (0, 0)).2) := hid (fun hb => HYE.out i hi hb (fun m hm h => hbf m hm ((HKI.out hb _).2 h)) ((HKI.out hb _).1 hat))
    have HVN : Hid (b = false → v = 0) := hid (fun hb => HNO.out (fun h => by rw [hb] at h; cases h))
    clear hall hbf hat HJ
    generalize (ps.getD i (0, 0)).2 = nn at *
    go_wp2_with fail
    refine (HO.out _ HTZ.out).mono ?_
    rintro e z2 ⟨rfl, hz2⟩
    have hb2 : Below z.heap.size z z2 := by rw [hz2]; exact balloc (Below.refl _ _) _
    clear hz2
    replace k1 := keepcell hb2 k1
    have HBZ2 := hid (btrans HBZ.out hb2)
    cases b
    · have HV := hid (HVN.out rfl)
      go_wp2_with fail
      go_ret
      exact ⟨by rw [HV.out]; rfl, HBZ2.out⟩
    · have HV := hid (HVY.out rfl)
      go_wp2_with fail
      go_ret
      exact ⟨by rw [HV.out]; rfl, HBZ2.out⟩
set_option maxHeartbeats 2000000 in
theorem spec_PyramidGet (a : Option Addr) (cap : Nat) (ps : List (Int × Int)) (l c r : Int) (w : World) (hm : ps.length ≤ 1099511627776) (hc : ps.length ≤ cap) (h : Pts w a ps) : Calls Tryd.prog 12 #[.slice a ps.length cap, .agg #[.int .i64 l, .int .i64 c, .int .i64 r]] w fun e w' => e = .returned (.int .i64 (pgv ps l c r)) ∧ Below w.heap.size w w' := by
  have hB : Below w.heap.size w (w.alloc (.cells #[.int .i64 l, .int .i64 c, .int .i64 r] 50)) := balloc (Below.refl _ _) _
  have g0 := new_alloc w w.heap.size (.cells #[.int .i64 l, .int .i64 c, .int .i64 r] 50) rfl
  have HR := hid h
  have HO := hid (fun W => spec_tileok l c r W)
  have HKY := hid (fun W => spec_tilekey l c r W)
  have HNO : Hid ((tok l c r = true → ∀ m, m < ps.length → ¬ (ps.getD m (0, 0)).1 = tkey l c r) → pgv ps l c r = 0) := hid pgv_no
  have HYE : Hid (∀ i, i < ps.length → tok l c r = true → (∀ m, m < i → ¬ (ps.getD m (0, 0)).1 = tkey l c r) → (ps.getD i (0, 0)).1 = tkey l c r → pgv ps l c r = (ps.getD i (0, 0)).2) := hid (fun i hi h1 h2 h3 => pgv_yes hi h1 h2 h3)
  generalize pgv ps l c r = v at *
  generalize tkey l c r = key at *
  obtain ⟨b, hb⟩ : ∃ b, b = tok l c r := ⟨_, rfl⟩
  rw [← hb] at HO HNO HYE
  clear hb h
  obtain ⟨n, hn⟩ : ∃ n, n = ps.length := ⟨_, rfl⟩
  have HN := hid hn.symm
  rw [← hn] at hm hc HNO HYE ⊢
  clear hn
  go_enter Tryd.func12, Tryd.ntmps12
  go_upto_region 1 with fail
  have HB := hid hB
  clear hB
  generalize w.alloc (.cells #[.int .i64 l, .int .i64 c, .int .i64 r] 50) = W at *
  have HG := hid g0
  obtain ⟨X, hX⟩ : ∃ X, X = w.heap.size := ⟨_, rfl⟩
  rw [← hX] at g0 HG ⊢
  clear hX g0
  go_wp2_with fail
  go_loopw [5] (fun ti wr => ∃ i : Nat, ti = .int .i64 i ∧ i ≤ n ∧ Hid (∀ m, m < i → ¬ (ps.getD m (0, 0)).1 = key) ∧ Hid (Below W.heap.size W wr)) (fun ti _ => n - (intOf ti).toNat)
  case atStart => exact ⟨0, rfl, Nat.zero_le _, hid (fun m hh => absurd hh (by omega)), hid (Below.refl _ _)⟩
  case round =>
    obtain ⟨i, rfl, hi, HA, HBW⟩ := hrel
    have HBT := hid (btrans HB.out HBW.out)
    by_cases hlt : i < n
    · have d1 : (i : Int) < (n : Int) := by omega
      have d0 : (0 : Int) ≤ (i : Int) := by omega
      have hir : i < ps.length := by rw [HN.out]; exact hlt
      obtain ⟨g, o, rfl, hbs, hall⟩ : ∃ b o, a = some ⟨b, o, none⟩ ∧ b < w.heap.size ∧ PtsAt w b o ps := by
        rcases HR.out with h | h
        · rw [h] at hir; simp at hir
        · exact h
      obtain ⟨k0, k1⟩ := hall i hir
      clear hall
      replace k0 := keepcell HBT.out k0
      replace k1 := keepcell HBT.out k1
      obtain ⟨y0, y1, y2, _⟩ := cellT (keepheapK HBW.out HG.out)
      have HX : Hid (¬ (ps.getD i (0, 0)).1 = key → ∀ m, m < i + 1 → ¬ (ps.getD m (0, 0)).1 = key) := hid (fun e m hm => by
        by_cases e2 : m = i
        · subst e2; exact e
        · exact HA.out m (by omega))
      have HVN : Hid (b = false → v = 0) := hid (fun hb => HNO.out (fun h => by rw [hb] at h; cases h))
      have HVY : Hid (b = true → (ps.getD i (0, 0)).1 = key → v = (ps.getD i (0, 0)).2) := hid (fun hb hk => HYE.out i hlt hb HA.out hk)
      generalize (ps.getD i (0, 0)).1 = kk at *
      generalize (ps.getD i (0, 0)).2 = nn at *
      go_wp2_with fail
      refine (HO.out _).mono ?_
      rintro e z ⟨rfl, hz⟩
      have hb2 : Below wr.heap.size wr z := by rw [hz]; exact balloc (Below.refl _ _) _
      clear hz
      replace k0 := keepcell hb2 k0
      replace k1 := keepcell hb2 k1
      replace y0 := keepcell hb2 y0
      replace y1 := keepcell hb2 y1
      replace y2 := keepcell hb2 y2
      have HBZ := hid (btrans HBW.out hb2)
      have HBZ2 := hid (btrans HBT.out hb2)
      cases b
      · have HV := hid (HVN.out rfl)
        go_wp2_with fail
        go_ret
        exact ⟨by rw [HV.out]; rfl, HBZ2.out⟩
      · have HV := hid (HVY.out rfl)
        go_upto_region 4 with fail
        go_cut [23] from 16 to 23 (fun t wx => t = .bool (kk == key) ∧ Hid (Below z.heap.size z wx))
        case first =>
          go_region_held3 (fun w' => w'.cell? ⟨g, o + i * 2, none⟩ = some (.int .i64 kk) ∧ w'.cell? ⟨X, 0, none⟩ = some (.int .i64 l) ∧ w'.cell? ⟨X, 1, none⟩ = some (.int .i64 c) ∧ w'.cell? ⟨X, 2, none⟩ = some (.int .i64 r)) ((go_split_ands; (repeat' apply And.intro) <;> (repeat (first | with_reducible assumption | with_reducible refine keepcell (by with_reducible assumption) ?_ | with_reducible refine keepdrew ?_ | with_reducible refine keepalloc ?_ _))))
            (first
              | (go_at_call 21; refine (HKY.out _).mono ?_; rintro e w1 ⟨rfl, hb1⟩))
          go_wp2_with fail
          go_meet
          exact ⟨rfl, hid (by (repeat (first | with_reducible exact Below.refl _ _ | with_reducible assumption | (with_reducible refine btrans ?_ (by with_reducible assumption)) | with_reducible refine bdrew ?_ | with_reducible refine bdrewN ?_ | with_reducible refine balloc ?_ _)))⟩
        case rest =>
          obtain ⟨rfl, HWX⟩ := hcut
          replace k1 := keepcell HWX.out k1
          replace HBZ := hid (btrans HBZ.out HWX.out)
          replace HBZ2 := hid (btrans HBZ2.out HWX.out)
          by_cases he : kk = key
          · have hd : (kk == key) = true := by simpa using he
            have HVV := hid (HV.out he)
            rw [hd]
            clear hd he
            go_wp2_with fail
            go_ret
            exact ⟨by rw [HVV.out]; rfl, HBZ2.out⟩
          · have hd : (kk == key) = false := by simpa using he
            have HXX := hid (HX.out he)
            rw [hd]
            clear hd he
            go_wp2_with fail
            go_roundw
            case rel => exact ⟨i + 1, by go_num, by omega, HXX, HBZ⟩
            case measure => simp [intOf]; omega
    · have hin : i = n := by omega
      have HY : Hid (v = 0) := hid (HNO.out (fun _ m hm => HA.out m (by omega)))
      clear hin
      go_wp2_with fail
      go_ret
      exact ⟨by rw [HY.out]; rfl, HBT.out⟩
end Go.Proofs.YtdhdfgobefapiaaDoor
