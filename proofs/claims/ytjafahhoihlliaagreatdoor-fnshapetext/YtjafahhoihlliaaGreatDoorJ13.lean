/- Texts of stores, joined: GetM, Get, Get2. -/
import Derived.Test.YtjafahhoihlliaaGreatDoorJ11
import Derived.Test.YtjafahhoihlliaaGreatDoorJ12
import Derived.Lib.Strings
import Derived.Lib.RabinKarpLaws
import Derived.Deep.RegionWith
set_option linter.unusedSimpArgs false
set_option linter.unusedVariables false
namespace Go.Proofs.YtjafahhoihlliaaGreatDoor
/-- What groups of seven bits come to, the lowest first. -/
def val : List Nat → Nat
  | [] => 0
  | d :: t => d % 128 + 128 * val t
theorem val_snoc (l : List Nat) (d : Nat) : val (l ++ [d]) = val l + d % 128 * 128 ^ l.length := by
  induction l with
  | nil => simp [val]
  | cons a t ih => simp only [List.cons_append, val, ih, List.length_cons, Nat.pow_succ, Nat.mul_add]; rw [Nat.mul_left_comm, Nat.mul_comm 128 (128 ^ t.length), ]; omega
theorem val_lt (l : List Nat) : val l < 128 ^ l.length := by
  induction l with
  | nil => simp [val]
  | cons a t ih => simp only [val, List.length_cons, Nat.pow_succ]; omega
theorem G_canon : ∀ (f : Nat) (l : List Nat) (d : Nat), (∀ x ∈ l, 128 ≤ x ∧ x < 256) → d < 128 → (l = [] ∨ d ≠ 0) → l.length + 1 ≤ f → G f (val (l ++ [d])) = (l ++ [d]).map (fun (x : Nat) => (x : Int))
  | 0, _, _, _, _, _, h => by omega
  | f + 1, [], d, _, hd, _, _ => by
    have e : val ([] ++ [d]) = d := by simp [val]; omega
    rw [e, G_last _ _ (by omega)]; rfl
  | f + 1, a :: l, d, hl, hd, hc, hf => by
    have hd0 : d ≠ 0 := by rcases hc with h | h; · cases h
                           · exact h
    have ha := hl a (by simp)
    have ih := G_canon f l d (fun x hx => hl x (by simp [hx])) hd (.inr hd0) (by simp at hf; omega)
    have hpos : 1 ≤ val (l ++ [d]) := by
      rw [val_snoc, Nat.mod_eq_of_lt hd]
      have : 1 * 1 ≤ d * 128 ^ l.length := Nat.mul_le_mul (by omega) (Nat.pos_of_ne_zero (by simp))
      omega
    have e : val (a :: l ++ [d]) = a % 128 + 128 * val (l ++ [d]) := rfl
    rw [e, G_more _ _ (by omega)]
    have e1 : (a % 128 + 128 * val (l ++ [d])) / 128 = val (l ++ [d]) := by omega
    have e2 : 128 + (a % 128 + 128 * val (l ++ [d])) % 128 = a := by omega
    rw [e1, e2, ih]; rfl
theorem G_end : ∀ (f n : Nat), 1 ≤ n → (G f n).getLast? ≠ some 0
  | 0, _, _ => by simp [G]
  | f + 1, n, h => by
    by_cases hn : n ≤ 127
    · rw [G_last _ _ hn]; simp; omega
    · rw [G_more _ _ (by omega)]
      have ih := G_end f (n / 128) (by omega)
      cases hg : G f (n / 128) with
      | nil => simp; omega
      | cons a t => rw [hg] at ih; simpa [List.getLast?_cons_cons] using ih
theorem G_needless (f n : Nat) (l : List Int) (hl : l ≠ []) : G f n ≠ l ++ [0] := by
  intro h
  by_cases hn : 1 ≤ n
  · have := G_end f n hn
    rw [h] at this; simp at this
  · have h0 : n = 0 := by omega
    subst h0
    cases f with
    | zero => simp [G] at h
    | succ f =>
      rw [G_last _ _ (by omega)] at h
      cases l with
      | nil => exact hl rfl
      | cons a t => simp at h
theorem G_in : ∀ (f r : Nat), ∀ x ∈ G f r, 0 ≤ x ∧ x < 256
  | 0, _, _, h => by simp [G] at h
  | f + 1, r, x, h => by
    by_cases hr : r ≤ 127
    · rw [G_last _ _ hr] at h; simp at h; omega
    · rw [G_more _ _ (by omega)] at h
      rcases List.mem_cons.1 h with h | h
      · omega
      · exact G_in f _ x h
/-- The bytes of a text from i on, j of them. -/
def seg (s : ByteArray) (i j : Nat) : List Nat := (List.range j).map fun t => by8 s (i + t)
theorem seg_next (s : ByteArray) (i j : Nat) : seg s i (j + 1) = seg s i j ++ [by8 s (i + j)] := by simp [seg, List.range_succ]
theorem seg_length (s : ByteArray) (i j : Nat) : (seg s i j).length = j := by simp [seg]
def acc (s : ByteArray) (i : Nat) : Nat → Nat
  | 0 => 0
  | j + 1 => acc s i j + by8 s (i + j) % 128 * 128 ^ j
theorem acc_val (s : ByteArray) (i : Nat) : ∀ j, acc s i j = val (seg s i j)
  | 0 => rfl
  | j + 1 => by rw [seg_next, val_snoc, seg_length, ← acc_val s i j]; rfl
theorem acc_lt (s : ByteArray) (i j : Nat) : acc s i j < 128 ^ j := by
  rw [acc_val]; have := val_lt (seg s i j); rwa [seg_length] at this
theorem seg_data (s : ByteArray) (i : Nat) : ∀ j, i + j ≤ s.size → (s.data.toList.drop i).take j = (seg s i j).map UInt8.ofNat
  | 0, _ => by simp [seg]
  | j + 1, h => by
    have ih := seg_data s i j (by omega)
    have hb := byte_at s (i + j) (by omega)
    have h8 := by8_at s (i + j) (by omega)
    rw [List.take_add_one, ih, seg_next, List.map_append, List.getElem?_drop, hb, ← h8]
    simp
theorem back_nums (xs : List Int) (h : ∀ x ∈ xs, 0 ≤ x ∧ x < 256) : (xs.map fun n => UInt8.ofNat n.toNat).map (fun u => (u.toNat : Int)) = xs := by
  rw [List.map_map]
  conv => rhs; rw [← List.map_id xs]
  apply List.map_congr_left
  intro x hx
  have := h x hx
  simp only [Function.comp, UInt8.toNat_ofNat', id]
  omega
theorem back_seg (s : ByteArray) (i j : Nat) : ((seg s i j).map UInt8.ofNat).map (fun u => (u.toNat : Int)) = (seg s i j).map (fun (x : Nat) => (x : Int)) := by
  rw [List.map_map]
  apply List.map_congr_left
  intro x hx
  simp only [seg, List.mem_map] at hx
  obtain ⟨t, _, rfl⟩ := hx
  have := by8_lt s (i + t)
  simp only [Function.comp, UInt8.toNat_ofNat']
  omega
theorem cmp_eq (s : ByteArray) (i j : Nat) (hj : j ≤ 4) (hi : i + j < s.size) (hall : ∀ t, t < j → 128 ≤ by8 s (i + t)) (hd : by8 s (i + j) < 128) (hc : j = 0 ∨ by8 s (i + j) ≠ 0) :
    ((strOfNums (G 5 (acc s i (j + 1)))).toList == (s.extract i (i + j + 1)).toList) = true := by
  rw [ByteArray.toList_eq, ByteArray.toList_eq, beq_iff_eq, strOfNums_data, Lib.extract_data, show i + j + 1 - i = j + 1 by omega, seg_data s i (j + 1) (by omega), acc_val, seg_next, G_canon 5 (seg s i j) _ ?_ hd ?_ (by rw [seg_length]; omega)]
  · simp [Function.comp_def]
  · intro x hx
    simp only [seg, List.mem_map, List.mem_range] at hx
    obtain ⟨t, ht, rfl⟩ := hx
    have := by8_lt s (i + t)
    exact ⟨hall t ht, by omega⟩
  · rcases hc with h | h
    · left; subst h; rfl
    · exact .inr h
theorem cmp_ne (s : ByteArray) (i j n : Nat) (hi : i + j < s.size) (hd : by8 s (i + j) = 0) (hj : 0 < j) :
    ((strOfNums (G 5 n)).toList == (s.extract i (i + j + 1)).toList) = false := by
  rw [ByteArray.toList_eq, ByteArray.toList_eq, beq_eq_false_iff_ne, strOfNums_data, Lib.extract_data, show i + j + 1 - i = j + 1 by omega, seg_data s i (j + 1) (by omega)]
  intro h
  have h2 := congrArg (List.map (fun u : UInt8 => (u.toNat : Int))) h
  rw [back_nums _ (G_in 5 n), back_seg, seg_next, hd, List.map_append] at h2
  refine G_needless 5 n ((seg s i j).map (fun (x : Nat) => (x : Int))) ?_ h2
  intro h0
  have := congrArg List.length h0
  simp [seg_length] at this
  omega
theorem cmp_none (s : ByteArray) (i k : Nat) (hi : k < s.size) (hk : i ≤ k) : ((⟨#[]⟩ : ByteArray).toList == (s.extract i (k + 1)).toList) = false := by
  rw [ByteArray.toList_eq, ByteArray.toList_eq, beq_eq_false_iff_ne, Lib.extract_data]
  intro h
  have := congrArg List.length h
  simp at this
  omega
/-- What is read at i: five bytes at most. -/
def gn (s : ByteArray) (i : Nat) : Nat → Nat → Option (Nat × Nat)
  | 0, _ => none
  | f + 1, j => if i + j < s.size then (if by8 s (i + j) < 128 then (if (by8 s (i + j) = 0 ∧ 0 < j) ∨ 4000000000 < acc s i (j + 1) then none else some (acc s i (j + 1), i + j + 1)) else gn s i f (j + 1)) else none
def gnN (o : Option (Nat × Nat)) : Int := match o with | none => 0 | some x => (x.1 : Int)
def gnK (o : Option (Nat × Nat)) : Int := match o with | none => -1 | some x => (x.2 : Int)
end Go.Proofs.YtjafahhoihlliaaGreatDoor
namespace Go.Proofs.YtjafahhoihlliaaGreatDoor
open Go.RowKit
theorem gn_end (s : ByteArray) (i f j : Nat) (h : s.size ≤ i + j) : gn s i f j = none := by
  cases f with
  | zero => rfl
  | succ f => simp only [gn]; rw [if_neg (by omega)]
theorem gn_go (s : ByteArray) (i f j : Nat) (h : i + j < s.size) (hb : 128 ≤ by8 s (i + j)) : gn s i (f + 1) j = gn s i f (j + 1) := by
  simp only [gn]; rw [if_pos h, if_neg (by omega)]
theorem gn_bad (s : ByteArray) (i f j : Nat) (h : i + j < s.size) (hb : by8 s (i + j) < 128) (hc : (by8 s (i + j) = 0 ∧ 0 < j) ∨ 4000000000 < acc s i (j + 1)) : gn s i (f + 1) j = none := by
  simp only [gn]; rw [if_pos h, if_pos hb, if_pos hc]
theorem gn_good (s : ByteArray) (i f j : Nat) (h : i + j < s.size) (hb : by8 s (i + j) < 128) (hc : ¬ ((by8 s (i + j) = 0 ∧ 0 < j) ∨ 4000000000 < acc s i (j + 1))) : gn s i (f + 1) j = some (acc s i (j + 1), i + j + 1) := by
  simp only [gn]; rw [if_pos h, if_pos hb, if_neg hc]
theorem pow128_le (j : Nat) (h : j ≤ 4) : 128 ^ j ≤ 268435456 := by
  have := Nat.pow_le_pow_right (n := 128) (by omega) h
  simpa using this
theorem cut_some (s : ByteArray) (i k : Nat) (hi : k < s.size) (hk : i ≤ k) : (s.extract i (k + 1)).toList.isEmpty = false := by
  rw [ByteArray.toList_eq, Lib.extract_data]
  cases h : List.take (k + 1 - i) (List.drop i s.data.toList) with
  | nil =>
    have := congrArg List.length h
    simp at this
    omega
  | cons a t => rfl
theorem below_drew {w w1 : World} (h : Below w.drew.heap.size w.drew w1) : Below w.heap.size w w1 := ((Below.refl _ w).drew).trans h
set_option maxRecDepth 100000 in
set_option maxHeartbeats 4000000 in
theorem spec_get (s : ByteArray) (i : Nat) (hs : s.size ≤ maxLen) (hi : i < s.size) (w : World) : Calls Tryz.prog 49 #[.string s, .int .i64 i] w fun e w' => e = .returned (.tuple #[.int .i64 (gnN (gn s i 5 0)), .int .i64 (gnK (gn s i 5 0))]) ∧ Below w.heap.size w w' := by
  unfold maxLen at hs
  have hi' : (i : Int) < (s.size : Int) := by omega
  go_enter Tryz.func49, Tryz.ntmps49
  go_wp2
  go_loop [6, 7, 8] (fun tn tw tk => ∃ n wv kk : Nat, tn = .int .i64 n ∧ tw = .int .i64 wv ∧ tk = .int .i64 kk ∧ i ≤ kk ∧ kk ≤ i + 5 ∧ kk ≤ s.size ∧ Hid (wv = 128 ^ (kk - i)) ∧ Hid (n = acc s i (kk - i)) ∧ Hid (∀ t, t < kk - i → 128 ≤ by8 s (i + t)) ∧ Hid (gn s i 5 0 = gn s i (5 - (kk - i)) (kk - i))) (fun _ _ tk => s.size - (intOf tk).toNat)
  case atStart => exact ⟨0, 1, i, rfl, rfl, rfl, by omega, by omega, by omega, by simp [Hid], by simp [Hid, acc], by simp [Hid], by simp [Hid]⟩
  case round =>
    obtain ⟨n, wv, kk, rfl, rfl, rfl, h1, h2, h3, H1, H2, H3, H4⟩ := hrel
    have c1 : (i : Int) ≤ (kk : Int) := by omega
    by_cases hlt : kk < s.size
    · have c2 : (kk : Int) < (s.size : Int) := by omega
      by_cases h5 : kk < i + 5
      · have c3 : (kk : Int) - (i : Int) < 5 := by omega
        obtain ⟨j, hj⟩ : ∃ j, j = kk - i := ⟨_, rfl⟩
        have hkj : kk = i + j := by omega
        have hj4 : j ≤ 4 := by omega
        have H1' := H1.out
        have H2' := H2.out
        have H3' := H3.out
        have H4' := H4.out
        rw [← hj] at H1' H2' H3' H4'
        have h8 := by8_lt s kk
        have e8 := by8_at s kk hlt
        have hw4 := pow128_le j hj4
        rw [← H1'] at hw4
        have hacc : acc s i (j + 1) = n + (s[kk]'hlt).toNat % 128 * wv := by rw [e8, hkj, H2', H1']; rfl
        have hacl := acc_lt s i (j + 1)
        have hacl5 := Nat.pow_le_pow_right (n := 128) (by omega) (show j + 1 ≤ 5 by omega)
        have hb : ((s[kk]'hlt).toNat : Int) % 128 * (wv : Int) = (((s[kk]'hlt).toNat % 128 * wv : Nat) : Int) := by simp
        have hb1 : 0 ≤ ((s[kk]'hlt).toNat : Int) % 128 * (wv : Int) := by omega
        have hb2 : ((s[kk]'hlt).toNat : Int) % 128 * (wv : Int) ≤ 34359738368 := by omega
        have hn : n ≤ 34359738368 := by omega
        have Hsum : Hid ((n : Int) + ((s[kk]'hlt).toNat : Int) % 128 * (wv : Int) = ((acc s i (j + 1) : Nat) : Int)) := by show _ = _; rw [hacc, hb]; omega
        have Hacl : Hid (acc s i (j + 1) < 34359738368) := by show _ < _; omega
        rw [← e8] at h8
        have E8 : Hid ((s[kk]'hlt).toNat = by8 s (i + j)) := by show _ = _; rw [e8, hkj]
        have HK : Hid (kk = i + j) := hkj
        have HJ : Hid (wv = 128 ^ j) := H1'
        have HA : Hid (∀ t, t < j → 128 ≤ by8 s (i + t)) := H3'
        have HG : Hid (gn s i 5 0 = gn s i (4 - j + 1) j) := by show _ = _; rw [H4', show 5 - j = 4 - j + 1 by omega]
        clear H1' H2' H3' H4' H1 H2 H3 H4 hkj e8 hacc hacl hacl5 hb hj
        by_cases hlow : (s[kk]'hlt).toNat < 128
        · have d1 : ((s[kk]'hlt).toNat : Int) < 128 := by omega
          have hA : 0 ≤ (kk : Int) + 1 := by omega
          have hB : (kk : Int) + 1 ≤ (s.size : Int) := by omega
          have hC : (i : Int) ≤ (kk : Int) + 1 := by omega
          have hw1 : IntKind.i64.wrap ((kk : Int) + 1) = (kk : Int) + 1 := IntWalk.i64_in _ ⟨by omega, by omega⟩
          have hw2 : wrap64 ((kk : Int) + 1) = (kk : Int) + 1 := IntWalk.wrap64_in _ ⟨by omega, by omega⟩
          by_cases h4 : acc s i (j + 1) ≤ 4000000000
          · by_cases hz : (s[kk]'hlt).toNat = 0 ∧ 0 < j
            · have he : ((strOfNums (G 5 (acc s i (j + 1)))).toList == (s.extract i (kk + 1)).toList) = false := by
                rw [HK.out]; exact cmp_ne s i j _ (by rw [← HK.out]; exact hlt) (by rw [← E8.out]; exact hz.1) hz.2
              have hg : gn s i 5 0 = none := by rw [HG.out]; exact gn_bad s i _ j (by rw [← HK.out]; exact hlt) (by rw [← E8.out]; exact hlow) (.inl ⟨by rw [← E8.out]; exact hz.1, hz.2⟩)
              have Hg : Hid _ := hg
              clear hg hz
              go_wp2_with fail
              go_region_with (go_at_call 31; rw [Hsum.out]; refine (spec_put (acc s i (j + 1)) h4 _).mono ?_; rintro e w1 ⟨rfl, hbel⟩)
              all_goals
                go_wp2_with fail
                go_ret2
                exact ⟨by rw [Hg.out]; rfl, below_drew hbel⟩
            · have he : ((strOfNums (G 5 (acc s i (j + 1)))).toList == (s.extract i (kk + 1)).toList) = true := by
                rw [HK.out]; exact cmp_eq s i j hj4 (by rw [← HK.out]; exact hlt) HA.out (by rw [← E8.out]; exact hlow) (by rw [← E8.out]; omega)
              have hg : gn s i 5 0 = some (acc s i (j + 1), kk + 1) := by rw [HG.out, gn_good s i _ j (by rw [← HK.out]; exact hlt) (by rw [← E8.out]; exact hlow) (by rw [← E8.out]; omega), HK.out]
              have Hg : Hid _ := hg
              clear hg hz
              go_wp2_with fail
              go_region_with (go_at_call 31; rw [Hsum.out]; refine (spec_put (acc s i (j + 1)) h4 _).mono ?_; rintro e w1 ⟨rfl, hbel⟩)
              all_goals
                go_wp2_with fail
                go_ret2
                exact ⟨by rw [Hg.out]; simp only [gnN, gnK]; rw [← Hsum.out]; rfl, below_drew hbel⟩
          · have he : (s.extract i (kk + 1)).toList.isEmpty = false := cut_some s i kk hlt h1
            have hg : gn s i 5 0 = none := by rw [HG.out]; exact gn_bad s i _ j (by rw [← HK.out]; exact hlt) (by rw [← E8.out]; exact hlow) (.inr (by omega))
            have Hg : Hid _ := hg
            clear hg
            go_wp2_with fail
            go_region_with (go_at_call 31; rw [Hsum.out]; refine (spec_put_no ((acc s i (j + 1) : Nat) : Int) (by omega) _).mono ?_; rintro e w1 ⟨rfl, hbel⟩; replace hbel := hbel.symm; subst hbel)
            all_goals
              go_wp2_with fail
              go_ret2
              exact ⟨by rw [Hg.out]; rfl, (Below.refl _ w).drew⟩
        · have d1 : 128 ≤ ((s[kk]'hlt).toNat : Int) := by omega
          go_wp2_with fail
          go_round
          case rel =>
            refine ⟨acc s i (j + 1), 128 * wv, kk + 1, by rw [Hsum.out], by go_num, by go_num, by omega, by omega, by omega, ?_, ?_, ?_, ?_⟩
            · show _ = _; rw [HJ.out, HK.out, show i + j + 1 - i = j + 1 by omega, Nat.pow_succ]; omega
            · show _ = _; rw [HK.out, show i + j + 1 - i = j + 1 by omega]
            · show ∀ t, _
              rw [HK.out, show i + j + 1 - i = j + 1 by omega]
              intro t ht
              by_cases e : t = j
              · rw [e, ← E8.out]; omega
              · exact HA.out t (by omega)
            · show _ = _
              rw [HG.out, gn_go s i _ j (by rw [← HK.out]; exact hlt) (by rw [← E8.out]; omega), HK.out, show i + j + 1 - i = j + 1 by omega, show 5 - (j + 1) = 4 - j by omega]
          case measure => simp [intOf]; omega
      · have c3 : 5 ≤ (kk : Int) - (i : Int) := by omega
        have hg : gn s i 5 0 = none := by rw [H4.out, show 5 - (kk - i) = 0 by omega]; rfl
        have Hg : Hid _ := hg
        clear hg H1 H2 H3 H4
        go_wp2_with fail
        go_ret2
        exact ⟨by rw [Hg.out]; rfl, Below.refl _ _⟩
    · have c2 : (s.size : Int) ≤ (kk : Int) := by omega
      have hg : gn s i 5 0 = none := by rw [H4.out]; exact gn_end s i _ _ (by omega)
      have Hg : Hid _ := hg
      clear hg H1 H2 H3 H4
      go_wp2_with fail
      go_ret2
      exact ⟨by rw [Hg.out]; rfl, Below.refl _ _⟩
theorem spec_get_no (s : ByteArray) (i : Int) (hs : s.size ≤ maxLen) (h0 : -9223372036854775808 ≤ i) (h1 : i ≤ 9223372036854775807) (h : i < 0 ∨ (s.size : Int) ≤ i) (w : World) : Calls Tryz.prog 49 #[.string s, .int .i64 i] w fun e w' => e = .returned (.tuple #[.int .i64 0, .int .i64 (-1)]) ∧ w' = w := by
  unfold maxLen at hs
  rcases h with h | h
  · have hd : decide (0 ≤ i) = false := by simp; omega
    go_enter Tryz.func49, Tryz.ntmps49
    go_wp2_with fail
    refine wp_loop_rounds 1 ?_
    rw [rounds_succ]
    go_wp2_with fail
    go_ret2
    exact ⟨rfl, rfl⟩
  · have h0 : 0 ≤ i := by omega
    have hd : decide (i < (s.size : Int)) = false := by simp; omega
    go_enter Tryz.func49, Tryz.ntmps49
    go_wp2_with fail
    refine wp_loop_rounds 1 ?_
    rw [rounds_succ]
    go_wp2_with fail
    go_ret2
    exact ⟨rfl, rfl⟩
end Go.Proofs.YtjafahhoihlliaaGreatDoor
namespace Go.Proofs.YtjafahhoihlliaaGreatDoor
open Go.RowKit
theorem i64_or_nat (a b : Nat) (ha : a < 9223372036854775808) (hb : b < 9223372036854775808) : bits .or .i64 (a : Int) (b : Int) = ((a ||| b : Nat) : Int) := by
  have hx : a ||| b < 2 ^ 63 := Nat.or_lt_two_pow (by omega) (by omega)
  show IntKind.i64.wrap ((BitVec.ofInt 64 (a : Int) ||| BitVec.ofInt 64 (b : Int)).toNat : Int) = _
  rw [BitVec.toNat_or, ofInt_u64 a (by omega), ofInt_u64 b (by omega)]
  exact IntWalk.i64_in _ ⟨by omega, by omega⟩
theorem or_acc' (n b p : Nat) (e : Nat) (hp : p = 2 ^ e) (hn : n < p) (hle : p ≤ 268435456) (hb : b < 128) : bits .or .i64 (n : Int) (wrap64 ((b : Int) * 2 ^ e)) = ((n + b * p : Nat) : Int) := by
  have hmul : b * p ≤ 127 * 268435456 := Nat.mul_le_mul (by omega) hle
  have e3 : (b : Int) * 2 ^ e = ((b * p : Nat) : Int) := by rw [Int.natCast_mul, hp, Int.natCast_pow]; rfl
  have e4 : wrap64 ((b * p : Nat) : Int) = ((b * p : Nat) : Int) := IntWalk.wrap64_in _ ⟨by omega, by omega⟩
  rw [e3, e4]
  generalize hq : b * p = q at *
  rw [i64_or_nat n q (by omega) (by omega), Nat.or_comm, nat_join e q n (by rw [← hp, ← hq]; exact Nat.mul_mod_left _ _) (by rw [← hp]; exact hn), Nat.add_comm]
theorem or_acc (n b j : Nat) (hn : n < 128 ^ j) (hb : b ≤ 255) (hj : j ≤ 4) :
    bits .or .i64 (n : Int) (wrap64 (wrap64 (bits .and .u8 (b : Int) 127) * 2 ^ (7 * j))) = ((n + b % 128 * 128 ^ j : Nat) : Int) := by
  have hp : (128 : Nat) ^ j = 2 ^ (7 * j) := by rw [Nat.pow_mul]
  have hle := pow128_le j hj
  have e1 : bits .and .u8 (b : Int) 127 = ((b % 128 : Nat) : Int) := by
    have := u8_and_nat b 127 (by omega) (by omega)
    rw [nat_mask7] at this; exact this
  have e2 : wrap64 ((b % 128 : Nat) : Int) = ((b % 128 : Nat) : Int) := IntWalk.wrap64_in _ ⟨by omega, by omega⟩
  rw [e1, e2]
  generalize 128 ^ j = p at *
  exact or_acc' n (b % 128) p (7 * j) hp hn hle (by omega)
set_option maxRecDepth 100000 in
set_option maxHeartbeats 4000000 in
theorem impl_get (s : ByteArray) (i : Nat) (hs : s.size ≤ maxLen) (hi : i < s.size) (w : World) : Calls Tryz.prog 101 #[.string s, .int .i64 i] w fun e w' => e = .returned (.tuple #[.int .i64 (gnN (gn s i 5 0)), .int .i64 (gnK (gn s i 5 0))]) ∧ w' = w := by
  unfold maxLen at hs
  have hi' : (i : Int) < (s.size : Int) := by omega
  have hd0 : decide (s.size ≤ i) = false := by simp; omega
  have hd1 : decide ((i : Int) < 0) = false := by simp
  go_enter Tryz.func101, Tryz.ntmps101
  go_wp2
  go_loop [6, 23] (fun tn tk => ∃ n j : Nat, tn = .int .i64 n ∧ tk = .int .i64 (j : Int) ∧ j ≤ 5 ∧ i + j ≤ s.size ∧ Hid (n = acc s i j) ∧ Hid (gn s i 5 0 = gn s i (5 - j) j)) (fun _ tk => s.size - (intOf tk).toNat)
  case atStart => exact ⟨0, 0, rfl, rfl, by omega, by omega, rfl, rfl⟩
  case round =>
    obtain ⟨n, j, rfl, rfl, h5, h1, H2, H4⟩ := hrel
    by_cases hlt : i + j < s.size
    · have c2 : (i : Int) + (j : Int) < (s.size : Int) := by omega
      by_cases hj5 : j < 5
      · have h8 : (s[i + j]'hlt).toNat ≤ 255 := by have := (s[i + j]'hlt).toNat_lt; omega
        have c4 : (j : Int) < 5 := by omega
        have hE := by8_at s (i + j) hlt
        have hlt128 := acc_lt s i j
        obtain ⟨m, hm⟩ : ∃ m, m = acc s i (j + 1) := ⟨_, rfl⟩
        have hml := acc_lt s i (j + 1)
        rw [← hm] at hml
        have hpw := Nat.pow_le_pow_right (n := 128) (by omega) (show j + 1 ≤ 5 by omega)
        have hmb : m < 34359738368 := by omega
        have he : bits .or .i64 (n : Int) (wrap64 (wrap64 (bits .and .u8 ((s[i + j]'hlt).toNat : Int) 127) * 2 ^ (7 * j))) = (m : Int) := by
          rw [or_acc n _ j (by rw [H2.out]; exact hlt128) h8 (by omega), hm, H2.out, hE]; rfl
        have HE : Hid ((s[i + j]'hlt).toNat = by8 s (i + j)) := hE
        have HM : Hid (m = acc s i (j + 1)) := hm
        have HG : Hid (gn s i 5 0 = gn s i (4 - j + 1) j) := by show _ = _; rw [H4.out, show 5 - j = 4 - j + 1 by omega]
        clear hE hm hlt128 hml hpw H2 H4
        by_cases hlow : (s[i + j]'hlt).toNat < 128
        · have d1 : ((s[i + j]'hlt).toNat : Int) < 128 := by omega
          by_cases hbad : ((s[i + j]'hlt).toNat = 0 ∧ 0 < j) ∨ 4000000000 < m
          · have hg : gn s i 5 0 = none := by rw [HG.out]; exact gn_bad s i _ j hlt (by rw [← HE.out]; exact hlow) (by rw [← HE.out, ← HM.out]; exact hbad)
            have Hg : Hid _ := hg
            have Hbad : Hid _ := hbad
            clear hg hbad
            by_cases hz : (s[i + j]'hlt).toNat = 0
            · have z1 : (((s[i + j]'hlt).toNat : Int) == 0) = true := by simp; omega
              clear hz
              by_cases hj0 : 0 < j
              · have j1 : decide ((0 : Int) < (j : Int)) = true := by simp; omega
                go_wp2
                go_ret2
                exact ⟨by rw [Hg.out]; rfl, rfl⟩
              · have m1 : 4000000000 < (m : Int) := by have := Hbad.out; omega
                have j1 : decide ((0 : Int) < (j : Int)) = false := by simp; omega
                go_wp2
                go_ret2
                exact ⟨by rw [Hg.out]; rfl, rfl⟩
            · have z1 : (((s[i + j]'hlt).toNat : Int) == 0) = false := by rw [beq_eq_false_iff_ne]; omega
              have m1 : 4000000000 < (m : Int) := by have := Hbad.out; omega
              clear hz
              go_wp2
              go_ret2
              exact ⟨by rw [Hg.out]; rfl, rfl⟩
          · have hg : gn s i 5 0 = some (m, i + j + 1) := by rw [HG.out, gn_good s i _ j hlt (by rw [← HE.out]; exact hlow) (by rw [← HE.out, ← HM.out]; exact hbad), ← HM.out]
            have Hg : Hid _ := hg
            have m0 : m ≤ 4000000000 := Nat.not_lt.1 (fun h => hbad (.inr h))
            have m1 : (m : Int) ≤ 4000000000 := by omega
            have Hbad : Hid ((s[i + j]'hlt).toNat = 0 → j ≤ 0) := fun hz => Nat.not_lt.1 (fun h => hbad (.inl ⟨hz, h⟩))
            clear hg hbad m0
            by_cases hz : (s[i + j]'hlt).toNat = 0
            · have z1 : (((s[i + j]'hlt).toNat : Int) == 0) = true := by simp; omega
              have j0 : j ≤ 0 := Hbad.out hz
              have j1 : (j : Int) ≤ 0 := by omega
              clear hz
              go_wp2
              go_ret2
              exact ⟨by rw [Hg.out]; rfl, rfl⟩
            · have z1 : (((s[i + j]'hlt).toNat : Int) == 0) = false := by rw [beq_eq_false_iff_ne]; omega
              clear hz
              go_wp2
              go_ret2
              exact ⟨by rw [Hg.out]; rfl, rfl⟩
        · have d1 : 128 ≤ ((s[i + j]'hlt).toNat : Int) := by omega
          go_wp2
          go_round
          case rel =>
            refine ⟨m, j + 1, rfl, by go_num, by omega, by omega, HM, ?_⟩
            show _ = _
            rw [HG.out, gn_go s i _ j hlt (by rw [← HE.out]; omega), show 5 - (j + 1) = 4 - j by omega]
          case measure => simp [intOf]; omega
      · have c3 : 5 ≤ (j : Int) := by omega
        have hg : gn s i 5 0 = none := by rw [H4.out, show 5 - j = 0 by omega]; rfl
        have Hg : Hid _ := hg
        clear hg H2 H4
        go_wp2
        go_ret2
        exact ⟨by rw [Hg.out]; rfl, rfl⟩
    · have c2 : (s.size : Int) - (i : Int) ≤ (j : Int) := by omega
      have hg : gn s i 5 0 = none := by rw [H4.out]; exact gn_end s i _ _ (by omega)
      have Hg : Hid _ := hg
      clear hg H2 H4
      go_wp2
      go_ret2
      exact ⟨by rw [Hg.out]; rfl, rfl⟩
theorem impl_get_no (s : ByteArray) (i : Int) (hs : s.size ≤ maxLen) (h : i < 0 ∨ (s.size : Int) ≤ i) (w : World) : Calls Tryz.prog 101 #[.string s, .int .i64 i] w fun e w' => e = .returned (.tuple #[.int .i64 0, .int .i64 (-1)]) ∧ w' = w := by
  unfold maxLen at hs
  rcases h with h | h
  · go_enter Tryz.func101, Tryz.ntmps101
    go_wp2
    go_ret2
    exact ⟨rfl, rfl⟩
  · have hd : decide (i < 0) = false := by simp; omega
    go_enter Tryz.func101, Tryz.ntmps101
    go_wp2
    go_ret2
    exact ⟨rfl, rfl⟩
end Go.Proofs.YtjafahhoihlliaaGreatDoor
