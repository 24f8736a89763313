/- The specification's GetNum answers what is read of five bytes at most: its contract. -/
import Derived.Test.YtfmchkagdaaeeaaDoorGetM
import Derived.Deep.RegionWith
namespace Go.Proofs.YtfmchkagdaaeeaaDoor
open Go.RowKit
theorem gn_end (s : ByteArray) (i f j : Nat) (h : s.size ≤ i + j) : gn s i f j = none := by
  cases f with
  | zero => rfl
  | succ f => simp only [gn]; rw [if_neg (by omega)]
theorem gn_go (s : ByteArray) (i f j : Nat) (h : i + j < s.size) (hb : 128 ≤ by8 s (i + j)) : gn s i (f + 1) j = gn s i f (j + 1) := by
  simp only [gn]; rw [if_pos h, if_neg (by omega)]
theorem gn_bad (s : ByteArray) (i f j : Nat) (h : i + j < s.size) (hb : by8 s (i + j) < 128) (hc : (by8 s (i + j) = 0 ∧ 0 < j) ∨ 4000000000 < acc s i (j + 1)) : gn s i (f + 1) j = none := by
  simp only [gn]; rw [if_pos h, if_pos hb, if_pos hc]
theorem gn_good (s : ByteArray) (i f j : Nat) (h : i + j < s.size) (hb : by8 s (i + j) < 128) (hc : ¬ ((by8 s (i + j) = 0 ∧ 0 < j) ∨ 4000000000 < acc s i (j + 1))) : gn s i (f + 1) j = some (acc s i (j + 1), i + j + 1) := by
  simp only [gn]; rw [if_pos h, if_pos hb, if_neg hc]
theorem pow128_le (j : Nat) (h : j ≤ 4) : 128 ^ j ≤ 268435456 := by
  have := Nat.pow_le_pow_right (n := 128) (by omega) h
  simpa using this
theorem cut_some (s : ByteArray) (i k : Nat) (hi : k < s.size) (hk : i ≤ k) : (s.extract i (k + 1)).toList.isEmpty = false := by
  rw [ByteArray.toList_eq, Lib.extract_data]
  cases h : List.take (k + 1 - i) (List.drop i s.data.toList) with
  | nil =>
    have := congrArg List.length h
    simp at this
    omega
  | cons a t => rfl
theorem below_drew {w w1 : World} (h : Below w.drew.heap.size w.drew w1) : Below w.heap.size w w1 := ((Below.refl _ w).drew).trans h
set_option maxRecDepth 100000 in
set_option maxHeartbeats 4000000 in
theorem spec_get (s : ByteArray) (i : Nat) (hs : s.size ≤ maxLen) (hi : i < s.size) (w : World) : Calls Tryd.prog 10 #[.string s, .int .i64 i] w fun e w' => e = .returned (.tuple #[.int .i64 (gnN (gn s i 5 0)), .int .i64 (gnK (gn s i 5 0))]) ∧ Below w.heap.size w w' := by
  unfold maxLen at hs
  have hi' : (i : Int) < (s.size : Int) := by omega
  go_enter Tryd.func10, Tryd.ntmps10
  go_wp2
  go_loop [6, 7, 8] (fun tn tw tk => ∃ n wv kk : Nat, tn = .int .i64 n ∧ tw = .int .i64 wv ∧ tk = .int .i64 kk ∧ i ≤ kk ∧ kk ≤ i + 5 ∧ kk ≤ s.size ∧ Hid (wv = 128 ^ (kk - i)) ∧ Hid (n = acc s i (kk - i)) ∧ Hid (∀ t, t < kk - i → 128 ≤ by8 s (i + t)) ∧ Hid (gn s i 5 0 = gn s i (5 - (kk - i)) (kk - i))) (fun _ _ tk => s.size - (intOf tk).toNat)
  case atStart => exact ⟨0, 1, i, rfl, rfl, rfl, by omega, by omega, by omega, by simp [Hid], by simp [Hid, acc], by simp [Hid], by simp [Hid]⟩
  case round =>
    obtain ⟨n, wv, kk, rfl, rfl, rfl, h1, h2, h3, H1, H2, H3, H4⟩ := hrel
    have c1 : (i : Int) ≤ (kk : Int) := by omega
    by_cases hlt : kk < s.size
    · have c2 : (kk : Int) < (s.size : Int) := by omega
      by_cases h5 : kk < i + 5
      · have c3 : (kk : Int) - (i : Int) < 5 := by omega
        obtain ⟨j, hj⟩ : ∃ j, j = kk - i := ⟨_, rfl⟩
        have hkj : kk = i + j := by omega
        have hj4 : j ≤ 4 := by omega
        have H1' := H1.out
        have H2' := H2.out
        have H3' := H3.out
        have H4' := H4.out
        rw [← hj] at H1' H2' H3' H4'
        have h8 := by8_lt s kk
        have e8 := by8_at s kk hlt
        have hw4 := pow128_le j hj4
        rw [← H1'] at hw4
        have hacc : acc s i (j + 1) = n + (s[kk]'hlt).toNat % 128 * wv := by rw [e8, hkj, H2', H1']; rfl
        have hacl := acc_lt s i (j + 1)
        have hacl5 := Nat.pow_le_pow_right (n := 128) (by omega) (show j + 1 ≤ 5 by omega)
        have hb : ((s[kk]'hlt).toNat : Int) % 128 * (wv : Int) = (((s[kk]'hlt).toNat % 128 * wv : Nat) : Int) := by simp
        have hb1 : 0 ≤ ((s[kk]'hlt).toNat : Int) % 128 * (wv : Int) := by omega
        have hb2 : ((s[kk]'hlt).toNat : Int) % 128 * (wv : Int) ≤ 34359738368 := by omega
        have hn : n ≤ 34359738368 := by omega
        have Hsum : Hid ((n : Int) + ((s[kk]'hlt).toNat : Int) % 128 * (wv : Int) = ((acc s i (j + 1) : Nat) : Int)) := by show _ = _; rw [hacc, hb]; omega
        have Hacl : Hid (acc s i (j + 1) < 34359738368) := by show _ < _; omega
        rw [← e8] at h8
        have E8 : Hid ((s[kk]'hlt).toNat = by8 s (i + j)) := by show _ = _; rw [e8, hkj]
        have HK : Hid (kk = i + j) := hkj
        have HJ : Hid (wv = 128 ^ j) := H1'
        have HA : Hid (∀ t, t < j → 128 ≤ by8 s (i + t)) := H3'
        have HG : Hid (gn s i 5 0 = gn s i (4 - j + 1) j) := by show _ = _; rw [H4', show 5 - j = 4 - j + 1 by omega]
        clear H1' H2' H3' H4' H1 H2 H3 H4 hkj e8 hacc hacl hacl5 hb hj
        by_cases hlow : (s[kk]'hlt).toNat < 128
        · have d1 : ((s[kk]'hlt).toNat : Int) < 128 := by omega
          have hA : 0 ≤ (kk : Int) + 1 := by omega
          have hB : (kk : Int) + 1 ≤ (s.size : Int) := by omega
          have hC : (i : Int) ≤ (kk : Int) + 1 := by omega
          have hw1 : IntKind.i64.wrap ((kk : Int) + 1) = (kk : Int) + 1 := IntWalk.i64_in _ ⟨by omega, by omega⟩
          have hw2 : wrap64 ((kk : Int) + 1) = (kk : Int) + 1 := IntWalk.wrap64_in _ ⟨by omega, by omega⟩
          by_cases h4 : acc s i (j + 1) ≤ 4000000000
          · by_cases hz : (s[kk]'hlt).toNat = 0 ∧ 0 < j
            · have he : ((strOfNums (G 5 (acc s i (j + 1)))).toList == (s.extract i (kk + 1)).toList) = false := by
                rw [HK.out]; exact cmp_ne s i j _ (by rw [← HK.out]; exact hlt) (by rw [← E8.out]; exact hz.1) hz.2
              have hg : gn s i 5 0 = none := by rw [HG.out]; exact gn_bad s i _ j (by rw [← HK.out]; exact hlt) (by rw [← E8.out]; exact hlow) (.inl ⟨by rw [← E8.out]; exact hz.1, hz.2⟩)
              have Hg : Hid _ := hg
              clear hg hz
              go_wp2_with fail
              go_region_with (go_at_call 19; rw [Hsum.out]; refine (spec_put (acc s i (j + 1)) h4 _).mono ?_; rintro e w1 ⟨rfl, hbel⟩)
              all_goals
                go_wp2_with fail
                go_ret2
                exact ⟨by rw [Hg.out]; rfl, below_drew hbel⟩
            · have he : ((strOfNums (G 5 (acc s i (j + 1)))).toList == (s.extract i (kk + 1)).toList) = true := by
                rw [HK.out]; exact cmp_eq s i j hj4 (by rw [← HK.out]; exact hlt) HA.out (by rw [← E8.out]; exact hlow) (by rw [← E8.out]; omega)
              have hg : gn s i 5 0 = some (acc s i (j + 1), kk + 1) := by rw [HG.out, gn_good s i _ j (by rw [← HK.out]; exact hlt) (by rw [← E8.out]; exact hlow) (by rw [← E8.out]; omega), HK.out]
              have Hg : Hid _ := hg
              clear hg hz
              go_wp2_with fail
              go_region_with (go_at_call 19; rw [Hsum.out]; refine (spec_put (acc s i (j + 1)) h4 _).mono ?_; rintro e w1 ⟨rfl, hbel⟩)
              all_goals
                go_wp2_with fail
                go_ret2
                exact ⟨by rw [Hg.out]; simp only [gnN, gnK]; rw [← Hsum.out]; rfl, below_drew hbel⟩
          · have he : (s.extract i (kk + 1)).toList.isEmpty = false := cut_some s i kk hlt h1
            have hg : gn s i 5 0 = none := by rw [HG.out]; exact gn_bad s i _ j (by rw [← HK.out]; exact hlt) (by rw [← E8.out]; exact hlow) (.inr (by omega))
            have Hg : Hid _ := hg
            clear hg
            go_wp2_with fail
            go_region_with (go_at_call 19; rw [Hsum.out]; refine (spec_put_no ((acc s i (j + 1) : Nat) : Int) (by omega) _).mono ?_; rintro e w1 ⟨rfl, hbel⟩; replace hbel := hbel.symm; subst hbel)
            all_goals
              go_wp2_with fail
              go_ret2
              exact ⟨by rw [Hg.out]; rfl, (Below.refl _ w).drew⟩
        · have d1 : 128 ≤ ((s[kk]'hlt).toNat : Int) := by omega
          go_wp2_with fail
          go_round
          case rel =>
            refine ⟨acc s i (j + 1), 128 * wv, kk + 1, by rw [Hsum.out], by go_num, by go_num, by omega, by omega, by omega, ?_, ?_, ?_, ?_⟩
            · show _ = _; rw [HJ.out, HK.out, show i + j + 1 - i = j + 1 by omega, Nat.pow_succ]; omega
            · show _ = _; rw [HK.out, show i + j + 1 - i = j + 1 by omega]
            · show ∀ t, _
              rw [HK.out, show i + j + 1 - i = j + 1 by omega]
              intro t ht
              by_cases e : t = j
              · rw [e, ← E8.out]; omega
              · exact HA.out t (by omega)
            · show _ = _
              rw [HG.out, gn_go s i _ j (by rw [← HK.out]; exact hlt) (by rw [← E8.out]; omega), HK.out, show i + j + 1 - i = j + 1 by omega, show 5 - (j + 1) = 4 - j by omega]
          case measure => simp [intOf]; omega
      · have c3 : 5 ≤ (kk : Int) - (i : Int) := by omega
        have hg : gn s i 5 0 = none := by rw [H4.out, show 5 - (kk - i) = 0 by omega]; rfl
        have Hg : Hid _ := hg
        clear hg H1 H2 H3 H4
        go_wp2_with fail
        go_ret2
        exact ⟨by rw [Hg.out]; rfl, Below.refl _ _⟩
    · have c2 : (s.size : Int) ≤ (kk : Int) := by omega
      have hg : gn s i 5 0 = none := by rw [H4.out]; exact gn_end s i _ _ (by omega)
      have Hg : Hid _ := hg
      clear hg H1 H2 H3 H4
      go_wp2_with fail
      go_ret2
      exact ⟨by rw [Hg.out]; rfl, Below.refl _ _⟩
theorem spec_get_no (s : ByteArray) (i : Int) (hs : s.size ≤ maxLen) (h0 : -9223372036854775808 ≤ i) (h1 : i ≤ 9223372036854775807) (h : i < 0 ∨ (s.size : Int) ≤ i) (w : World) : Calls Tryd.prog 10 #[.string s, .int .i64 i] w fun e w' => e = .returned (.tuple #[.int .i64 0, .int .i64 (-1)]) ∧ w' = w := by
  unfold maxLen at hs
  rcases h with h | h
  · have hd : decide (0 ≤ i) = false := by simp; omega
    go_enter Tryd.func10, Tryd.ntmps10
    go_wp2_with fail
    refine wp_loop_rounds 1 ?_
    rw [rounds_succ]
    go_wp2_with fail
    go_ret2
    exact ⟨rfl, rfl⟩
  · have h0 : 0 ≤ i := by omega
    have hd : decide (i < (s.size : Int)) = false := by simp; omega
    go_enter Tryd.func10, Tryd.ntmps10
    go_wp2_with fail
    refine wp_loop_rounds 1 ?_
    rw [rounds_succ]
    go_wp2_with fail
    go_ret2
    exact ⟨rfl, rfl⟩
end Go.Proofs.YtfmchkagdaaeeaaDoor
