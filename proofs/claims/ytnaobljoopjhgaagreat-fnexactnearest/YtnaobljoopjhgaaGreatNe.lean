/- The heap of candidates: Pop, add and take. -/
import Derived.Test.YtnaobljoopjhgaaGreatNd
namespace Go.Proofs.YtnaobljoopjhgaaGreat
open Go.RowKit
set_option linter.unusedSimpArgs false
set_option linter.unusedVariables false
theorem at_take {hs : List Cn} {m k : Nat} (h : k < m) : at_ (hs.take m) k = at_ hs k := by
  unfold at_
  rw [List.getD_eq_getElem?_getD, List.getD_eq_getElem?_getD, List.getElem?_take, if_pos h]
theorem take_last {hs : List Cn} {m : Nat} (h : hs.length = m + 1) : hs.take m ++ [at_ hs m] = hs := by
  have h1 := List.take_append_drop m hs
  have h2 : hs.drop m = [at_ hs m] := by
    have hl : m < hs.length := by omega
    rw [List.drop_eq_getElem_cons hl, at_lt hl, List.drop_of_length_le (by omega)]
  rw [h2] at h1
  exact h1
/-- What is left behind Pop. -/
def PR9 (B nb : Nat) (hs : List Cn) (w w' : World) : Prop :=
  ∃ rest : List Cn, (at_ hs 0 :: rest).Perm hs ∧ Hp rest rest.length ∧ (∀ y ∈ rest, lec (at_ hs 0) y) ∧ NH B nb rest w' ∧ HS B nb w w'
theorem pop_math {hs hs' : List Cn} {m : Nat} (hm : hs.length = m + 1) (hh : Hp hs hs.length) (h1 : hs'.Perm (swp hs 0 m)) (h2 : at_ hs' m = at_ (swp hs 0 m) m) (h3 : Hp hs' m) : hs' = hs'.take m ++ [at_ hs 0] ∧ (at_ hs 0 :: hs'.take m).Perm hs ∧ Hp (hs'.take m) (hs'.take m).length ∧ (∀ y ∈ hs'.take m, lec (at_ hs 0) y) := by
  have hl : hs'.length = m + 1 := by rw [h1.length_eq, swp_len, hm]
  have e0 : at_ hs' m = at_ hs 0 := by
    rw [h2, at_swp (by omega) (by omega), if_pos rfl]
  have e1 := take_last hl
  rw [e0] at e1
  have hp1 : hs'.Perm hs := h1.trans (swp_perm (by omega) (by omega))
  refine ⟨e1.symm, ?_, ?_, fun y hy => ?_⟩
  · have h4 : (at_ hs 0 :: hs'.take m).Perm (hs'.take m ++ [at_ hs 0]) := (List.perm_append_singleton _ _).symm
    rw [e1] at h4
    exact h4.trans hp1
  · have hlt : (hs'.take m).length = m := by rw [List.length_take, hl]; omega
    rw [hlt]
    intro k k0 kl
    rw [at_take kl, at_take (by omega)]
    exact h3 k k0 kl
  · have h5 : y ∈ hs := hp1.mem_iff.1 (List.mem_of_mem_take hy)
    obtain ⟨k, hk, rfl⟩ := List.mem_iff_getElem.1 h5
    rw [← at_lt hk]
    exact hp_root hh k hk
set_option maxRecDepth 100000 in
set_option maxHeartbeats 2000000 in
theorem heap_pop (B nb : Nat) (hs : List Cn) (m : Nat) (w : World) (hm : hs.length = m + 1) (hn : m ≤ 100000) (h : NH B nb hs w) (hh : Hp hs hs.length) : Calls Tryz.prog 51 #[hI nb] w fun e w' => e = .returned (.iface 90 (.agg #[.int .i64 (at_ hs 0).1, .int .i64 (at_ hs 0).2])) ∧ PR9 B nb hs w w' := by
  have nap := na_pop
  have mep := me_pop
  have nal := na_len
  have nas := na_swap
  have HM := hid hm
  have HHP := hid hh
  obtain ⟨g, c, hb, hown, hB⟩ := h
  obtain ⟨k0, k1⟩ := cell1n hb
  have mel := fun n => me_len n nb _ w k0
  have mes := fun n => me_swap n nb _ w k0
  have HSW := hid (swap_c B nb g c hs 0 m w (by omega) (by omega) (by omega) hB hb hown)
  have HDN : Hid (DnI (swp hs 0 m) m 0) := hid (by
    refine ⟨fun k k0 kl kn => ?_, fun k k0 kl ke kz => absurd kz (by omega)⟩
    rw [at_swp (by omega) (by omega), at_swp (by omega) (by omega), if_neg (by omega), if_neg (by omega), if_neg (by omega), if_neg (by omega)]
    exact hh k k0 (by omega))
  rw [hm] at mel mes HSW
  clear hb hown k1 hh hm
  have hw1 : IntKind.i64.wrap (((m + 1 : Nat) : Int) - 1) = (m : Int) := by rw [IntWalk.i64_in _ ⟨by omega, by omega⟩]; omega
  have hw2 : IntKind.i64.wrap ((m : Int) + 1 - 1) = (m : Int) := by rw [IntWalk.i64_in _ ⟨by omega, by omega⟩]; omega
  obtain ⟨x, hx⟩ : ∃ x, x = at_ hs 0 := ⟨_, rfl⟩
  have HX := hid hx
  rw [← hx]
  clear hx
  go_enter Tryz.func51, Tryz.ntmps51
  go_wp2_with fail
  refine (len_c _ _ _ _).mono ?_
  rintro e z ⟨rfl, hz⟩
  replace hz := hz.symm
  subst hz
  go_wp2_with fail
  refine HSW.out.mono ?_
  rintro e z ⟨rfl, hz1, hz2, hz3⟩
  have HH := hid hz1
  have HW := hid (show HS B nb _ z from ⟨hz2, hz3⟩)
  clear hz1 hz2 hz3 HSW mel mes k0
  go_wp2_with fail
  refine (down_c B nb (swp hs 0 m) m z (by rw [swp_len, HM.out]; omega) (by rw [swp_len, HM.out]; omega) HH.out HDN.out).mono ?_
  rintro e y ⟨⟨v, rfl⟩, hs', h1, h2, h3, h4, h5⟩
  obtain ⟨q1, q2, q3, q4⟩ := pop_math HM.out HHP.out h1 (h2 m (Nat.le_refl _)) h3
  have HW2 := hid (HW.out.trans h5)
  have hl : (hs'.take m).length ≤ m := by rw [List.length_take]; omega
  rw [q1] at h4
  have HPO := hid (pop_0 B nb (hs'.take m) (at_ hs 0) y (by omega) h4)
  have HQ := hid (show _ ∧ _ ∧ _ from ⟨q2, q3, q4⟩)
  rw [← HX.out] at HPO
  clear h1 h2 h3 h4 h5 q1 q2 q3 q4 HDN HH HW
  generalize hs'.take m = rest at *
  obtain ⟨x1, x2⟩ := x
  simp only at HPO ⊢
  go_wp2_with fail
  refine HPO.out.mono ?_
  rintro e u ⟨rfl, hu1, hu2, hu3⟩
  have HF : Hid (PR9 B nb hs w u) := hid ⟨rest, HQ.out.1, HQ.out.2.1, HQ.out.2.2, hu1, HW2.out.trans ⟨hu2, hu3⟩⟩
  clear hu1 hu2 hu3 HPO
  go_wp2_with fail
  go_ret
  exact ⟨rfl, HF.out⟩
set_option maxRecDepth 100000 in
set_option maxHeartbeats 2000000 in
theorem add_c9 (B nb : Nat) (hs : List Cn) (x1 x2 : Int) (w : World) (hn : hs.length ≤ 100000) (h : NH B nb hs w) (hh : Hp hs hs.length) : Calls Tryz.prog 24 #[.pointer (some ⟨nb, 0, none⟩), .int .i64 x1, .int .i64 x2] w fun e w' => e = .returned (.tuple #[]) ∧ ∃ hs', hs'.Perm (hs ++ [(x1, x2)]) ∧ Hp hs' hs'.length ∧ NH B nb hs' w' ∧ HS B nb w w' := by
  have HP := hid (heap_push B nb hs x1 x2 w hn h hh)
  clear h hh
  go_enter Tryz.func24, Tryz.ntmps24
  go_wp2_with fail
  refine HP.out.mono ?_
  rintro e y ⟨rfl, hy⟩
  have HY := hid hy
  clear hy HP
  go_wp2_with fail
  go_end0
  exact ⟨rfl, HY.out⟩
theorem fld_cn (a b : Int) (w : World) : (Instr.field 90 (.agg #[.int .i64 a, .int .i64 b]) 0).run Tryz.prog w = .ok (.int .i64 a) w := by kernel_rfl
set_option maxRecDepth 100000 in
set_option maxHeartbeats 2000000 in
theorem take_c9 (B nb : Nat) (hs : List Cn) (m : Nat) (w : World) (hm : hs.length = m + 1) (hn : m ≤ 100000) (h : NH B nb hs w) (hh : Hp hs hs.length) : Calls Tryz.prog 28 #[.pointer (some ⟨nb, 0, none⟩)] w fun e w' => e = .returned (.int .i64 (at_ hs 0).1) ∧ PR9 B nb hs w w' := by
  have HP := hid (heap_pop B nb hs m w hm hn h hh)
  have tac := ta_cn
  have fld := fld_cn
  clear h hh
  go_enter Tryz.func28, Tryz.ntmps28
  go_wp2_with fail
  refine HP.out.mono ?_
  rintro e y ⟨rfl, hy⟩
  have HY := hid hy
  clear hy HP
  go_wp2_with fail
  go_ret
  exact ⟨rfl, HY.out⟩
end Go.Proofs.YtnaobljoopjhgaaGreat
