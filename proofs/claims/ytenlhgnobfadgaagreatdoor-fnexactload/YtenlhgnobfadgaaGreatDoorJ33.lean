/- Texts of stores, joined: RsM, RsK, RsS. -/
import Derived.Test.YtenlhgnobfadgaaGreatDoorJ4
import Derived.Test.YtenlhgnobfadgaaGreatDoorJ6
import Derived.Test.YtenlhgnobfadgaaGreatDoorJ15
import Derived.Test.YtenlhgnobfadgaaGreatDoorJ32
import Derived.Test.YtenlhgnobfadgaaGreatDoorJ29
import Derived.Deep.RegionHeld3
namespace Go.Proofs.YtenlhgnobfadgaaGreatDoor
open Go.RowKit
set_option linter.unusedVariables false
/-- The number of a text, where it is one's decimal text and has nine digits at most. -/
noncomputable def ri (x : ByteArray) : Option Int := open Classical in if h : ∃ a : Int, -999999999 ≤ a ∧ a ≤ 999999999 ∧ x.data.toList = Lib.itoa a then some (Classical.choose h) else none
theorem ri_true {x : ByteArray} {a : Int} (h : Ans x.data.toList a true) : ri x = some a := by
  have hx : ∃ a : Int, -999999999 ≤ a ∧ a ≤ 999999999 ∧ x.data.toList = Lib.itoa a := by
    rcases h with ⟨_, h1, h2, h3⟩ | ⟨h, _⟩
    · exact ⟨a, h2, h3, h1⟩
    · cases h
  have hc := Classical.choose_spec hx
  have e := (Ans.same (b := true) (.inl ⟨rfl, hc.2.2, hc.1, hc.2.1⟩) h).1
  unfold ri
  rw [dif_pos hx, e]
theorem ri_false {x : ByteArray} {a : Int} (h : Ans x.data.toList a false) : ri x = none ∧ a = 0 := by
  rcases h with ⟨h, _⟩ | ⟨_, h0, h⟩
  · cases h
  · refine ⟨?_, h0⟩
    unfold ri
    rw [dif_neg]
    rintro ⟨v, h1, h2, h3⟩
    exact h v h1 h2 h3
noncomputable def riN (x : ByteArray) : Int := (ri x).getD 0
noncomputable def riB (x : ByteArray) : Bool := (ri x).isSome
theorem ri_ans {x : ByteArray} {a : Int} {b : Bool} (h : Ans x.data.toList a b) : a = riN x ∧ b = riB x := by
  cases b
  · obtain ⟨h1, h2⟩ := ri_false h
    unfold riN riB; rw [h1]; exact ⟨h2, rfl⟩
  · have h1 := ri_true h
    unfold riN riB; rw [h1]; exact ⟨rfl, rfl⟩
theorem spec_ri (x : ByteArray) (hx : x.size ≤ 1048576) (w : World) : Calls Tryz.prog 19 #[.string x] w fun e w' => e = .returned (.tuple #[.int .i64 (riN x), .bool (riB x)]) ∧ w' = w :=
  (spec_read x hx w).mono fun e w' ⟨⟨a, b, he, ha⟩, hw⟩ => ⟨by obtain ⟨rfl, rfl⟩ := ri_ans ha; exact he, hw⟩
/-- What the library does for the numbers and the words, in every world from here on. -/
def LibsR (w : World) : Prop := (∀ (s : ByteArray) (w' : World), s.size ≤ 1048576 → Below w.heap.size w w' → AtoiOk s w' ∧ AtoiNo s w' ∧ SplitAt s w') ∧ ItoaAll w ∧ CloneAll
theorem LibsR.below {w w' : World} (h : LibsR w) (hb : Below w.heap.size w w') : LibsR w' :=
  ⟨fun s v hs hv => h.1 s v hs (btrans hb hv), fun n v h0 h1 hv => h.2.1 n v h0 h1 (btrans hb hv), h.2.2⟩
theorem impl_ri (x : ByteArray) (hx : x.size ≤ 1048576) (w : World) (h : LibsR w) : Calls Tryz.prog 58 #[.string x] w fun e w' => e = .returned (.tuple #[.int .i64 (riN x), .bool (riB x)]) ∧ Below w.heap.size w w' :=
  (impl_read x w (h.1 x w hx (Below.refl _ _)).1 (h.1 x w hx (Below.refl _ _)).2.1 h.2.1).mono fun e w' ⟨⟨a, b, he, ha⟩, hw⟩ => ⟨by obtain ⟨rfl, rfl⟩ := ri_ans ha; exact he, hw⟩
/-- The words of the kinds. -/
def kwr : Nat → ByteArray
  | 0 => ⟨#[80, 79, 73, 78, 84]⟩
  | 1 => ⟨#[76, 73, 78, 69]⟩
  | 2 => ⟨#[82, 69, 67, 84]⟩
  | _ => ⟨#[80, 79, 76, 89]⟩
def kdr (x : ByteArray) : Option Nat := if x = kwr 0 then some 0 else if x = kwr 1 then some 1 else if x = kwr 2 then some 2 else if x = kwr 3 then some 3 else none
theorem kdr_at (x : ByteArray) (m : Nat) (hm : m ≤ 3) : x = kwr m ↔ kdr x = some m := by
  have h01 : kwr 0 ≠ kwr 1 := by decide
  have h02 : kwr 0 ≠ kwr 2 := by decide
  have h03 : kwr 0 ≠ kwr 3 := by decide
  have h12 : kwr 1 ≠ kwr 2 := by decide
  have h13 : kwr 1 ≠ kwr 3 := by decide
  have h23 : kwr 2 ≠ kwr 3 := by decide
  unfold kdr
  constructor
  · intro h
    obtain rfl | rfl | rfl | rfl : m = 0 ∨ m = 1 ∨ m = 2 ∨ m = 3 := by omega
    · rw [if_pos h]
    · subst h; rw [if_neg h01.symm, if_pos rfl]
    · subst h; rw [if_neg h02.symm, if_neg h12.symm, if_pos rfl]
    · subst h; rw [if_neg h03.symm, if_neg h13.symm, if_neg h23.symm, if_pos rfl]
  · intro h
    split at h
    · injection h with h; subst h; assumption
    split at h
    · injection h with h; subst h; assumption
    split at h
    · injection h with h; subst h; assumption
    split at h
    · injection h with h; subst h; assumption
    · cases h
theorem kdr_le {x : ByteArray} {m : Nat} (h : kdr x = some m) : m ≤ 3 := by
  unfold kdr at h
  split at h
  · injection h with h; omega
  split at h
  · injection h with h; omega
  split at h
  · injection h with h; omega
  split at h
  · injection h with h; omega
  · cases h
/-- The points of pairs of words. -/
noncomputable def rdp : List ByteArray → Option (List (Int × Int))
  | [] => some []
  | [_] => none
  | x :: y :: r => match ri x, ri y with | some a, some b => (rdp r).map ((a, b) :: ·) | _, _ => none
theorem rdp_step {x y : ByteArray} {r : List ByteArray} (hx : riB x = true) (hy : riB y = true) : rdp (x :: y :: r) = (rdp r).map ((riN x, riN y) :: ·) := by
  unfold riB at hx hy
  unfold riN
  cases h1 : ri x with
  | none => rw [h1] at hx; cases hx
  | some a =>
    cases h2 : ri y with
    | none => rw [h2] at hy; cases hy
    | some b => simp [rdp, h1, h2]
theorem rdp_no {x y : ByteArray} {r : List ByteArray} (h : riB x = false ∨ riB y = false) : rdp (x :: y :: r) = none := by
  unfold riB at h
  cases h1 : ri x with
  | none => simp [rdp, h1]
  | some a =>
    cases h2 : ri y with
    | none => simp [rdp, h1, h2]
    | some b => rw [h1, h2] at h; simp at h
theorem rdp_len : ∀ (n : Nat) (ws : List ByteArray) (l : List (Int × Int)), ws.length ≤ n → rdp ws = some l → ws.length = 2 * l.length
  | _, [], l, _, h => by simp [rdp] at h; subst h; rfl
  | _, [_], l, _, h => by simp [rdp] at h
  | 0, x :: y :: r, l, hn, h => by simp at hn
  | n + 1, x :: y :: r, l, hn, h => by
    cases hb : riB x with
    | false => rw [rdp_no (.inl hb)] at h; cases h
    | true =>
      cases hb2 : riB y with
      | false => rw [rdp_no (.inr hb2)] at h; cases h
      | true =>
        rw [rdp_step hb hb2] at h
        cases h3 : rdp r with
        | none => rw [h3] at h; cases h
        | some l2 =>
          rw [h3] at h
          simp only [Option.map_some, Option.some.injEq] at h
          have := rdp_len n r l2 (by simp at hn; omega) h3
          subst h
          simp; omega
/-- What ReadShape answers of some words. -/
noncomputable def rso (ws : List ByteArray) : Option (Int × List (Int × Int)) :=
  match kdr (ws.getD 0 ⟨#[]⟩) with
  | none => none
  | some k => match rdp (ws.drop 1) with
    | none => none
    | some l => if shok (k : Int) l = true then some ((k : Int), l) else none
def roK (o : Option (Int × List (Int × Int))) : Int := match o with | none => 0 | some r => r.1
def roP (o : Option (Int × List (Int × Int))) : List (Int × Int) := match o with | none => [] | some r => r.2
theorem kind_natr {k : Int} {ps : List (Int × Int)} (hs : shok k ps = true) : 0 ≤ k ∧ 0 < ps.length ∧ ps.length ≤ 60 := by
  have h0 := shok_posg hs
  unfold shok at hs
  split at hs
  · simp only [Bool.and_eq_true, decide_eq_true_eq] at hs; exact ⟨by omega, h0, by omega⟩
  split at hs
  · simp only [Bool.and_eq_true, lineb, decide_eq_true_eq] at hs; exact ⟨by omega, h0, by omega⟩
  split at hs
  · simp only [Bool.and_eq_true, rectb, decide_eq_true_eq] at hs; exact ⟨by omega, h0, by omega⟩
  split at hs
  · simp only [ringOk, Bool.and_eq_true, decide_eq_true_eq] at hs
    exact ⟨by omega, h0, by omega⟩
  · cases hs
theorem rso_len (ws : List ByteArray) : (roP (rso ws)).length ≤ 60 := by
  unfold rso
  split
  · simp [roP]
  · split
    · simp [roP]
    · split
      · rename_i h; exact (kind_natr h).2.2
      · simp [roP]
/-- The answer, in whichever memory of its own. -/
def RSA (w : World) (o : Option (Int × List (Int × Int))) (e : Ending) (w' : World) : Prop :=
  ∃ a' cap', e = .returned (.tuple #[.agg #[.int .i64 (roK o), .slice a' (roP o).length cap'], .bool o.isSome]) ∧ (roP o).length ≤ cap' ∧ OwnP w' a' (roP o) ∧ (∀ b off, a' = some ⟨b, off, none⟩ → w.heap.size ≤ b) ∧ Below w.heap.size w w'
theorem rsa_no {w w' : World} {o : Option (Int × List (Int × Int))} (h : o = none) (hb : Below w.heap.size w w') : RSA w o (.returned (.tuple #[.agg #[.int .i64 0, .slice none 0 0], .bool false])) w' := by
  subst h
  exact ⟨none, 0, rfl, Nat.le_refl _, .inl ⟨rfl, rfl⟩, fun _ _ h => (by cases h), hb⟩
theorem rsa_own {w w' : World} {o : Option (Int × List (Int × Int))} {k : Int} {l : List (Int × Int)} {b cap : Nat} (h : o = some (k, l)) (hc : l.length ≤ cap) (hb : Below w.heap.size w w') (hg : w.heap.size ≤ b) (hp : PtsOwn w' b l) : RSA w o (.returned (.tuple #[.agg #[.int .i64 k, .slice (some ⟨b, 0, none⟩) l.length cap], .bool true])) w' := by
  subst h
  exact ⟨some ⟨b, 0, none⟩, cap, rfl, hc, .inr ⟨b, rfl, hp⟩, fun b' off h => by injection h with h; injection h with h1; omega, hb⟩
/-- The table of the words lies in its place. -/
def KWr (w : World) : Prop := ∀ k : Nat, k ≤ 3 → w.cell? ⟨0, k, none⟩ = some (.string (kwr k))
theorem KWr.below {w w' : World} (h : KWr w) (hb : Below w.heap.size w w') : KWr w' := fun k hk => keepcell hb (h k hk)
theorem names_r (w : World) : Calls Tryz.prog 55 #[] w fun e w' => e = .returned (.slice (some ⟨w.heap.size, 0, none⟩) 4 4) ∧ w' = w.alloc (.cells #[.string (kwr 0), .string (kwr 1), .string (kwr 2), .string (kwr 3)] 9) := by
  go_enter Tryz.func55, Tryz.ntmps55
  go_wp2_with fail
  go_ret
  exact ⟨rfl, rfl⟩
set_option maxHeartbeats 1000000 in
theorem num_ok (x : ByteArray) (hx : x.size ≤ 1048576) (w : World) (h : LibsR w) (hb : riB x = true) : Calls Tryz.prog 139 #[.string x] w fun e w' => e = .returned (.int .i64 (riN x)) ∧ Below w.heap.size w w' := by
  have H := hid (impl_ri x hx w h)
  rw [hb] at H
  clear h hb
  go_enter Tryz.func139, Tryz.ntmps139
  go_wp2_with fail
  refine H.out.mono ?_
  rintro e w1 ⟨rfl, hb⟩
  go_wp2_with fail
  go_ret
  exact ⟨rfl, hb⟩
set_option maxHeartbeats 1000000 in
theorem num_no (x : ByteArray) (hx : x.size ≤ 1048576) (w : World) (h : LibsR w) (hb : riB x = false) : Calls Tryz.prog 139 #[.string x] w fun e w' => Refused e ∧ Below w.heap.size w w' := by
  have H := hid (impl_ri x hx w h)
  rw [hb] at H
  clear h hb
  go_enter Tryz.func139, Tryz.ntmps139
  go_wp2_with fail
  refine H.out.mono ?_
  rintro e w1 ⟨rfl, hb⟩
  go_wp2_with fail
  exact ⟨rfl, ⟨_, rfl⟩, hb⟩
theorem str_eq (a b : ByteArray) : (a.toList == b.toList) = decide (a = b) := by
  by_cases h : a = b
  · subst h; simp
  · simp only [h, decide_false]
    rw [beq_eq_false_iff_ne]
    intro e
    apply h
    rw [ByteArray.toList_eq, ByteArray.toList_eq] at e
    cases a; cases b
    simp only at e ⊢
    congr
    exact Array.toList_inj.1 e
end Go.Proofs.YtenlhgnobfadgaaGreatDoor
namespace Go.Proofs.YtenlhgnobfadgaaGreatDoor
open Go.RowKit
set_option linter.unusedVariables false
theorem kw_idx (a b c d : Value) (w : World) : (Instr.index 98 (.agg #[a, b, c, d]) (.int .i64 0)).run Tryz.prog w = .ok a w ∧ (Instr.index 98 (.agg #[a, b, c, d]) (.int .i64 1)).run Tryz.prog w = .ok b w ∧ (Instr.index 98 (.agg #[a, b, c, d]) (.int .i64 2)).run Tryz.prog w = .ok c w ∧ (Instr.index 98 (.agg #[a, b, c, d]) (.int .i64 3)).run Tryz.prog w = .ok d w := ⟨by kernel_rfl, by kernel_rfl, by kernel_rfl, by kernel_rfl⟩
theorem kw_other {x : ByteArray} {m : Nat} (hm : m ≤ 3) (h : kdr x ≠ some m) : ((kwr m).toList == x.toList) = false := by
  rw [str_eq, decide_eq_false_iff_not]
  intro e
  exact h ((kdr_at x m hm).1 e.symm)
theorem kw_same {x : ByteArray} {m : Nat} (hm : m ≤ 3) (h : kdr x = some m) : ((kwr m).toList == x.toList) = true := by
  rw [str_eq, decide_eq_true_iff]
  exact ((kdr_at x m hm).2 h).symm
set_option maxHeartbeats 2000000 in
theorem kind_ok (x : ByteArray) (m : Nat) (hk : kdr x = some m) (w : World) (h : KWr w) : Calls Tryz.prog 138 #[.string x] w fun e w' => e = .returned (.int .i64 m) ∧ w' = w := by
  have hm := kdr_le hk
  have i0 := fun w => (kw_idx (.string (kwr 0)) (.string (kwr 1)) (.string (kwr 2)) (.string (kwr 3)) w).1
  have i1 := fun w => (kw_idx (.string (kwr 0)) (.string (kwr 1)) (.string (kwr 2)) (.string (kwr 3)) w).2.1
  have i2 := fun w => (kw_idx (.string (kwr 0)) (.string (kwr 1)) (.string (kwr 2)) (.string (kwr 3)) w).2.2.1
  have i3 := fun w => (kw_idx (.string (kwr 0)) (.string (kwr 1)) (.string (kwr 2)) (.string (kwr 3)) w).2.2.2
  have c0 := h 0 (by omega)
  have c1 := h 1 (by omega)
  have c2 := h 2 (by omega)
  have c3 := h 3 (by omega)
  obtain rfl | rfl | rfl | rfl : m = 0 ∨ m = 1 ∨ m = 2 ∨ m = 3 := by omega
  · have q0 := kw_same (x := x) (m := 0) (by omega) hk
    clear h hk hm
    generalize kwr 0 = k0 at *
    generalize kwr 1 = k1 at *
    generalize kwr 2 = k2 at *
    generalize kwr 3 = k3 at *
    go_enter Tryz.func138, Tryz.ntmps138
    go_wp2_with fail
    refine wp_loop_rounds 1 ?_
    rw [rounds_succ]
    go_wp2_with fail
    go_ret
    exact ⟨rfl, rfl⟩
  · have q0 := kw_other (x := x) (m := 0) (by omega) (by rw [hk]; decide)
    have q1 := kw_same (x := x) (m := 1) (by omega) hk
    clear h hk hm
    generalize kwr 0 = k0 at *
    generalize kwr 1 = k1 at *
    generalize kwr 2 = k2 at *
    generalize kwr 3 = k3 at *
    go_enter Tryz.func138, Tryz.ntmps138
    go_wp2_with fail
    refine wp_loop_rounds 2 ?_
    rw [rounds_succ]
    go_wp2_with fail
    rw [rounds_succ]
    go_wp2_with fail
    go_ret
    exact ⟨rfl, rfl⟩
  · have q0 := kw_other (x := x) (m := 0) (by omega) (by rw [hk]; decide)
    have q1 := kw_other (x := x) (m := 1) (by omega) (by rw [hk]; decide)
    have q2 := kw_same (x := x) (m := 2) (by omega) hk
    clear h hk hm
    generalize kwr 0 = k0 at *
    generalize kwr 1 = k1 at *
    generalize kwr 2 = k2 at *
    generalize kwr 3 = k3 at *
    go_enter Tryz.func138, Tryz.ntmps138
    go_wp2_with fail
    refine wp_loop_rounds 3 ?_
    rw [rounds_succ]
    go_wp2_with fail
    rw [rounds_succ]
    go_wp2_with fail
    rw [rounds_succ]
    go_wp2_with fail
    go_ret
    exact ⟨rfl, rfl⟩
  · have q0 := kw_other (x := x) (m := 0) (by omega) (by rw [hk]; decide)
    have q1 := kw_other (x := x) (m := 1) (by omega) (by rw [hk]; decide)
    have q2 := kw_other (x := x) (m := 2) (by omega) (by rw [hk]; decide)
    have q3 := kw_same (x := x) (m := 3) (by omega) hk
    clear h hk hm
    generalize kwr 0 = k0 at *
    generalize kwr 1 = k1 at *
    generalize kwr 2 = k2 at *
    generalize kwr 3 = k3 at *
    go_enter Tryz.func138, Tryz.ntmps138
    go_wp2_with fail
    refine wp_loop_rounds 4 ?_
    rw [rounds_succ]
    go_wp2_with fail
    rw [rounds_succ]
    go_wp2_with fail
    rw [rounds_succ]
    go_wp2_with fail
    rw [rounds_succ]
    go_wp2_with fail
    go_ret
    exact ⟨rfl, rfl⟩
set_option maxHeartbeats 2000000 in
theorem kind_no (x : ByteArray) (hk : kdr x = none) (w : World) (h : KWr w) : Calls Tryz.prog 138 #[.string x] w fun e w' => Refused e ∧ w' = w := by
  have i0 := fun w => (kw_idx (.string (kwr 0)) (.string (kwr 1)) (.string (kwr 2)) (.string (kwr 3)) w).1
  have i1 := fun w => (kw_idx (.string (kwr 0)) (.string (kwr 1)) (.string (kwr 2)) (.string (kwr 3)) w).2.1
  have i2 := fun w => (kw_idx (.string (kwr 0)) (.string (kwr 1)) (.string (kwr 2)) (.string (kwr 3)) w).2.2.1
  have i3 := fun w => (kw_idx (.string (kwr 0)) (.string (kwr 1)) (.string (kwr 2)) (.string (kwr 3)) w).2.2.2
  have c0 := h 0 (by omega)
  have c1 := h 1 (by omega)
  have c2 := h 2 (by omega)
  have c3 := h 3 (by omega)
  have q0 := kw_other (x := x) (m := 0) (by omega) (by rw [hk]; decide)
  have q1 := kw_other (x := x) (m := 1) (by omega) (by rw [hk]; decide)
  have q2 := kw_other (x := x) (m := 2) (by omega) (by rw [hk]; decide)
  have q3 := kw_other (x := x) (m := 3) (by omega) (by rw [hk]; decide)
  clear h hk
  generalize kwr 0 = k0 at *
  generalize kwr 1 = k1 at *
  generalize kwr 2 = k2 at *
  generalize kwr 3 = k3 at *
  go_enter Tryz.func138, Tryz.ntmps138
  go_wp2_with fail
  refine wp_loop_rounds 5 ?_
  rw [rounds_succ]
  go_wp2_with fail
  rw [rounds_succ]
  go_wp2_with fail
  rw [rounds_succ]
  go_wp2_with fail
  rw [rounds_succ]
  go_wp2_with fail
  rw [rounds_succ]
  go_wp2_with fail
  exact ⟨rfl, ⟨_, rfl⟩, rfl⟩
end Go.Proofs.YtenlhgnobfadgaaGreatDoor
namespace Go.Proofs.YtenlhgnobfadgaaGreatDoor
open Go.RowKit
set_option linter.unusedVariables false
theorem texts_setS {w : World} {g cap q k : Nat} {u : Value} {l : List ByteArray} (h : Texts w g cap l) (hne : q ≠ g) : Texts (w.setCell ⟨q, k, none⟩ u) g cap l := h.kept (grown_set w q k u) (by simpa using hne)
theorem set2_0s {w : World} {p : Nat} {x y u : Value} {t : TypeId} (h : w.heap[p]? = some (.cells #[x, y] t (0, 0))) : (w.setCell ⟨p, 0, none⟩ u).heap[p]? = some (.cells #[u, y] t (0, 0)) := by
  have hlt := lt_of_block h
  have h' : w.heap[p] = .cells #[x, y] t (0, 0) := by simpa [Array.getElem?_eq_getElem hlt] using h
  show (w.heap.modify p _)[p]? = _
  rw [Array.getElem?_eq_getElem (by simpa using hlt), Array.getElem_modify_self, h']
  rfl
/-- The kind that the first i words of the kinds tell. -/
def kdi (x : ByteArray) (i : Nat) : Int := match kdr x with | none => -1 | some m => if m < i then (m : Int) else -1
theorem kdi_hit {x : ByteArray} {i : Nat} (h : kdr x = some i) : kdi x (i + 1) = (i : Int) := by unfold kdi; rw [h]; simp
theorem kdi_miss {x : ByteArray} {i : Nat} (h : kdr x ≠ some i) : kdi x (i + 1) = kdi x i := by
  unfold kdi
  split
  · rfl
  · rename_i m hm
    have : m ≠ i := fun e => h (by rw [hm, e])
    by_cases hl : m < i
    · rw [if_pos (by omega), if_pos hl]
    · rw [if_neg (by omega), if_neg hl]
theorem names_cell (w : World) (i : Nat) (h : i ≤ 3) : (w.alloc (.cells #[.string (kwr 0), .string (kwr 1), .string (kwr 2), .string (kwr 3)] 9)).cell? ⟨w.heap.size, i, none⟩ = some (.string (kwr i)) := by
  rw [World.cell?_alloc_at _ _ _ _ rfl]
  obtain rfl | rfl | rfl | rfl : i = 0 ∨ i = 1 ∨ i = 2 ∨ i = 3 := by omega
  all_goals rfl
theorem drop2s {ws : List ByteArray} {i : Nat} (h : i + 1 < ws.length) : ws.drop i = ws[i] :: ws[i + 1] :: ws.drop (i + 2) := by
  rw [List.drop_eq_getElem_cons (by omega), List.drop_eq_getElem_cons h]
theorem rso_odd {ws : List ByteArray} (h : ws.length % 2 = 0) (h0 : 0 < ws.length) : rso ws = none := by
  unfold rso
  split
  · rfl
  · cases hr : rdp (ws.drop 1) with
    | none => rfl
    | some l =>
      have := rdp_len _ _ l (Nat.le_refl _) hr
      rw [List.length_drop] at this; omega
theorem rso_long {ws : List ByteArray} (h : 121 < ws.length) : rso ws = none := by
  unfold rso
  split
  · rfl
  · cases hr : rdp (ws.drop 1) with
    | none => rfl
    | some l =>
      have := rdp_len _ _ l (Nat.le_refl _) hr
      rw [List.length_drop] at this
      simp only
      split
      · rename_i hk
        have := kind_natr hk
        omega
      · rfl
theorem rso_rdp {ws : List ByteArray} (h : rdp (ws.drop 1) = none) : rso ws = none := by
  unfold rso
  rw [h]
  split <;> rfl
theorem rso_kd {ws : List ByteArray} {l : List (Int × Int)} {x : ByteArray} (hx : x = ws.getD 0 ⟨#[]⟩) (h : rdp (ws.drop 1) = some l) : rso ws = if shok (kdi x 4) l = true then some (kdi x 4, l) else none := by
  unfold rso kdi
  rw [h, ← hx]
  cases hk : kdr x with
  | none =>
    simp only
    rw [if_neg]
    intro hs
    have := (kind_natr hs).1
    omega
  | some m =>
    have := kdr_le hk
    have h4 : (if m < 4 then (m : Int) else -1) = (m : Int) := if_pos (by omega)
    simp only
    rw [h4]
theorem rsa_row {w w' : World} {B : Nat} {o : Option (Int × List (Int × Int))} {k : Int} {l : List (Int × Int)} {ao : Option Addr} {n cap : Nat} (h : o = some (k, l)) (hb : Below w.heap.size w w') (hr : PtRow w' B (.slice ao n cap) l) (hB : w.heap.size ≤ B) (h0 : 0 < l.length) : RSA w o (.returned (.tuple #[.agg #[.int .i64 k, .slice ao n cap], .bool true])) w' := by
  subst h
  obtain ⟨g, c, e, hg, hc, hp⟩ := hr.ownG h0
  injection e with e1 e2 e3
  subst e1 e2 e3
  exact ⟨some ⟨g, 0, none⟩, cap, rfl, hc, .inr ⟨g, rfl, hp⟩, fun b off h => by injection h with h; injection h with h1; omega, hb⟩
set_option maxRecDepth 100000 in
set_option maxHeartbeats 4000000 in
theorem spec_l03Read (ws : List ByteArray) (g cap n : Nat) (w : World) (hn : ws.length = n) (hw0 : 0 < n) (hw1 : n ≤ 1048577) (hsz : ∀ x ∈ ws, x.size ≤ 1048576) (hT : Texts w g cap ws) : Calls Tryz.prog 21 #[.slice (some ⟨g, 0, none⟩) n cap] w fun e w' => RSA w (rso ws) e w' := by
  have HNL := hid hn
  have HSZ := hid hsz
  have HT := hid hT
  have hgl := hT.lt
  clear hT hsz hn
  obtain ⟨x, hx⟩ : ∃ x, x = ws.getD 0 ⟨#[]⟩ := ⟨_, rfl⟩
  have HX := hid hx
  clear hx
  have hni : (0 : Int) < (n : Int) := by omega
  go_enter Tryz.func21, Tryz.ntmps21
  go_wp2_with fail
  have hb0 : Below w.heap.size w ((w.alloc (.cells #[.int .i64 0, .slice none 0 0] 48)).alloc (.cells #[.int .i64 (-1), .slice none 0 0] 48)) := balloc (balloc (Below.refl _ _) _) _
  have g2 := old_alloc (o' := (.cells #[.int .i64 (-1), .slice none 0 0] 48)) (new_alloc w w.heap.size (.cells #[.int .i64 0, .slice none 0 0] 48) rfl)
  have g4 := new_alloc (w.alloc (.cells #[.int .i64 0, .slice none 0 0] 48)) (w.heap.size + 1) (.cells #[.int .i64 (-1), .slice none 0 0] 48) (by simp)
  replace HT := hid (HT.out.kept (grown_all hb0 none) (by simp))
  have hB := hb0
  generalize ((w.alloc (.cells #[.int .i64 0, .slice none 0 0] 48)).alloc (.cells #[.int .i64 (-1), .slice none 0 0] 48)) = W at *
  clear hb0
  go_loopw [5] (fun ti wr => ∃ i : Nat, ti = .int .i64 i ∧ i ≤ 4 ∧ Hid (Texts wr g cap ws) ∧ Hid (wr.heap[w.heap.size]? = some (.cells #[.int .i64 0, .slice none 0 0] 48 (0, 0))) ∧ Hid (wr.heap[w.heap.size + 1]? = some (.cells #[.int .i64 (kdi x i), .slice none 0 0] 48 (0, 0))) ∧ Hid (Below w.heap.size w wr)) (fun ti _ => 4 - (intOf ti).toNat)
  case atStart => exact ⟨0, rfl, Nat.zero_le _, HT, hid g2, hid (by rw [show kdi x 0 = -1 by unfold kdi; split <;> simp]; exact g4), hid hB⟩
  case round =>
    clear HT g2 g4 hB
    obtain ⟨i, rfl, hi, HT, G2, G4, HBW⟩ := hrel
    by_cases hlt : i < 4
    · have c1 : (i : Int) < 4 := by omega
      have hc0 : wr.cell? ⟨g, 0, none⟩ = some (.string x) := by
        have h0 : 0 < ws.length := by rw [HNL.out]; exact hw0
        rw [HX.out, List.getD_eq_getElem?_getD, List.getElem?_eq_getElem h0]; exact HT.out.cell 0 h0
      by_cases hk : kdr x = some i
      · have q0 := kw_same (x := x) (m := i) (by omega) hk
        go_wp2_with fail
        refine wp_region_held_drew (S := (fun w' => w'.cell? ⟨g, 0, none⟩ = some (.string x))) (by kernel_rfl) ?_ (fun hHeld => ?_)
        · exact hc0
        have g2 := G2.out
        have g4 := G4.out
        have hB := HBW.out
        replace g2 : wr.drew.heap[w.heap.size]? = some (.cells #[.int .i64 0, .slice none 0 0] 48 (0, 0)) := g2
        replace g4 : wr.drew.heap[w.heap.size + 1]? = some (.cells #[.int .i64 (kdi x i), .slice none 0 0] 48 (0, 0)) := g4
        replace HT : Hid (Texts wr.drew g cap ws) := hid (HT.out.kept (grown_drew (grown_same wr none) 1) (by simp))
        replace hB := bdrew hB
        replace hc0 : wr.drew.cell? ⟨g, 0, none⟩ = some (.string x) := hc0
        clear G2 G4 HBW
        generalize wr.drew = z0 at *
        refine wpAnyH_take (i := 1) (v := ?_) rfl (by kernel_rfl) (by kernel_rfl) (by kernel_rfl) (fun _ _ _ h => h) (Or.inl ⟨by rfl, ?_⟩) hHeld ?_
        rotate_left
        · intro w hSw; (try dsimp only at hSw); go_simp; try (with_reducible rfl)
        try simp only [sq]
        refine wpAnyH_take (i := 4) (v := ?_) rfl (by kernel_rfl) (by kernel_rfl) (by kernel_rfl) (fun _ _ _ h => h) (Or.inl ⟨by rfl, ?_⟩) hHeld ?_
        rotate_left
        · intro w hSw; (try dsimp only at hSw); go_simp; try (with_reducible rfl)
        try simp only [sq]
        refine wpAnyH_take (i := 5) (v := ?_) rfl (by kernel_rfl) (by kernel_rfl) (by kernel_rfl) (fun _ _ _ h => h) (Or.inl ⟨by rfl, ?_⟩) hHeld ?_
        rotate_left
        · intro w hSw; (try dsimp only at hSw); go_simp; try (with_reducible rfl)
        try simp only [sq]
        refine wpAnyH_take (i := 6) (v := ?_) rfl (by kernel_rfl) (by kernel_rfl) (by kernel_rfl) (fun _ _ _ h => h) (Or.inl ⟨by rfl, ?_⟩) hHeld ?_
        rotate_left
        · intro w hSw; (try dsimp only at hSw); go_simp; try (with_reducible rfl)
        try simp only [sq]
        refine wpAnyH_ready (rs := [0]) (by kernel_rfl) (by simp) ?_
        refine (AllReadyH.cons rfl (fun K hK => ?_) AllReadyH.nil)
        try simp only [sq]
        go_simp
        go_at_call 55
        refine (names_r _).mono ?_
        rintro e z1 ⟨rfl, hw⟩
        have hnm := names_cell z0 i (by omega)
        rw [← hw] at hnm
        have hb9 : Below z0.heap.size z0 z1 := by rw [hw]; exact balloc (Below.refl _ _) _
        clear hw
        replace hc0 := keepcell hb9 hc0
        replace g2 := keepheap hb9 g2
        replace g4 := keepheap hb9 g4
        replace HT := hid (HT.out.kept (grown_all hb9 none) (by simp))
        replace hB := btrans hB hb9
        have hl0 : z0.heap.size < z1.heap.size := World.block_lt_of_cell? z1 _ hnm
        go_wp2_with fail
        refine hK.out _ _ ?_ (fun hHeld => ?_)
        · (repeat' apply And.intro) <;> (repeat (first | with_reducible assumption | with_reducible refine keepset ?_ (by dsimp only; omega) | with_reducible refine keepdrew ?_ | with_reducible refine keepcell (by with_reducible assumption) ?_ | with_reducible refine keepalloc ?_ _))
        clear hK K
        try simp only [sq]
        clear hb9
        refine wpAnyH_take (i := 2) (v := ?_) rfl (by kernel_rfl) (by kernel_rfl) (by kernel_rfl) (fun _ _ _ h => h) (Or.inl ⟨by rfl, ?_⟩) hHeld ?_
        rotate_left
        · intro w hSw; (try dsimp only at hSw); go_simp; try (with_reducible rfl)
        try simp only [sq]
        refine wpAnyH_ready (rs := [3]) (by kernel_rfl) (by simp) ?_
        refine (AllReadyH.cons rfl (fun K hK => ?_) AllReadyH.nil)
        try simp only [sq]
        go_simp
        refine hK.out _ _ ?_ (fun hHeld => ?_)
        · (repeat' apply And.intro) <;> (repeat (first | with_reducible assumption | with_reducible refine keepset ?_ (by dsimp only; omega) | with_reducible refine keepdrew ?_ | with_reducible refine keepcell (by with_reducible assumption) ?_ | with_reducible refine keepalloc ?_ _))
        clear hK K
        try simp only [sq]
        refine wpAnyH_take (i := 7) (v := ?_) rfl (by kernel_rfl) (by kernel_rfl) (by kernel_rfl) (fun _ _ _ h => h) (Or.inl ⟨by rfl, ?_⟩) hHeld ?_
        rotate_left
        · intro w hSw; (try dsimp only at hSw); go_simp; try (with_reducible rfl)
        try simp only [sq]
        refine wpAnyH_done (by kernel_rfl) ?_ _
        obtain ⟨u0', u1', u2', u3'⟩ := cell2g g4
        go_wp2_with fail
        go_roundw
        case rel => exact ⟨i + 1, by go_num, by omega, hid (texts_setS HT.out (by omega)), hid (set_far g2 (by omega)), hid (by rw [kdi_hit hk]; exact set2_0s g4), hid (bset hB (by omega) _)⟩
        case measure => simp [intOf]; omega
      · have q0 := kw_other (x := x) (m := i) (by omega) hk
        go_wp2_with fail
        refine wp_region_held_drew (S := (fun w' => w'.cell? ⟨g, 0, none⟩ = some (.string x))) (by kernel_rfl) ?_ (fun hHeld => ?_)
        · exact hc0
        have g2 := G2.out
        have g4 := G4.out
        have hB := HBW.out
        replace g2 : wr.drew.heap[w.heap.size]? = some (.cells #[.int .i64 0, .slice none 0 0] 48 (0, 0)) := g2
        replace g4 : wr.drew.heap[w.heap.size + 1]? = some (.cells #[.int .i64 (kdi x i), .slice none 0 0] 48 (0, 0)) := g4
        replace HT : Hid (Texts wr.drew g cap ws) := hid (HT.out.kept (grown_drew (grown_same wr none) 1) (by simp))
        replace hB := bdrew hB
        replace hc0 : wr.drew.cell? ⟨g, 0, none⟩ = some (.string x) := hc0
        clear G2 G4 HBW
        generalize wr.drew = z0 at *
        refine wpAnyH_take (i := 1) (v := ?_) rfl (by kernel_rfl) (by kernel_rfl) (by kernel_rfl) (fun _ _ _ h => h) (Or.inl ⟨by rfl, ?_⟩) hHeld ?_
        rotate_left
        · intro w hSw; (try dsimp only at hSw); go_simp; try (with_reducible rfl)
        try simp only [sq]
        refine wpAnyH_take (i := 4) (v := ?_) rfl (by kernel_rfl) (by kernel_rfl) (by kernel_rfl) (fun _ _ _ h => h) (Or.inl ⟨by rfl, ?_⟩) hHeld ?_
        rotate_left
        · intro w hSw; (try dsimp only at hSw); go_simp; try (with_reducible rfl)
        try simp only [sq]
        refine wpAnyH_take (i := 5) (v := ?_) rfl (by kernel_rfl) (by kernel_rfl) (by kernel_rfl) (fun _ _ _ h => h) (Or.inl ⟨by rfl, ?_⟩) hHeld ?_
        rotate_left
        · intro w hSw; (try dsimp only at hSw); go_simp; try (with_reducible rfl)
        try simp only [sq]
        refine wpAnyH_take (i := 6) (v := ?_) rfl (by kernel_rfl) (by kernel_rfl) (by kernel_rfl) (fun _ _ _ h => h) (Or.inl ⟨by rfl, ?_⟩) hHeld ?_
        rotate_left
        · intro w hSw; (try dsimp only at hSw); go_simp; try (with_reducible rfl)
        try simp only [sq]
        refine wpAnyH_ready (rs := [0]) (by kernel_rfl) (by simp) ?_
        refine (AllReadyH.cons rfl (fun K hK => ?_) AllReadyH.nil)
        try simp only [sq]
        go_simp
        go_at_call 55
        refine (names_r _).mono ?_
        rintro e z1 ⟨rfl, hw⟩
        have hnm := names_cell z0 i (by omega)
        rw [← hw] at hnm
        have hb9 : Below z0.heap.size z0 z1 := by rw [hw]; exact balloc (Below.refl _ _) _
        clear hw
        replace hc0 := keepcell hb9 hc0
        replace g2 := keepheap hb9 g2
        replace g4 := keepheap hb9 g4
        replace HT := hid (HT.out.kept (grown_all hb9 none) (by simp))
        replace hB := btrans hB hb9
        have hl0 : z0.heap.size < z1.heap.size := World.block_lt_of_cell? z1 _ hnm
        go_wp2_with fail
        refine hK.out _ _ ?_ (fun hHeld => ?_)
        · (repeat' apply And.intro) <;> (repeat (first | with_reducible assumption | with_reducible refine keepset ?_ (by dsimp only; omega) | with_reducible refine keepdrew ?_ | with_reducible refine keepcell (by with_reducible assumption) ?_ | with_reducible refine keepalloc ?_ _))
        clear hK K
        try simp only [sq]
        clear hb9
        refine wpAnyH_take (i := 2) (v := ?_) rfl (by kernel_rfl) (by kernel_rfl) (by kernel_rfl) (fun _ _ _ h => h) (Or.inl ⟨by rfl, ?_⟩) hHeld ?_
        rotate_left
        · intro w hSw; (try dsimp only at hSw); go_simp; try (with_reducible rfl)
        try simp only [sq]
        refine wpAnyH_ready (rs := [3]) (by kernel_rfl) (by simp) ?_
        refine (AllReadyH.cons rfl (fun K hK => ?_) AllReadyH.nil)
        try simp only [sq]
        go_simp
        refine hK.out _ _ ?_ (fun hHeld => ?_)
        · (repeat' apply And.intro) <;> (repeat (first | with_reducible assumption | with_reducible refine keepset ?_ (by dsimp only; omega) | with_reducible refine keepdrew ?_ | with_reducible refine keepcell (by with_reducible assumption) ?_ | with_reducible refine keepalloc ?_ _))
        clear hK K
        try simp only [sq]
        refine wpAnyH_take (i := 7) (v := ?_) rfl (by kernel_rfl) (by kernel_rfl) (by kernel_rfl) (fun _ _ _ h => h) (Or.inl ⟨by rfl, ?_⟩) hHeld ?_
        rotate_left
        · intro w hSw; (try dsimp only at hSw); go_simp; try (with_reducible rfl)
        try simp only [sq]
        refine wpAnyH_done (by kernel_rfl) ?_ _
        go_wp2_with fail
        go_roundw
        case rel => exact ⟨i + 1, by go_num, by omega, HT, hid g2, hid (by rw [kdi_miss hk]; exact g4), hid hB⟩
        case measure => simp [intOf]; omega
    · have c1' : ¬ (i : Int) < 4 := by omega
      have hk4 : kdi x i = kdi x 4 := by rw [show i = 4 by omega]
      rw [hk4] at G4
      clear hk4
      by_cases hev : n % 2 = 0
      · have HN := hid (rso_odd (ws := ws) (by rw [HNL.out]; exact hev) (by rw [HNL.out]; exact hw0))
        have ho : ((n : Int).tmod 2 == 0) = true := by
          rw [show (n : Int).tmod 2 = ((n % 2 : Nat) : Int) from rfl, hev]; rfl
        have k2 := G2.out
        have hB := HBW.out
        obtain ⟨y0, y1, y2, y3⟩ := cell2g k2
        go_wp2_with fail
        have gF := (set2 k2 (.int .i64 0) (.slice none 0 0)).1
        have bF := bset (bset hB (q := w.heap.size) (k := 0) (by omega) (.int .i64 0)) (q := w.heap.size) (k := 1) (by omega) (.slice none 0 0)
        generalize (wr.setCell ⟨w.heap.size, 0, none⟩ (.int .i64 0)).setCell ⟨w.heap.size, 1, none⟩ (.slice none 0 0) = wf at *
        obtain ⟨z0, z1, _, _⟩ := cell2g gF
        exact bodyPost_ret (v := .tuple #[.agg #[(.int .i64 0), (.slice none 0 0)], .bool false]) (by simp [results, Tryz.results21, go_sem, z0, z1]) rfl (rsa_no HN.out bF)
      have ho : ((n : Int).tmod 2 == 0) = false := by
        rw [show (n : Int).tmod 2 = ((n % 2 : Nat) : Int) from rfl, show n % 2 = 1 by omega]; rfl
      by_cases hlong : 121 < n
      · have HN := hid (rso_long (ws := ws) (by rw [HNL.out]; exact hlong))
        have hl' : (121 : Int) < (n : Int) := by omega
        have ho2 : ((n : Int) % 2 == 0) = false := by rw [beq_eq_false_iff_ne]; omega
        have k2 := G2.out
        have hB := HBW.out
        obtain ⟨y0, y1, y2, y3⟩ := cell2g k2
        go_wp2_with fail
        have gF := (set2 k2 (.int .i64 0) (.slice none 0 0)).1
        have bF := bset (bset hB (q := w.heap.size) (k := 0) (by omega) (.int .i64 0)) (q := w.heap.size) (k := 1) (by omega) (.slice none 0 0)
        generalize (wr.setCell ⟨w.heap.size, 0, none⟩ (.int .i64 0)).setCell ⟨w.heap.size, 1, none⟩ (.slice none 0 0) = wf at *
        obtain ⟨z0, z1, _, _⟩ := cell2g gF
        exact bodyPost_ret (v := .tuple #[.agg #[(.int .i64 0), (.slice none 0 0)], .bool false]) (by simp [results, Tryz.results21, go_sem, z0, z1]) rfl (rsa_no HN.out bF)
      have hl' : (n : Int) ≤ 121 := by omega
      have ho2 : ((n : Int) % 2 == 0) = false := by rw [beq_eq_false_iff_ne]; omega
      have hdec : decide ((121 : Int) < (n : Int)) = false := by rw [decide_eq_false_iff_not]; omega
      obtain ⟨np, hnp1, hnp2⟩ : ∃ np, n ≤ 2 * np + 1 ∧ 2 * np + 1 ≤ n := ⟨n / 2, by omega, by omega⟩
      have g2 := G2.out
      have g4 := G4.out
      have hB := HBW.out
      have hV : w.heap.size + 1 < wr.heap.size := lt_of_block g4
      have HO := hid (fun l => rso_kd (ws := ws) (l := l) HX.out)
      generalize kdi x 4 = kd at *
      clear G2 G4 HBW
      go_wp2_with fail
      clear ho ho2 hdec
      have hV0 : wr.heap.size ≤ wr.heap.size := Nat.le_refl _
      obtain ⟨B0, hB0⟩ : ∃ B0, B0 = wr.heap.size := ⟨_, rfl⟩
      rw [← hB0] at hV
      have HLW : Hid (B0 ≤ wr.heap.size ∧ PtRow wr B0 (.slice none 0 0) []) := hid ⟨by omega, ptrow_nilg _ _⟩
      clear hB0 hV0
      obtain ⟨i0, hi0, hz0, hz1, hz2⟩ := info_parts Tryz.infoP2
      go_loopw [6] (fun ti wq => ∃ j : Nat, ∃ v : Value, ∃ l : List (Int × Int), ti = .int .i64 ((2 * j + 1 : Nat) : Int) ∧ j ≤ np ∧ Hid (l.length = j) ∧ Hid (rdp (ws.drop 1) = (rdp (ws.drop (2 * j + 1))).map (fun r => l ++ r)) ∧ Hid (Texts wq g cap ws) ∧ Hid (wq.heap[w.heap.size]? = some (.cells #[.int .i64 0, .slice none 0 0] 48 (0, 0))) ∧ Hid (wq.heap[w.heap.size + 1]? = some (.cells #[.int .i64 kd, v] 48 (0, 0))) ∧ Hid (B0 ≤ wq.heap.size ∧ PtRow wq B0 v l) ∧ Hid (Below w.heap.size w wq)) (fun ti _ => 2 * np + 1 - (intOf ti).toNat)
      case atStart => exact ⟨0, _, [], rfl, Nat.zero_le _, hid rfl, hid (by simp), HT, hid g2, hid g4, HLW, hid hB⟩
      case round =>
        clear HT g2 g4 hB HLW
        obtain ⟨j, v, l, rfl, hj, HLn, HR, HT, G2, G4, HL, HBW⟩ := hrel
        by_cases hlt : j < np
        · have c1 : ((2 * j + 1 : Nat) : Int) < (n : Int) := by omega
          have c2 : ((2 * j + 1 : Nat) : Int) + 1 < (n : Int) := by omega
          have hi1 : 2 * j + 1 < ws.length := by rw [HNL.out]; omega
          have hi2 : 2 * j + 1 + 1 < ws.length := by rw [HNL.out]; omega
          have hc1 := HT.out.cell (2 * j + 1) hi1
          have hc2 := HT.out.cell (2 * j + 1 + 1) hi2
          have hz1' := HSZ.out _ (List.getElem_mem hi1)
          have hz2' := HSZ.out _ (List.getElem_mem hi2)
          have hdr : rdp (ws.drop 1) = (rdp (ws[2 * j + 1] :: ws[2 * j + 1 + 1] :: ws.drop (2 * (j + 1) + 1))).map (fun r => l ++ r) := by
            rw [HR.out, drop2s hi2]
            rfl
          generalize ws[2 * j + 1] = x1 at *
          generalize ws[2 * j + 1 + 1] = x2 at *
          have R1 := hid (fun w => spec_ri x1 hz1' w)
          have R2 := hid (fun w => spec_ri x2 hz2' w)
          have HDR := hid hdr
          clear hdr HR hi1 hi2 hz1' hz2'
          have hgl2 := HT.out.lt
          cases hb : (riB x1 && riB x2)
          · have HN := hid (rso_rdp (ws := ws) (by
              rw [HDR.out, rdp_no (by cases h1 : riB x1 <;> cases h2 : riB x2 <;> simp_all)]; rfl))
            have k2 := G2.out
            have hB := HBW.out
            obtain ⟨y0, y1, y2, y3⟩ := cell2g k2
            generalize riN x1 = a1 at *
            generalize riN x2 = a2 at *
            generalize riB x1 = b1 at *
            generalize riB x2 = b2 at *
            obtain ⟨rfl⟩ | ⟨rfl, rfl⟩ : b1 = false ∨ (b1 = true ∧ b2 = false) := by cases b1 <;> cases b2 <;> simp_all
            · go_wp2_with fail
              refine (R1.out _).mono ?_
              rintro e V1 ⟨rfl, hw⟩
              replace hw := hw.symm
              subst hw
              go_wp2_with fail
              refine (R2.out _).mono ?_
              rintro e V1 ⟨rfl, hw⟩
              replace hw := hw.symm
              subst hw
              go_wp2_with fail
              have gF := (set2 k2 (.int .i64 0) (.slice none 0 0)).1
              have bF := bset (bset hB (q := w.heap.size) (k := 0) (by omega) (.int .i64 0)) (q := w.heap.size) (k := 1) (by omega) (.slice none 0 0)
              generalize (wr.setCell ⟨w.heap.size, 0, none⟩ (.int .i64 0)).setCell ⟨w.heap.size, 1, none⟩ (.slice none 0 0) = wf at *
              obtain ⟨z0, z1, _, _⟩ := cell2g gF
              exact bodyPost_ret (v := .tuple #[.agg #[(.int .i64 0), (.slice none 0 0)], .bool false]) (by simp [results, Tryz.results21, go_sem, z0, z1]) rfl (rsa_no HN.out bF)
            · go_wp2_with fail
              refine (R1.out _).mono ?_
              rintro e V1 ⟨rfl, hw⟩
              replace hw := hw.symm
              subst hw
              go_wp2_with fail
              refine (R2.out _).mono ?_
              rintro e V1 ⟨rfl, hw⟩
              replace hw := hw.symm
              subst hw
              go_wp2_with fail
              have gF := (set2 k2 (.int .i64 0) (.slice none 0 0)).1
              have bF := bset (bset hB (q := w.heap.size) (k := 0) (by omega) (.int .i64 0)) (q := w.heap.size) (k := 1) (by omega) (.slice none 0 0)
              generalize (wr.setCell ⟨w.heap.size, 0, none⟩ (.int .i64 0)).setCell ⟨w.heap.size, 1, none⟩ (.slice none 0 0) = wf at *
              obtain ⟨z0, z1, _, _⟩ := cell2g gF
              exact bodyPost_ret (v := .tuple #[.agg #[(.int .i64 0), (.slice none 0 0)], .bool false]) (by simp [results, Tryz.results21, go_sem, z0, z1]) rfl (rsa_no HN.out bF)
          · simp only [Bool.and_eq_true] at hb
            have hr2 : rdp (ws.drop 1) = (rdp (ws.drop (2 * (j + 1) + 1))).map (fun r => (l ++ [(riN x1, riN x2)]) ++ r) := by
              rw [HDR.out, rdp_step hb.1 hb.2]
              cases rdp (ws.drop (2 * (j + 1) + 1)) with
              | none => rfl
              | some r => simp
            have HR2 := hid hr2
            rw [hb.1] at R1
            rw [hb.2] at R2
            generalize riN x1 = a1 at *
            generalize riN x2 = a2 at *
            clear hr2 HDR hb
            have k2 := G2.out
            have k4 := G4.out
            have hB := HBW.out
            have hrow := HL.out.2
            have hsz := HL.out.1
            have hown := hrow
            unfold PtRow at hown
            have hll := HLn.out
            have hv4 : some (w.heap.size + 1) ≠ v.ownBlock := fun e => absurd (hown.lt _ e.symm).1 (by omega)
            have hv2 : some w.heap.size ≠ v.ownBlock := fun e => absurd (hown.lt _ e.symm).1 (by omega)
            have hvg : some g ≠ v.ownBlock := fun e => absurd (hown.lt _ e.symm).1 (by omega)
            clear G2 G4 HBW HL
            obtain ⟨r80, r81, _, r8f⟩ := cell2g k4
            go_wp2_with fail
            refine (R1.out _).mono ?_
            rintro e V1 ⟨rfl, hw⟩
            replace hw := hw.symm
            subst hw
            go_wp2_with fail
            refine (R2.out _).mono ?_
            rintro e V1 ⟨rfl, hw⟩
            replace hw := hw.symm
            subst hw
            go_wp2_with (at_builtin; refine wpList_append_own _ rfl (.tmp 67) (.tmp 71) 46 rfl B0 91 i0 _ 2 16 Tryz.underlying46 hi0 hz0 hz1 hz2 rfl (by decide) _ _ _ rfl (hown.alloc _) ⟨wr.heap.size, 0, none⟩ 1 1 [.int .i64 a1, .int .i64 a2] rfl rfl (World.news_of_block (cs := #[.int .i64 a1, .int .i64 a2]) (t := 91) (fr := (0, 0)) (heap_alloc_new wr _)) (by simp [Value.oneCell']) (by unfold maxLen; omega) (by omega) (by simp; omega) ?_; intro v' w2 hown' hgrow hat; have hrow' := row_self hown'; obtain ⟨g', cap', rfl, hg', hcp', hpo⟩ := hrow'.ownG (by simp); have m4 := (hgrow.block (w.heap.size + 1) (by have := lt_of_block k4; simp; omega) hv4).trans (old_alloc k4); have m2 := (hgrow.block w.heap.size (by have := lt_of_block k2; simp; omega) hv2).trans (old_alloc k2); obtain ⟨t80, t81, t8f, t8g⟩ := cell2g m4)
            have hlt2 := lt_of_block m4
            have hgs := hgrow.size
            have hb2 : Below w.heap.size w w2 := (balloc hB _).grown hgrow (by have := lt_of_block k2; simp; omega) (fun k hk => by have := (hown.lt k hk).1; omega)
            have hrow2 := World.ownsRow.kept hrow' (grown_set w2 (w.heap.size + 1) 1 (.slice (some ⟨g', 0, none⟩) (l ++ [(a1, a2)]).length cap')) (Or.inr (by simp [Value.ownBlock]; omega))
            have e2 : (l ++ [(a1, a2)]).length = j + 1 := by rw [List.length_append, hll]; rfl
            rw [e2] at hrow2
            have hT2 : Texts w2 g cap ws := (HT.out.kept (grown_all (balloc (Below.refl _ wr) (.cells #[.int .i64 a1, .int .i64 a2] 91)) none) (by simp)).kept hgrow hvg.symm
            go_roundw
            case rel => exact ⟨j + 1, _, l ++ [(a1, a2)], by go_num, by omega, hid (by simp; exact hll), HR2, hid (texts_setS hT2 (by omega)), hid (set_far m2 (by omega)), hid (set_at m4), hid ⟨by simp at hgs ⊢; omega, by unfold PtRow; rw [e2]; exact hrow2⟩, hid (bset hb2 (by omega) _)⟩
            case measure => simp [intOf]; omega
        · obtain rfl : np = j := by omega
          have hr : rdp (ws.drop 1) = some l := by
            rw [HR.out, List.drop_of_length_le (by rw [HNL.out]; omega)]
            simp [rdp]
          have hln := HLn.out
          have c1 : (n : Int) ≤ ((2 * np + 1 : Nat) : Int) := by omega
          obtain ⟨ao, cp, rfl, hcap, hP⟩ := HL.out.2.pts
          have O1 := hid (fun w' (hw : Pts w' ao l) => spec_ShapeOk kd ao cp l w' (by omega) hcap hw)
          have k2 := G2.out
          have k4 := G4.out
          rw [hln] at O1 k4
          obtain ⟨r80, r81, _, r8f⟩ := cell2g k4
          have hso := HO.out l hr
          cases hk : shok kd l
          · have HN := hid (show rso ws = none by rw [hso, hk]; rfl)
            rw [hk] at O1
            have hB := HBW.out
            clear hr HR HO HBW hso
            go_wp2_with fail
            refine (O1.out _ hP).mono ?_
            rintro e V1 ⟨rfl, hcl⟩
            replace k2 := keepheap hcl k2
            replace hB := btrans hB hcl
            obtain ⟨y0, y1, y2, y3⟩ := cell2g k2
            go_wp2_with fail
            have gF := (set2 k2 (.int .i64 0) (.slice none 0 0)).1
            have bF := bset (bset hB (q := w.heap.size) (k := 0) (by omega) (.int .i64 0)) (q := w.heap.size) (k := 1) (by omega) (.slice none 0 0)
            generalize (V1.setCell ⟨w.heap.size, 0, none⟩ (.int .i64 0)).setCell ⟨w.heap.size, 1, none⟩ (.slice none 0 0) = wf at *
            obtain ⟨z0, z1, _, _⟩ := cell2g gF
            exact bodyPost_ret (v := .tuple #[.agg #[(.int .i64 0), (.slice none 0 0)], .bool false]) (by simp [results, Tryz.results21, go_sem, z0, z1]) rfl (rsa_no HN.out bF)
          · have HY := hid (show rso ws = some (kd, l) by rw [hso, hk]; rfl)
            rw [hk] at O1
            have hB := HBW.out
            have hrow := HL.out.2
            rw [hln] at hrow
            have hsz := HL.out.1
            have hpos := (kind_natr hk).2.1
            clear hr HR HO HBW HL G2 G4 hso
            go_wp2_with fail
            refine (O1.out _ hP).mono ?_
            rintro e V1 ⟨rfl, hcl⟩
            replace k2 := keepheap hcl k2
            replace k4 := keepheap hcl k4
            replace hB := btrans hB hcl
            replace hrow := hrow.bel hcl
            clear hcl hP r80 r81 r8f
            obtain ⟨r80, r81, _, r8f⟩ := cell2g k4
            obtain ⟨y0, y1, y2, y3⟩ := cell2g k2
            clear hln
            go_wp2_with fail
            have gF := (set2 k2 (.int .i64 kd) (.slice ao np cp)).1
            have bF := bset (bset hB (q := w.heap.size) (k := 0) (by omega) (.int .i64 kd)) (q := w.heap.size) (k := 1) (by omega) (.slice ao np cp)
            have rF := (hrow.set (q := w.heap.size) (k := 0) (u := .int .i64 kd) (by omega)).set (q := w.heap.size) (k := 1) (u := .slice ao np cp) (by omega)
            generalize (V1.setCell ⟨w.heap.size, 0, none⟩ (.int .i64 kd)).setCell ⟨w.heap.size, 1, none⟩ (.slice ao np cp) = wf at *
            obtain ⟨z0, z1, _, _⟩ := cell2g gF
            exact bodyPost_ret (v := .tuple #[.agg #[(.int .i64 kd), (.slice ao np cp)], .bool true]) (by simp [results, Tryz.results21, go_sem, z0, z1]) rfl (rsa_row HY.out bF rF (by omega) hpos)
theorem blk_farS (w : World) (q k b : Nat) (u : Value) (h : q ≠ b) : (w.setCell ⟨q, k, none⟩ u).heap[b]? = w.heap[b]? := by
  show (w.heap.modify q _)[b]? = _
  rw [Array.getElem?_modify, if_neg h]
end Go.Proofs.YtenlhgnobfadgaaGreatDoor
