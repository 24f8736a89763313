/- Texts of stores, joined: RsM. -/
import Derived.Test.YtjafahhoihlliaaGreatDoorJ4
import Derived.Test.YtjafahhoihlliaaGreatDoorJ6
import Derived.Test.YtjafahhoihlliaaGreatDoorJ15
import Derived.Test.YtjafahhoihlliaaGreatDoorJ30
import Derived.Test.YtjafahhoihlliaaGreatDoorJ27
namespace Go.Proofs.YtjafahhoihlliaaGreatDoor
open Go.RowKit
set_option linter.unusedVariables false
/-- The number of a text, where it is one's decimal text and has nine digits at most. -/
noncomputable def ri (x : ByteArray) : Option Int := open Classical in if h : ∃ a : Int, -999999999 ≤ a ∧ a ≤ 999999999 ∧ x.data.toList = Lib.itoa a then some (Classical.choose h) else none
theorem ri_true {x : ByteArray} {a : Int} (h : Ans x.data.toList a true) : ri x = some a := by
  have hx : ∃ a : Int, -999999999 ≤ a ∧ a ≤ 999999999 ∧ x.data.toList = Lib.itoa a := by
    rcases h with ⟨_, h1, h2, h3⟩ | ⟨h, _⟩
    · exact ⟨a, h2, h3, h1⟩
    · cases h
  have hc := Classical.choose_spec hx
  have e := (Ans.same (b := true) (.inl ⟨rfl, hc.2.2, hc.1, hc.2.1⟩) h).1
  unfold ri
  rw [dif_pos hx, e]
theorem ri_false {x : ByteArray} {a : Int} (h : Ans x.data.toList a false) : ri x = none ∧ a = 0 := by
  rcases h with ⟨h, _⟩ | ⟨_, h0, h⟩
  · cases h
  · refine ⟨?_, h0⟩
    unfold ri
    rw [dif_neg]
    rintro ⟨v, h1, h2, h3⟩
    exact h v h1 h2 h3
noncomputable def riN (x : ByteArray) : Int := (ri x).getD 0
noncomputable def riB (x : ByteArray) : Bool := (ri x).isSome
theorem ri_ans {x : ByteArray} {a : Int} {b : Bool} (h : Ans x.data.toList a b) : a = riN x ∧ b = riB x := by
  cases b
  · obtain ⟨h1, h2⟩ := ri_false h
    unfold riN riB; rw [h1]; exact ⟨h2, rfl⟩
  · have h1 := ri_true h
    unfold riN riB; rw [h1]; exact ⟨rfl, rfl⟩
theorem spec_ri (x : ByteArray) (hx : x.size ≤ 1048576) (w : World) : Calls Tryz.prog 70 #[.string x] w fun e w' => e = .returned (.tuple #[.int .i64 (riN x), .bool (riB x)]) ∧ w' = w :=
  (spec_read x hx w).mono fun e w' ⟨⟨a, b, he, ha⟩, hw⟩ => ⟨by obtain ⟨rfl, rfl⟩ := ri_ans ha; exact he, hw⟩
/-- What the library does for the numbers and the words, in every world from here on. -/
def LibsR (w : World) : Prop := (∀ (s : ByteArray) (w' : World), s.size ≤ 1048576 → Below w.heap.size w w' → AtoiOk s w' ∧ AtoiNo s w' ∧ SplitAt s w') ∧ ItoaAll w ∧ CloneAll
theorem LibsR.below {w w' : World} (h : LibsR w) (hb : Below w.heap.size w w') : LibsR w' :=
  ⟨fun s v hs hv => h.1 s v hs (btrans hb hv), fun n v h0 h1 hv => h.2.1 n v h0 h1 (btrans hb hv), h.2.2⟩
theorem impl_ri (x : ByteArray) (hx : x.size ≤ 1048576) (w : World) (h : LibsR w) : Calls Tryz.prog 88 #[.string x] w fun e w' => e = .returned (.tuple #[.int .i64 (riN x), .bool (riB x)]) ∧ Below w.heap.size w w' :=
  (impl_read x w (h.1 x w hx (Below.refl _ _)).1 (h.1 x w hx (Below.refl _ _)).2.1 h.2.1).mono fun e w' ⟨⟨a, b, he, ha⟩, hw⟩ => ⟨by obtain ⟨rfl, rfl⟩ := ri_ans ha; exact he, hw⟩
/-- The words of the kinds. -/
def kwr : Nat → ByteArray
  | 0 => ⟨#[80, 79, 73, 78, 84]⟩
  | 1 => ⟨#[76, 73, 78, 69]⟩
  | 2 => ⟨#[82, 69, 67, 84]⟩
  | _ => ⟨#[80, 79, 76, 89]⟩
def kdr (x : ByteArray) : Option Nat := if x = kwr 0 then some 0 else if x = kwr 1 then some 1 else if x = kwr 2 then some 2 else if x = kwr 3 then some 3 else none
theorem kdr_at (x : ByteArray) (m : Nat) (hm : m ≤ 3) : x = kwr m ↔ kdr x = some m := by
  have h01 : kwr 0 ≠ kwr 1 := by decide
  have h02 : kwr 0 ≠ kwr 2 := by decide
  have h03 : kwr 0 ≠ kwr 3 := by decide
  have h12 : kwr 1 ≠ kwr 2 := by decide
  have h13 : kwr 1 ≠ kwr 3 := by decide
  have h23 : kwr 2 ≠ kwr 3 := by decide
  unfold kdr
  constructor
  · intro h
    obtain rfl | rfl | rfl | rfl : m = 0 ∨ m = 1 ∨ m = 2 ∨ m = 3 := by omega
    · rw [if_pos h]
    · subst h; rw [if_neg h01.symm, if_pos rfl]
    · subst h; rw [if_neg h02.symm, if_neg h12.symm, if_pos rfl]
    · subst h; rw [if_neg h03.symm, if_neg h13.symm, if_neg h23.symm, if_pos rfl]
  · intro h
    split at h
    · injection h with h; subst h; assumption
    split at h
    · injection h with h; subst h; assumption
    split at h
    · injection h with h; subst h; assumption
    split at h
    · injection h with h; subst h; assumption
    · cases h
theorem kdr_le {x : ByteArray} {m : Nat} (h : kdr x = some m) : m ≤ 3 := by
  unfold kdr at h
  split at h
  · injection h with h; omega
  split at h
  · injection h with h; omega
  split at h
  · injection h with h; omega
  split at h
  · injection h with h; omega
  · cases h
/-- The points of pairs of words. -/
noncomputable def rdp : List ByteArray → Option (List (Int × Int))
  | [] => some []
  | [_] => none
  | x :: y :: r => match ri x, ri y with | some a, some b => (rdp r).map ((a, b) :: ·) | _, _ => none
theorem rdp_step {x y : ByteArray} {r : List ByteArray} (hx : riB x = true) (hy : riB y = true) : rdp (x :: y :: r) = (rdp r).map ((riN x, riN y) :: ·) := by
  unfold riB at hx hy
  unfold riN
  cases h1 : ri x with
  | none => rw [h1] at hx; cases hx
  | some a =>
    cases h2 : ri y with
    | none => rw [h2] at hy; cases hy
    | some b => simp [rdp, h1, h2]
theorem rdp_no {x y : ByteArray} {r : List ByteArray} (h : riB x = false ∨ riB y = false) : rdp (x :: y :: r) = none := by
  unfold riB at h
  cases h1 : ri x with
  | none => simp [rdp, h1]
  | some a =>
    cases h2 : ri y with
    | none => simp [rdp, h1, h2]
    | some b => rw [h1, h2] at h; simp at h
theorem rdp_len : ∀ (n : Nat) (ws : List ByteArray) (l : List (Int × Int)), ws.length ≤ n → rdp ws = some l → ws.length = 2 * l.length
  | _, [], l, _, h => by simp [rdp] at h; subst h; rfl
  | _, [_], l, _, h => by simp [rdp] at h
  | 0, x :: y :: r, l, hn, h => by simp at hn
  | n + 1, x :: y :: r, l, hn, h => by
    cases hb : riB x with
    | false => rw [rdp_no (.inl hb)] at h; cases h
    | true =>
      cases hb2 : riB y with
      | false => rw [rdp_no (.inr hb2)] at h; cases h
      | true =>
        rw [rdp_step hb hb2] at h
        cases h3 : rdp r with
        | none => rw [h3] at h; cases h
        | some l2 =>
          rw [h3] at h
          simp only [Option.map_some, Option.some.injEq] at h
          have := rdp_len n r l2 (by simp at hn; omega) h3
          subst h
          simp; omega
/-- What ReadShape answers of some words. -/
noncomputable def rso (ws : List ByteArray) : Option (Int × List (Int × Int)) :=
  match kdr (ws.getD 0 ⟨#[]⟩) with
  | none => none
  | some k => match rdp (ws.drop 1) with
    | none => none
    | some l => if shok (k : Int) l = true then some ((k : Int), l) else none
def roK (o : Option (Int × List (Int × Int))) : Int := match o with | none => 0 | some r => r.1
def roP (o : Option (Int × List (Int × Int))) : List (Int × Int) := match o with | none => [] | some r => r.2
theorem kind_natr {k : Int} {ps : List (Int × Int)} (hs : shok k ps = true) : 0 ≤ k ∧ 0 < ps.length ∧ ps.length ≤ 60 := by
  have h0 := shok_posg hs
  unfold shok at hs
  split at hs
  · simp only [Bool.and_eq_true, decide_eq_true_eq] at hs; exact ⟨by omega, h0, by omega⟩
  split at hs
  · simp only [Bool.and_eq_true, lineb, decide_eq_true_eq] at hs; exact ⟨by omega, h0, by omega⟩
  split at hs
  · simp only [Bool.and_eq_true, rectb, decide_eq_true_eq] at hs; exact ⟨by omega, h0, by omega⟩
  split at hs
  · simp only [ringOk, Bool.and_eq_true, decide_eq_true_eq] at hs
    exact ⟨by omega, h0, by omega⟩
  · cases hs
theorem rso_len (ws : List ByteArray) : (roP (rso ws)).length ≤ 60 := by
  unfold rso
  split
  · simp [roP]
  · split
    · simp [roP]
    · split
      · rename_i h; exact (kind_natr h).2.2
      · simp [roP]
/-- The answer, in whichever memory of its own. -/
def RSA (w : World) (o : Option (Int × List (Int × Int))) (e : Ending) (w' : World) : Prop :=
  ∃ a' cap', e = .returned (.tuple #[.agg #[.int .i64 (roK o), .slice a' (roP o).length cap'], .bool o.isSome]) ∧ (roP o).length ≤ cap' ∧ OwnP w' a' (roP o) ∧ (∀ b off, a' = some ⟨b, off, none⟩ → w.heap.size ≤ b) ∧ Below w.heap.size w w'
theorem rsa_no {w w' : World} {o : Option (Int × List (Int × Int))} (h : o = none) (hb : Below w.heap.size w w') : RSA w o (.returned (.tuple #[.agg #[.int .i64 0, .slice none 0 0], .bool false])) w' := by
  subst h
  exact ⟨none, 0, rfl, Nat.le_refl _, .inl ⟨rfl, rfl⟩, fun _ _ h => (by cases h), hb⟩
theorem rsa_own {w w' : World} {o : Option (Int × List (Int × Int))} {k : Int} {l : List (Int × Int)} {b cap : Nat} (h : o = some (k, l)) (hc : l.length ≤ cap) (hb : Below w.heap.size w w') (hg : w.heap.size ≤ b) (hp : PtsOwn w' b l) : RSA w o (.returned (.tuple #[.agg #[.int .i64 k, .slice (some ⟨b, 0, none⟩) l.length cap], .bool true])) w' := by
  subst h
  exact ⟨some ⟨b, 0, none⟩, cap, rfl, hc, .inr ⟨b, rfl, hp⟩, fun b' off h => by injection h with h; injection h with h1; omega, hb⟩
/-- The table of the words lies in its place. -/
def KWr (w : World) : Prop := ∀ k : Nat, k ≤ 3 → w.cell? ⟨0, k, none⟩ = some (.string (kwr k))
theorem KWr.below {w w' : World} (h : KWr w) (hb : Below w.heap.size w w') : KWr w' := fun k hk => keepcell hb (h k hk)
theorem names_r (w : World) : Calls Tryz.prog 29 #[] w fun e w' => e = .returned (.slice (some ⟨w.heap.size, 0, none⟩) 4 4) ∧ w' = w.alloc (.cells #[.string (kwr 0), .string (kwr 1), .string (kwr 2), .string (kwr 3)] 9) := by
  go_enter Tryz.func29, Tryz.ntmps29
  go_wp2_with fail
  go_ret
  exact ⟨rfl, rfl⟩
set_option maxHeartbeats 1000000 in
theorem num_ok (x : ByteArray) (hx : x.size ≤ 1048576) (w : World) (h : LibsR w) (hb : riB x = true) : Calls Tryz.prog 65 #[.string x] w fun e w' => e = .returned (.int .i64 (riN x)) ∧ Below w.heap.size w w' := by
  have H := hid (impl_ri x hx w h)
  rw [hb] at H
  clear h hb
  go_enter Tryz.func65, Tryz.ntmps65
  go_wp2_with fail
  refine H.out.mono ?_
  rintro e w1 ⟨rfl, hb⟩
  go_wp2_with fail
  go_ret
  exact ⟨rfl, hb⟩
set_option maxHeartbeats 1000000 in
theorem num_no (x : ByteArray) (hx : x.size ≤ 1048576) (w : World) (h : LibsR w) (hb : riB x = false) : Calls Tryz.prog 65 #[.string x] w fun e w' => Refused e ∧ Below w.heap.size w w' := by
  have H := hid (impl_ri x hx w h)
  rw [hb] at H
  clear h hb
  go_enter Tryz.func65, Tryz.ntmps65
  go_wp2_with fail
  refine H.out.mono ?_
  rintro e w1 ⟨rfl, hb⟩
  go_wp2_with fail
  exact ⟨rfl, ⟨_, rfl⟩, hb⟩
theorem str_eq (a b : ByteArray) : (a.toList == b.toList) = decide (a = b) := by
  by_cases h : a = b
  · subst h; simp
  · simp only [h, decide_false]
    rw [beq_eq_false_iff_ne]
    intro e
    apply h
    rw [ByteArray.toList_eq, ByteArray.toList_eq] at e
    cases a; cases b
    simp only at e ⊢
    congr
    exact Array.toList_inj.1 e
end Go.Proofs.YtjafahhoihlliaaGreatDoor
