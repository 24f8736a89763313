/- Texts of stores, joined: Lo1, Lo2. -/
import Derived.Test.YtenlhgnobfadgaaGreatDoorJ34
import Derived.Test.YtenlhgnobfadgaaGreatDoorJ39
import Derived.Test.YtenlhgnobfadgaaGreatDoorJ41
import Derived.Lib.CutLaws
import Derived.Test.YtenlhgnobfadgaaGreatDoorJ33
import Derived.Deep.RegionHeld3
namespace Go.Proofs.YtenlhgnobfadgaaGreatDoor
open Go.RowKit
set_option linter.unusedSimpArgs false
set_option linter.unusedVariables false
theorem occC (c : UInt8) (l : List UInt8) (j : Nat) : Lib.occAt l [c] j = true ↔ l[j]? = some c := by
  unfold Lib.occAt
  rw [← List.head?_drop]
  cases h : l.drop j with
  | nil => simp
  | cons a r =>
    simp only [List.isPrefixOf, Bool.and_true, beq_iff_eq, List.head?_cons, Option.some.injEq]
    exact eq_comm
theorem byteC (s : ByteArray) (k : Nat) (c : UInt8) (n : Nat) (hc : c.toNat = n) : UInt8.ofNat (by8 s k) = c ↔ by8 s k = n := by
  have hlt := by8_lt s k
  constructor
  · intro h
    have := congrArg UInt8.toNat h
    rw [UInt8.toNat_ofNat'] at this
    omega
  · intro h
    apply UInt8.toNat_inj.1
    rw [UInt8.toNat_ofNat']
    omega
theorem no_occC (s : ByteArray) (c : UInt8) (n a i : Nat) (hc : c.toNat = n) (hi : i ≤ s.size) (hno : ∀ k, a ≤ k → k < i → by8 s k ≠ n) : Lib.NoOcc (s.extract a s.size).data.toList [c] (i - a) := by
  intro j hj
  rw [Bool.eq_false_iff]
  intro h
  have h' := (occC c _ j).1 h
  rw [cut_byte s a j (by omega), Option.some.injEq, byteC s _ c n hc] at h'
  exact hno (a + j) (by omega) (by omega) h'
/-- Where a text is cut: at the first such byte. -/
theorem cut_hit (s : ByteArray) (c : UInt8) (n a i : Nat) (hc : c.toNat = n) (ha : a ≤ i) (hi : i < s.size) (hno : ∀ k, a ≤ k → k < i → by8 s k ≠ n) (h : by8 s i = n) :
    (⟨(Lib.cut (s.extract a s.size).data.toList [c]).1.toArray⟩ : ByteArray) = s.extract a i ∧ (⟨(Lib.cut (s.extract a s.size).data.toList [c]).2.1.toArray⟩ : ByteArray) = s.extract (i + 1) s.size ∧ (Lib.cut (s.extract a s.size).data.toList [c]).2.2 = true := by
  have hsz : (s.extract a s.size).data.toList.length = s.size - a := by rw [Lib.extract_data]; simp
  have hidx : Lib.indexB (s.extract a s.size) ⟨#[c]⟩ = ((i - a : Nat) : Int) := by
    refine Lib.index_hit (no_occC s c n a i hc (by omega) hno) (by rw [hsz]; omega) ((occC c _ _).2 ?_)
    rw [cut_byte s a (i - a) (by omega), show a + (i - a) = i by omega, Option.some.injEq]
    exact (byteC s i c n hc).2 h
  obtain ⟨e1, e2, e3⟩ := Lib.cutB_hit (s.extract a s.size) ⟨#[c]⟩ (i - a) hidx
  refine ⟨e1.trans ?_, e2.trans ?_, e3⟩
  · rw [cut_cut s a 0 (i - a) (by omega), Nat.add_zero, show a + (i - a) = i by omega]
  · rw [show (i - a + (⟨#[c]⟩ : ByteArray).size) = i - a + 1 from rfl, cut_end s a _ (by omega), show a + (i - a + 1) = i + 1 by omega]
theorem cut_miss (s : ByteArray) (c : UInt8) (n a : Nat) (hc : c.toNat = n) (hno : ∀ k, a ≤ k → k < s.size → by8 s k ≠ n) :
    (⟨(Lib.cut (s.extract a s.size).data.toList [c]).1.toArray⟩ : ByteArray) = s.extract a s.size ∧ (⟨(Lib.cut (s.extract a s.size).data.toList [c]).2.1.toArray⟩ : ByteArray) = ⟨#[]⟩ ∧ (Lib.cut (s.extract a s.size).data.toList [c]).2.2 = false := by
  have hsz : (s.extract a s.size).data.toList.length = s.size - a := by rw [Lib.extract_data]; simp
  have hidx : Lib.indexB (s.extract a s.size) ⟨#[c]⟩ = -1 := Lib.index_past (by simp) (no_occC s c n a s.size hc (Nat.le_refl _) hno) (by rw [hsz]; show _ < s.size - a + 1; omega)
  exact Lib.cutB_miss (s.extract a s.size) ⟨#[c]⟩ hidx
/-- The first such byte, or none. -/
theorem first_at (s : ByteArray) (n a : Nat) : (∃ i, a ≤ i ∧ i < s.size ∧ by8 s i = n ∧ ∀ k, a ≤ k → k < i → by8 s k ≠ n) ∨ ∀ k, a ≤ k → k < s.size → by8 s k ≠ n := by
  obtain ⟨m, hm⟩ : ∃ m, m = s.size - a := ⟨_, rfl⟩
  induction m generalizing a with
  | zero => exact .inr fun k h1 h2 => by omega
  | succ m ih =>
    by_cases h : by8 s a = n
    · exact .inl ⟨a, Nat.le_refl _, by omega, h, fun k h1 h2 => by omega⟩
    · rcases ih (a + 1) (by omega) with ⟨i, h1, h2, h3, h4⟩ | h1
      · refine .inl ⟨i, by omega, h2, h3, fun k k1 k2 => ?_⟩
        by_cases e : k = a
        · rw [e]; exact h
        · exact h4 k (by omega) k2
      · refine .inr fun k k1 k2 => ?_
        by_cases e : k = a
        · rw [e]; exact h
        · exact h1 k (by omega) k2
theorem rest_skip (s : ByteArray) : ∀ (m f a i : Nat), (∀ k, i ≤ k → k < i + m → by8 s k ≠ 32) → rest s (f + m) a i = rest s f a (i + m)
  | 0, f, a, i, _ => rfl
  | m + 1, f, a, i, h => by
    rw [rest_miss s a i (f + (m + 1)) (f + m) rfl (h i (Nat.le_refl _) (by omega)), rest_skip s m f a (i + 1) (fun k h1 h2 => h k (by omega) (by omega)), show i + 1 + m = i + (m + 1) by omega]
theorem rest_first (s : ByteArray) (a i : Nat) (ha : a ≤ i) (hi : i < s.size) (hno : ∀ k, a ≤ k → k < i → by8 s k ≠ 32) (h : by8 s i = 32) : rest s (s.size - a) a a = s.extract a i :: rest s (s.size - (i + 1)) (i + 1) (i + 1) := by
  rw [show s.size - a = (s.size - i) + (i - a) by omega, rest_skip s (i - a) (s.size - i) a a (fun k h1 h2 => hno k h1 (by omega)), show a + (i - a) = i by omega]
  exact rest_hit s a i (s.size - i) (s.size - (i + 1)) (by omega) h
theorem rest_none (s : ByteArray) (a : Nat) (ha : a ≤ s.size) (hno : ∀ k, a ≤ k → k < s.size → by8 s k ≠ 32) : rest s (s.size - a) a a = [s.extract a s.size] := by
  have := rest_skip s (s.size - a) 0 a a (fun k h1 h2 => hno k h1 (by omega))
  rw [Nat.zero_add] at this
  rw [this]; rfl
theorem by8_cut (s : ByteArray) (a j : Nat) (h : a + j < s.size) : by8 (s.extract a s.size) j = by8 s (a + j) := by
  have hj : j < (s.extract a s.size).size := by simp; omega
  have h1 := cut_byte s a j h
  rw [byte_at _ j hj, Option.some.injEq] at h1
  rw [← by8_at _ j hj, h1, UInt8.toNat_ofNat']
  have := by8_lt s (a + j)
  omega
theorem rest_shift (s : ByteArray) (a : Nat) (ha : a ≤ s.size) : ∀ (f b i : Nat), b ≤ i → a + i + f = s.size → rest (s.extract a s.size) f b i = rest s f (a + b) (a + i)
  | 0, b, i, hb, h => by
    show [(s.extract a s.size).extract b (s.extract a s.size).size] = [s.extract (a + b) s.size]
    rw [cut_end s a b ha]
  | f + 1, b, i, hb, h => by
    have e := by8_cut s a i (by omega)
    by_cases h32 : by8 s (a + i) = 32
    · rw [rest_hit _ b i (f + 1) f rfl (by rw [e]; exact h32), rest_hit s (a + b) (a + i) (f + 1) f rfl h32, cut_cut s a b i (by omega), rest_shift s a ha f (i + 1) (i + 1) (Nat.le_refl _) (by omega)]
      rfl
    · rw [rest_miss _ b i (f + 1) f rfl (by rw [e]; exact h32), rest_miss s (a + b) (a + i) (f + 1) f rfl h32, rest_shift s a ha f b (i + 1) (by omega) (by omega)]
      rfl
theorem rest_tail (s : ByteArray) (a : Nat) (ha : a ≤ s.size) : rest (s.extract a s.size) (s.extract a s.size).size 0 0 = rest s (s.size - a) a a := by
  have hs : (s.extract a s.size).size = s.size - a := by simp
  rw [hs]
  exact rest_shift s a ha (s.size - a) 0 0 (Nat.le_refl _) (by omega)
/-- The change that a line tells. -/
noncomputable def lin (x : ByteArray) : Option Ch :=
  if 2 ≤ (rest x x.size 0 0).length ∧ idb (riN ((rest x x.size 0 0).getD 0 ⟨#[]⟩)) = true then (rso ((rest x x.size 0 0).drop 1)).map (fun r => (riN ((rest x x.size 0 0).getD 0 ⟨#[]⟩), false, r.1, r.2)) else none
theorem lin_short {x : ByteArray} (h : (rest x x.size 0 0).length < 2) : lin x = none := by
  unfold lin; rw [if_neg (by omega)]
theorem lin_id {x : ByteArray} (h : idb (riN ((rest x x.size 0 0).getD 0 ⟨#[]⟩)) = false) : lin x = none := by
  unfold lin; rw [if_neg (by rw [h]; simp)]
theorem lin_sh {x : ByteArray} (h : rso ((rest x x.size 0 0).drop 1) = none) : lin x = none := by
  unfold lin; rw [h]; split <;> rfl
theorem lin_yes {x : ByteArray} {k : Int} {l : List (Int × Int)} (h2 : 2 ≤ (rest x x.size 0 0).length) (hi : idb (riN ((rest x x.size 0 0).getD 0 ⟨#[]⟩)) = true) (h : rso ((rest x x.size 0 0).drop 1) = some (k, l)) : lin x = some (riN ((rest x x.size 0 0).getD 0 ⟨#[]⟩), false, k, l) := by
  unfold lin; rw [if_pos ⟨h2, hi⟩, h]; rfl
theorem ri_zero {x : ByteArray} (h : riB x = false) : riN x = 0 := by
  unfold riB at h; unfold riN
  cases hr : ri x with
  | none => rfl
  | some v => rw [hr] at h; cases h
theorem ri_idb {x : ByteArray} (h : idb (riN x) = true) : riB x = true := by
  cases hb : riB x with
  | true => rfl
  | false => rw [ri_zero hb] at h; cases h
/-- The parts of a line as the landed code cuts it. -/
theorem lin_cut {x : ByteArray} {j : Nat} (hj : j < x.size) (hno : ∀ k, 0 ≤ k → k < j → by8 x k ≠ 32) (h : by8 x j = 32) : lin x = if idb (riN (x.extract 0 j)) = true then (rso (rest (x.extract (j + 1) x.size) (x.extract (j + 1) x.size).size 0 0)).map (fun r => (riN (x.extract 0 j), false, r.1, r.2)) else none := by
  have e := rest_first x 0 j (Nat.zero_le _) hj hno h
  rw [Nat.sub_zero] at e
  have hl := (rest_len x (x.size - (j + 1)) (j + 1) (j + 1)).1
  unfold lin
  rw [e, rest_tail x (j + 1) (by omega)]
  simp only [List.length_cons, List.getD_cons_zero, List.drop_succ_cons, List.drop_zero]
  by_cases hi : idb (riN (x.extract 0 j)) = true
  · rw [if_pos ⟨by omega, hi⟩, if_pos hi]
  · rw [if_neg (fun h => hi h.2), if_neg hi]
theorem lin_nocut {x : ByteArray} (hno : ∀ k, 0 ≤ k → k < x.size → by8 x k ≠ 32) : lin x = none := by
  have e := rest_none x 0 (Nat.zero_le _) hno
  rw [Nat.sub_zero] at e
  exact lin_short (by rw [e]; simp)
theorem rso_empty : rso (rest ⟨#[]⟩ (⟨#[]⟩ : ByteArray).size 0 0) = none := by
  have e : rest ⟨#[]⟩ (⟨#[]⟩ : ByteArray).size 0 0 = [⟨#[]⟩] := rfl
  rw [e]
  have hk : kdr ⟨#[]⟩ = none := by decide
  unfold rso
  rw [show ([⟨#[]⟩] : List ByteArray).getD 0 ⟨#[]⟩ = ⟨#[]⟩ from rfl, hk]
/-- The last Id of a list. -/
def lastI (acc : List Ch) : Int := (acc.getD (acc.length - 1) (0, false, 0, [])).1
theorem lastI_at {acc : List Ch} (h : acc.length - 1 < acc.length) : lastI acc = (acc[acc.length - 1]).1 := by
  unfold lastI
  rw [List.getD_eq_getElem?_getD, List.getElem?_eq_getElem h]; rfl
/-- A list with the change of a line more, where it may stand behind it. -/
noncomputable def ldo (acc : List Ch) (x : ByteArray) : Option (List Ch) := match lin x with
  | none => none
  | some c => if acc.length < 100 ∧ (acc.length = 0 ∨ lastI acc < c.1) then some (acc ++ [c]) else none
theorem ldo_no {acc : List Ch} {x : ByteArray} (h : lin x = none) : ldo acc x = none := by unfold ldo; rw [h]
theorem ldo_full {acc : List Ch} {x : ByteArray} (h : 100 ≤ acc.length) : ldo acc x = none := by
  unfold ldo
  cases lin x with
  | none => rfl
  | some c => simp only; rw [if_neg (by omega)]
theorem ldo_last {acc : List Ch} {x : ByteArray} {c : Ch} (h : lin x = some c) (h0 : acc.length ≠ 0) (hl : c.1 ≤ lastI acc) : ldo acc x = none := by
  unfold ldo
  rw [h]; simp only; rw [if_neg (by omega)]
theorem ldo_lastN {acc : List Ch} {x : ByteArray} (h0 : acc.length ≠ 0) (hl : riN ((rest x x.size 0 0).getD 0 ⟨#[]⟩) ≤ lastI acc) : ldo acc x = none := by
  cases h : lin x with
  | none => exact ldo_no h
  | some c =>
    refine ldo_last h h0 ?_
    unfold lin at h
    split at h
    · rw [Option.map_eq_some_iff] at h
      obtain ⟨r, _, rfl⟩ := h
      exact hl
    · cases h
theorem ldo_yes {acc : List Ch} {x : ByteArray} {c : Ch} (h : lin x = some c) (h1 : acc.length < 100) (h0 : acc.length = 0 ∨ lastI acc < c.1) : ldo acc x = some (acc ++ [c]) := by
  unfold ldo
  rw [h]; simp only; rw [if_pos ⟨h1, h0⟩]
/-- What Load answers, from the byte i on, the line beginning at a. -/
noncomputable def ld (s : ByteArray) : Nat → Nat → Nat → List Ch → List Ch × Nat
  | 0, a, _, acc => if a < s.size then ([], acc.length + 1) else (acc, 0)
  | f + 1, a, i, acc => if by8 s i = 10 then (match ldo acc (s.extract a i) with | none => ([], acc.length + 1) | some l => ld s f (i + 1) (i + 1) l) else ld s f a (i + 1) acc
theorem ld_miss {s : ByteArray} {f f' a i : Nat} {acc : List Ch} (hf : f = f' + 1) (h : by8 s i ≠ 10) : ld s f a i acc = ld s f' a (i + 1) acc := by
  subst hf; rw [ld, if_neg h]
theorem ld_no {s : ByteArray} {f f' a i : Nat} {acc : List Ch} (hf : f = f' + 1) (h : by8 s i = 10) (ho : ldo acc (s.extract a i) = none) : ld s f a i acc = ([], acc.length + 1) := by
  subst hf; rw [ld, if_pos h, ho]
theorem ld_yes {s : ByteArray} {f f' a i : Nat} {acc l : List Ch} (hf : f = f' + 1) (h : by8 s i = 10) (ho : ldo acc (s.extract a i) = some l) : ld s f a i acc = ld s f' (i + 1) (i + 1) l := by
  subst hf; rw [ld, if_pos h, ho]
theorem ld_end {s : ByteArray} {a i : Nat} {acc : List Ch} (h : ¬ a < s.size) : ld s 0 a i acc = (acc, 0) := by rw [ld, if_neg h]
theorem ld_open {s : ByteArray} {a i : Nat} {acc : List Ch} (h : a < s.size) : ld s 0 a i acc = ([], acc.length + 1) := by rw [ld, if_pos h]
theorem ld_skip (s : ByteArray) (a : Nat) (acc : List Ch) : ∀ (m f i : Nat), (∀ k, i ≤ k → k < i + m → by8 s k ≠ 10) → ld s (f + m) a i acc = ld s f a (i + m) acc
  | 0, f, i, _ => rfl
  | m + 1, f, i, h => by
    rw [ld_miss (f' := f + m) (by omega) (h i (Nat.le_refl _) (by omega)), ld_skip s a acc m f (i + 1) (fun k h1 h2 => h k (by omega) (by omega)), show i + 1 + m = i + (m + 1) by omega]
theorem ld_at {s : ByteArray} {a i : Nat} {acc : List Ch} (ha : a ≤ i) (hi : i < s.size) (hno : ∀ k, a ≤ k → k < i → by8 s k ≠ 10) : ld s (s.size - a) a a acc = ld s (s.size - i) a i acc := by
  have := ld_skip s a acc (i - a) (s.size - i) a (fun k h1 h2 => hno k h1 (by omega))
  rw [show s.size - i + (i - a) = s.size - a by omega, show a + (i - a) = i by omega] at this
  exact this
theorem ld_none {s : ByteArray} {a : Nat} {acc : List Ch} (ha : a < s.size) (hno : ∀ k, a ≤ k → k < s.size → by8 s k ≠ 10) : ld s (s.size - a) a a acc = ([], acc.length + 1) := by
  have := ld_skip s a acc (s.size - a) 0 a (fun k h1 h2 => hno k h1 (by omega))
  rw [Nat.zero_add] at this
  rw [this, ld_open ha]
/-- The lists that Load answers are short, and so are the shapes in them. -/
theorem ldo_small {acc l : List Ch} {x : ByteArray} (h : ldo acc x = some l) (ha : acc.length ≤ 100 ∧ ∀ c ∈ acc, c.2.2.2.length ≤ 60) : l.length ≤ 100 ∧ ∀ c ∈ l, c.2.2.2.length ≤ 60 := by
  unfold ldo at h
  cases hl : lin x with
  | none => rw [hl] at h; cases h
  | some c =>
    rw [hl] at h
    simp only at h
    split at h
    · rename_i hc
      cases h
      refine ⟨by rw [List.length_append]; simp; omega, fun y hy => ?_⟩
      rcases List.mem_append.1 hy with hy | hy
      · exact ha.2 y hy
      · rw [List.mem_singleton] at hy
        subst hy
        unfold lin at hl
        split at hl
        · rw [Option.map_eq_some_iff] at hl
          obtain ⟨r, hr, rfl⟩ := hl
          have := rso_len ((rest x x.size 0 0).drop 1)
          rw [hr] at this
          exact this
        · cases hl
    · cases h
theorem ld_small (s : ByteArray) : ∀ (f a i : Nat) (acc : List Ch), (acc.length ≤ 100 ∧ ∀ c ∈ acc, c.2.2.2.length ≤ 60) → ((ld s f a i acc).1.length ≤ 100 ∧ ∀ c ∈ (ld s f a i acc).1, c.2.2.2.length ≤ 60)
  | 0, a, i, acc, h => by
    unfold ld
    split
    · exact ⟨by simp, fun c hc => by cases hc⟩
    · exact h
  | f + 1, a, i, acc, h => by
    unfold ld
    split
    · cases ho : ldo acc (s.extract a i) with
      | none => exact ⟨by simp, fun c hc => by cases hc⟩
      | some l => exact ld_small s f (i + 1) (i + 1) l (ldo_small ho h)
    · exact ld_small s f a (i + 1) acc h
theorem ld_chS (s : ByteArray) : chS (ld s s.size 0 0 []).1 ∧ (ld s s.size 0 0 []).1.length ≤ 100 := by
  obtain ⟨h1, h2⟩ := ld_small s s.size 0 0 [] ⟨by simp, fun c hc => by cases hc⟩
  exact ⟨⟨by omega, fun m hm => by have := h2 _ (List.getElem_mem hm); omega⟩, h1⟩
/-- What Load answers, in memory of its own. -/
def LDA (w : World) (r : List Ch × Nat) (e : Ending) (w' : World) : Prop :=
  ∃ a cap, e = .returned (.tuple #[.slice a r.1.length cap, .int .i64 r.2]) ∧ LC KN w.heap.size w'.heap.size w' (.slice a r.1.length cap) r.1 ∧ Below w.heap.size w w'
theorem lx_noneL (w w1 : World) (hb : w.heap.size ≤ w1.heap.size) : LX KN 50 w.heap.size (w1.alloc (.cells #[] 50)).heap.size (w1.alloc (.cells #[] 50)) (.slice (some ⟨w1.heap.size, 0, none⟩) 0 0) [] [] := by
  have := World.ownsRow_made (base := w1.heap.size) (e := 50) (size := 4) w1 #[] 0 (Nat.le_refl _) (by unfold maxLen; omega) rfl
  exact (LX.nil (hi := (w1.alloc (.cells #[] 50)).heap.size) this (fun g e => by simp [Value.ownBlock] at e; subst e; simp) (Nat.le_refl _)).mono hb (Nat.le_refl _) (Nat.le_refl _)
theorem lda_no {w w1 : World} {r : List Ch × Nat} {n : Nat} (h : r = ([], n)) (hb : Below w.heap.size w w1) : LDA w r (.returned (.tuple #[.slice (some ⟨w1.heap.size, 0, none⟩) 0 0, .int .i64 n])) (w1.alloc (.cells #[] 50)) := by
  subst h
  exact ⟨_, _, rfl, (lx_noneL w w1 hb.size).lc, balloc hb _⟩
theorem lda_yes {w w1 : World} {r : List Ch × Nat} {a : Option Addr} {cap hi : Nat} {cs : List Ch} (h : r = (cs, 0)) (hl : LC KN w.heap.size hi w1 (.slice a cs.length cap) cs) (hh : hi = w1.heap.size) (hb : Below w.heap.size w w1) : LDA w r (.returned (.tuple #[.slice a cs.length cap, .int .i64 0])) w1 := by
  subst h hh
  exact ⟨_, _, rfl, hl, hb⟩
theorem LX.growsL {α : Type} {K : Kd α} {t : TypeId} {base hi : Nat} {w w' : World} {v : Value} {xs : List α} {ps : List (α × Value)} (h : LX K t base hi w v xs ps) (hb : Below w.heap.size w w') : LX K t base w'.heap.size w' v xs ps := (h.below hb).mono (Nat.le_refl _) (Nat.le_trans h.2.2.2.1 hb.size) (Nat.le_refl _)
theorem bgrowL {w a b : World} {r : Option Nat} (h : Below w.heap.size w a) (hg : a.grownBy b r) (hp : ∀ c, r = some c → w.heap.size ≤ c) : Below w.heap.size w b := h.grown hg h.size hp
/-- Where the words of a list lie, from a cell on. -/
def TxO (w : World) (g o : Nat) (l : List ByteArray) : Prop := g < w.heap.size ∧ ∀ j (h : j < l.length), w.cell? ⟨g, o + j, none⟩ = some (.string l[j])
theorem TxO.lt {w : World} {g o : Nat} {l : List ByteArray} (h : TxO w g o l) : g < w.heap.size := h.1
theorem TxO.cell {w : World} {g o : Nat} {l : List ByteArray} (h : TxO w g o l) (j : Nat) (hj : j < l.length) : w.cell? ⟨g, o + j, none⟩ = some (.string l[j]) := h.2 j hj
theorem TxO.kept {w w' : World} {g o : Nat} {l : List ByteArray} {r : Option Nat} (h : TxO w g o l) (hg : w.grownBy w' r) (hne : r ≠ some g) : TxO w' g o l :=
  ⟨Nat.lt_of_lt_of_le h.1 hg.size, fun j hj => by rw [World.cell?_of_block (w := w) (hg.block g h.1 (fun e => hne e.symm))]; exact h.2 j hj⟩
theorem Texts.txo {w : World} {g cap : Nat} {l : List ByteArray} (h : Texts w g cap l) (k : Nat) : TxO w g k (l.drop k) :=
  ⟨h.lt, fun j hj => by
    rw [List.length_drop] at hj
    rw [List.getElem_drop]
    exact h.cell (k + j) (by omega)⟩
end Go.Proofs.YtenlhgnobfadgaaGreatDoor
namespace Go.Proofs.YtenlhgnobfadgaaGreatDoor
open Go.RowKit
set_option linter.unusedVariables false
theorem txo_set {w : World} {g o q k : Nat} {u : Value} {l : List ByteArray} (h : TxO w g o l) (hne : q ≠ g) : TxO (w.setCell ⟨q, k, none⟩ u) g o l := h.kept (grown_set w q k u) (by simpa using hne)
set_option maxRecDepth 100000 in
set_option maxHeartbeats 4000000 in
theorem spec_l03ReadO (ws : List ByteArray) (g o cap n : Nat) (w : World) (hn : ws.length = n) (hw0 : 0 < n) (hw1 : n ≤ 1048577) (hsz : ∀ x ∈ ws, x.size ≤ 1048576) (hT : TxO w g o ws) : Calls Tryz.prog 21 #[.slice (some ⟨g, o, none⟩) n cap] w fun e w' => RSA w (rso ws) e w' := by
  have HNL := hid hn
  have HSZ := hid hsz
  have HT := hid hT
  have hgl := hT.lt
  clear hT hsz hn
  obtain ⟨x, hx⟩ : ∃ x, x = ws.getD 0 ⟨#[]⟩ := ⟨_, rfl⟩
  have HX := hid hx
  clear hx
  have hni : (0 : Int) < (n : Int) := by omega
  go_enter Tryz.func21, Tryz.ntmps21
  go_wp2_with fail
  have hb0 : Below w.heap.size w ((w.alloc (.cells #[.int .i64 0, .slice none 0 0] 48)).alloc (.cells #[.int .i64 (-1), .slice none 0 0] 48)) := balloc (balloc (Below.refl _ _) _) _
  have g2 := old_alloc (o' := (.cells #[.int .i64 (-1), .slice none 0 0] 48)) (new_alloc w w.heap.size (.cells #[.int .i64 0, .slice none 0 0] 48) rfl)
  have g4 := new_alloc (w.alloc (.cells #[.int .i64 0, .slice none 0 0] 48)) (w.heap.size + 1) (.cells #[.int .i64 (-1), .slice none 0 0] 48) (by simp)
  replace HT := hid (HT.out.kept (grown_all hb0 none) (by simp))
  have hB := hb0
  generalize ((w.alloc (.cells #[.int .i64 0, .slice none 0 0] 48)).alloc (.cells #[.int .i64 (-1), .slice none 0 0] 48)) = W at *
  clear hb0
  go_loopw [5] (fun ti wr => ∃ i : Nat, ti = .int .i64 i ∧ i ≤ 4 ∧ Hid (TxO wr g o ws) ∧ Hid (wr.heap[w.heap.size]? = some (.cells #[.int .i64 0, .slice none 0 0] 48 (0, 0))) ∧ Hid (wr.heap[w.heap.size + 1]? = some (.cells #[.int .i64 (kdi x i), .slice none 0 0] 48 (0, 0))) ∧ Hid (Below w.heap.size w wr)) (fun ti _ => 4 - (intOf ti).toNat)
  case atStart => exact ⟨0, rfl, Nat.zero_le _, HT, hid g2, hid (by rw [show kdi x 0 = -1 by unfold kdi; split <;> simp]; exact g4), hid hB⟩
  case round =>
    clear HT g2 g4 hB
    obtain ⟨i, rfl, hi, HT, G2, G4, HBW⟩ := hrel
    by_cases hlt : i < 4
    · have c1 : (i : Int) < 4 := by omega
      have hc0 : wr.cell? ⟨g, o, none⟩ = some (.string x) := by
        have h0 : 0 < ws.length := by rw [HNL.out]; exact hw0
        rw [HX.out, List.getD_eq_getElem?_getD, List.getElem?_eq_getElem h0]; exact HT.out.cell 0 h0
      by_cases hk : kdr x = some i
      · have q0 := kw_same (x := x) (m := i) (by omega) hk
        go_wp2_with fail
        refine wp_region_held_drew (S := (fun w' => w'.cell? ⟨g, o, none⟩ = some (.string x))) (by kernel_rfl) ?_ (fun hHeld => ?_)
        · exact hc0
        have g2 := G2.out
        have g4 := G4.out
        have hB := HBW.out
        replace g2 : wr.drew.heap[w.heap.size]? = some (.cells #[.int .i64 0, .slice none 0 0] 48 (0, 0)) := g2
        replace g4 : wr.drew.heap[w.heap.size + 1]? = some (.cells #[.int .i64 (kdi x i), .slice none 0 0] 48 (0, 0)) := g4
        replace HT : Hid (TxO wr.drew g o ws) := hid (HT.out.kept (grown_drew (grown_same wr none) 1) (by simp))
        replace hB := bdrew hB
        replace hc0 : wr.drew.cell? ⟨g, o, none⟩ = some (.string x) := hc0
        clear G2 G4 HBW
        generalize wr.drew = z0 at *
        refine wpAnyH_take (i := 1) (v := ?_) rfl (by kernel_rfl) (by kernel_rfl) (by kernel_rfl) (fun _ _ _ h => h) (Or.inl ⟨by rfl, ?_⟩) hHeld ?_
        rotate_left
        · intro w hSw; (try dsimp only at hSw); go_simp; try (with_reducible rfl)
        try simp only [sq]
        refine wpAnyH_take (i := 4) (v := ?_) rfl (by kernel_rfl) (by kernel_rfl) (by kernel_rfl) (fun _ _ _ h => h) (Or.inl ⟨by rfl, ?_⟩) hHeld ?_
        rotate_left
        · intro w hSw; (try dsimp only at hSw); go_simp; try (with_reducible rfl)
        try simp only [sq]
        refine wpAnyH_take (i := 5) (v := ?_) rfl (by kernel_rfl) (by kernel_rfl) (by kernel_rfl) (fun _ _ _ h => h) (Or.inl ⟨by rfl, ?_⟩) hHeld ?_
        rotate_left
        · intro w hSw; (try dsimp only at hSw); go_simp; try (with_reducible rfl)
        try simp only [sq]
        refine wpAnyH_take (i := 6) (v := ?_) rfl (by kernel_rfl) (by kernel_rfl) (by kernel_rfl) (fun _ _ _ h => h) (Or.inl ⟨by rfl, ?_⟩) hHeld ?_
        rotate_left
        · intro w hSw; (try dsimp only at hSw); go_simp; try (with_reducible rfl)
        try simp only [sq]
        refine wpAnyH_ready (rs := [0]) (by kernel_rfl) (by simp) ?_
        refine (AllReadyH.cons rfl (fun K hK => ?_) AllReadyH.nil)
        try simp only [sq]
        go_simp
        go_at_call 55
        refine (names_r _).mono ?_
        rintro e z1 ⟨rfl, hw⟩
        have hnm := names_cell z0 i (by omega)
        rw [← hw] at hnm
        have hb9 : Below z0.heap.size z0 z1 := by rw [hw]; exact balloc (Below.refl _ _) _
        clear hw
        replace hc0 := keepcell hb9 hc0
        replace g2 := keepheap hb9 g2
        replace g4 := keepheap hb9 g4
        replace HT := hid (HT.out.kept (grown_all hb9 none) (by simp))
        replace hB := btrans hB hb9
        have hl0 : z0.heap.size < z1.heap.size := World.block_lt_of_cell? z1 _ hnm
        go_wp2_with fail
        refine hK.out _ _ ?_ (fun hHeld => ?_)
        · (repeat' apply And.intro) <;> (repeat (first | with_reducible assumption | with_reducible refine keepset ?_ (by dsimp only; omega) | with_reducible refine keepdrew ?_ | with_reducible refine keepcell (by with_reducible assumption) ?_ | with_reducible refine keepalloc ?_ _))
        clear hK K
        try simp only [sq]
        clear hb9
        refine wpAnyH_take (i := 2) (v := ?_) rfl (by kernel_rfl) (by kernel_rfl) (by kernel_rfl) (fun _ _ _ h => h) (Or.inl ⟨by rfl, ?_⟩) hHeld ?_
        rotate_left
        · intro w hSw; (try dsimp only at hSw); go_simp; try (with_reducible rfl)
        try simp only [sq]
        refine wpAnyH_ready (rs := [3]) (by kernel_rfl) (by simp) ?_
        refine (AllReadyH.cons rfl (fun K hK => ?_) AllReadyH.nil)
        try simp only [sq]
        go_simp
        refine hK.out _ _ ?_ (fun hHeld => ?_)
        · (repeat' apply And.intro) <;> (repeat (first | with_reducible assumption | with_reducible refine keepset ?_ (by dsimp only; omega) | with_reducible refine keepdrew ?_ | with_reducible refine keepcell (by with_reducible assumption) ?_ | with_reducible refine keepalloc ?_ _))
        clear hK K
        try simp only [sq]
        refine wpAnyH_take (i := 7) (v := ?_) rfl (by kernel_rfl) (by kernel_rfl) (by kernel_rfl) (fun _ _ _ h => h) (Or.inl ⟨by rfl, ?_⟩) hHeld ?_
        rotate_left
        · intro w hSw; (try dsimp only at hSw); go_simp; try (with_reducible rfl)
        try simp only [sq]
        refine wpAnyH_done (by kernel_rfl) ?_ _
        obtain ⟨u0', u1', u2', u3'⟩ := cell2g g4
        go_wp2_with fail
        go_roundw
        case rel => exact ⟨i + 1, by go_num, by omega, hid (txo_set HT.out (by omega)), hid (set_far g2 (by omega)), hid (by rw [kdi_hit hk]; exact set2_0s g4), hid (bset hB (by omega) _)⟩
        case measure => simp [intOf]; omega
      · have q0 := kw_other (x := x) (m := i) (by omega) hk
        go_wp2_with fail
        refine wp_region_held_drew (S := (fun w' => w'.cell? ⟨g, o, none⟩ = some (.string x))) (by kernel_rfl) ?_ (fun hHeld => ?_)
        · exact hc0
        have g2 := G2.out
        have g4 := G4.out
        have hB := HBW.out
        replace g2 : wr.drew.heap[w.heap.size]? = some (.cells #[.int .i64 0, .slice none 0 0] 48 (0, 0)) := g2
        replace g4 : wr.drew.heap[w.heap.size + 1]? = some (.cells #[.int .i64 (kdi x i), .slice none 0 0] 48 (0, 0)) := g4
        replace HT : Hid (TxO wr.drew g o ws) := hid (HT.out.kept (grown_drew (grown_same wr none) 1) (by simp))
        replace hB := bdrew hB
        replace hc0 : wr.drew.cell? ⟨g, o, none⟩ = some (.string x) := hc0
        clear G2 G4 HBW
        generalize wr.drew = z0 at *
        refine wpAnyH_take (i := 1) (v := ?_) rfl (by kernel_rfl) (by kernel_rfl) (by kernel_rfl) (fun _ _ _ h => h) (Or.inl ⟨by rfl, ?_⟩) hHeld ?_
        rotate_left
        · intro w hSw; (try dsimp only at hSw); go_simp; try (with_reducible rfl)
        try simp only [sq]
        refine wpAnyH_take (i := 4) (v := ?_) rfl (by kernel_rfl) (by kernel_rfl) (by kernel_rfl) (fun _ _ _ h => h) (Or.inl ⟨by rfl, ?_⟩) hHeld ?_
        rotate_left
        · intro w hSw; (try dsimp only at hSw); go_simp; try (with_reducible rfl)
        try simp only [sq]
        refine wpAnyH_take (i := 5) (v := ?_) rfl (by kernel_rfl) (by kernel_rfl) (by kernel_rfl) (fun _ _ _ h => h) (Or.inl ⟨by rfl, ?_⟩) hHeld ?_
        rotate_left
        · intro w hSw; (try dsimp only at hSw); go_simp; try (with_reducible rfl)
        try simp only [sq]
        refine wpAnyH_take (i := 6) (v := ?_) rfl (by kernel_rfl) (by kernel_rfl) (by kernel_rfl) (fun _ _ _ h => h) (Or.inl ⟨by rfl, ?_⟩) hHeld ?_
        rotate_left
        · intro w hSw; (try dsimp only at hSw); go_simp; try (with_reducible rfl)
        try simp only [sq]
        refine wpAnyH_ready (rs := [0]) (by kernel_rfl) (by simp) ?_
        refine (AllReadyH.cons rfl (fun K hK => ?_) AllReadyH.nil)
        try simp only [sq]
        go_simp
        go_at_call 55
        refine (names_r _).mono ?_
        rintro e z1 ⟨rfl, hw⟩
        have hnm := names_cell z0 i (by omega)
        rw [← hw] at hnm
        have hb9 : Below z0.heap.size z0 z1 := by rw [hw]; exact balloc (Below.refl _ _) _
        clear hw
        replace hc0 := keepcell hb9 hc0
        replace g2 := keepheap hb9 g2
        replace g4 := keepheap hb9 g4
        replace HT := hid (HT.out.kept (grown_all hb9 none) (by simp))
        replace hB := btrans hB hb9
        have hl0 : z0.heap.size < z1.heap.size := World.block_lt_of_cell? z1 _ hnm
        go_wp2_with fail
        refine hK.out _ _ ?_ (fun hHeld => ?_)
        · (repeat' apply And.intro) <;> (repeat (first | with_reducible assumption | with_reducible refine keepset ?_ (by dsimp only; omega) | with_reducible refine keepdrew ?_ | with_reducible refine keepcell (by with_reducible assumption) ?_ | with_reducible refine keepalloc ?_ _))
        clear hK K
        try simp only [sq]
        clear hb9
        refine wpAnyH_take (i := 2) (v := ?_) rfl (by kernel_rfl) (by kernel_rfl) (by kernel_rfl) (fun _ _ _ h => h) (Or.inl ⟨by rfl, ?_⟩) hHeld ?_
        rotate_left
        · intro w hSw; (try dsimp only at hSw); go_simp; try (with_reducible rfl)
        try simp only [sq]
        refine wpAnyH_ready (rs := [3]) (by kernel_rfl) (by simp) ?_
        refine (AllReadyH.cons rfl (fun K hK => ?_) AllReadyH.nil)
        try simp only [sq]
        go_simp
        refine hK.out _ _ ?_ (fun hHeld => ?_)
        · (repeat' apply And.intro) <;> (repeat (first | with_reducible assumption | with_reducible refine keepset ?_ (by dsimp only; omega) | with_reducible refine keepdrew ?_ | with_reducible refine keepcell (by with_reducible assumption) ?_ | with_reducible refine keepalloc ?_ _))
        clear hK K
        try simp only [sq]
        refine wpAnyH_take (i := 7) (v := ?_) rfl (by kernel_rfl) (by kernel_rfl) (by kernel_rfl) (fun _ _ _ h => h) (Or.inl ⟨by rfl, ?_⟩) hHeld ?_
        rotate_left
        · intro w hSw; (try dsimp only at hSw); go_simp; try (with_reducible rfl)
        try simp only [sq]
        refine wpAnyH_done (by kernel_rfl) ?_ _
        go_wp2_with fail
        go_roundw
        case rel => exact ⟨i + 1, by go_num, by omega, HT, hid g2, hid (by rw [kdi_miss hk]; exact g4), hid hB⟩
        case measure => simp [intOf]; omega
    · have c1' : ¬ (i : Int) < 4 := by omega
      have hk4 : kdi x i = kdi x 4 := by rw [show i = 4 by omega]
      rw [hk4] at G4
      clear hk4
      by_cases hev : n % 2 = 0
      · have HN := hid (rso_odd (ws := ws) (by rw [HNL.out]; exact hev) (by rw [HNL.out]; exact hw0))
        have ho : ((n : Int).tmod 2 == 0) = true := by
          rw [show (n : Int).tmod 2 = ((n % 2 : Nat) : Int) from rfl, hev]; rfl
        have k2 := G2.out
        have hB := HBW.out
        obtain ⟨y0, y1, y2, y3⟩ := cell2g k2
        go_wp2_with fail
        have gF := (set2 k2 (.int .i64 0) (.slice none 0 0)).1
        have bF := bset (bset hB (q := w.heap.size) (k := 0) (by omega) (.int .i64 0)) (q := w.heap.size) (k := 1) (by omega) (.slice none 0 0)
        generalize (wr.setCell ⟨w.heap.size, 0, none⟩ (.int .i64 0)).setCell ⟨w.heap.size, 1, none⟩ (.slice none 0 0) = wf at *
        obtain ⟨z0, z1, _, _⟩ := cell2g gF
        exact bodyPost_ret (v := .tuple #[.agg #[(.int .i64 0), (.slice none 0 0)], .bool false]) (by simp [results, Tryz.results21, go_sem, z0, z1]) rfl (rsa_no HN.out bF)
      have ho : ((n : Int).tmod 2 == 0) = false := by
        rw [show (n : Int).tmod 2 = ((n % 2 : Nat) : Int) from rfl, show n % 2 = 1 by omega]; rfl
      by_cases hlong : 121 < n
      · have HN := hid (rso_long (ws := ws) (by rw [HNL.out]; exact hlong))
        have hl' : (121 : Int) < (n : Int) := by omega
        have ho2 : ((n : Int) % 2 == 0) = false := by rw [beq_eq_false_iff_ne]; omega
        have k2 := G2.out
        have hB := HBW.out
        obtain ⟨y0, y1, y2, y3⟩ := cell2g k2
        go_wp2_with fail
        have gF := (set2 k2 (.int .i64 0) (.slice none 0 0)).1
        have bF := bset (bset hB (q := w.heap.size) (k := 0) (by omega) (.int .i64 0)) (q := w.heap.size) (k := 1) (by omega) (.slice none 0 0)
        generalize (wr.setCell ⟨w.heap.size, 0, none⟩ (.int .i64 0)).setCell ⟨w.heap.size, 1, none⟩ (.slice none 0 0) = wf at *
        obtain ⟨z0, z1, _, _⟩ := cell2g gF
        exact bodyPost_ret (v := .tuple #[.agg #[(.int .i64 0), (.slice none 0 0)], .bool false]) (by simp [results, Tryz.results21, go_sem, z0, z1]) rfl (rsa_no HN.out bF)
      have hl' : (n : Int) ≤ 121 := by omega
      have ho2 : ((n : Int) % 2 == 0) = false := by rw [beq_eq_false_iff_ne]; omega
      have hdec : decide ((121 : Int) < (n : Int)) = false := by rw [decide_eq_false_iff_not]; omega
      obtain ⟨np, hnp1, hnp2⟩ : ∃ np, n ≤ 2 * np + 1 ∧ 2 * np + 1 ≤ n := ⟨n / 2, by omega, by omega⟩
      have g2 := G2.out
      have g4 := G4.out
      have hB := HBW.out
      have hV : w.heap.size + 1 < wr.heap.size := lt_of_block g4
      have HO := hid (fun l => rso_kd (ws := ws) (l := l) HX.out)
      generalize kdi x 4 = kd at *
      clear G2 G4 HBW
      go_wp2_with fail
      clear ho ho2 hdec
      have hV0 : wr.heap.size ≤ wr.heap.size := Nat.le_refl _
      obtain ⟨B0, hB0⟩ : ∃ B0, B0 = wr.heap.size := ⟨_, rfl⟩
      rw [← hB0] at hV
      have HLW : Hid (B0 ≤ wr.heap.size ∧ PtRow wr B0 (.slice none 0 0) []) := hid ⟨by omega, ptrow_nilg _ _⟩
      clear hB0 hV0
      obtain ⟨i0, hi0, hz0, hz1, hz2⟩ := info_parts Tryz.infoP2
      go_loopw [6] (fun ti wq => ∃ j : Nat, ∃ v : Value, ∃ l : List (Int × Int), ti = .int .i64 ((2 * j + 1 : Nat) : Int) ∧ j ≤ np ∧ Hid (l.length = j) ∧ Hid (rdp (ws.drop 1) = (rdp (ws.drop (2 * j + 1))).map (fun r => l ++ r)) ∧ Hid (TxO wq g o ws) ∧ Hid (wq.heap[w.heap.size]? = some (.cells #[.int .i64 0, .slice none 0 0] 48 (0, 0))) ∧ Hid (wq.heap[w.heap.size + 1]? = some (.cells #[.int .i64 kd, v] 48 (0, 0))) ∧ Hid (B0 ≤ wq.heap.size ∧ PtRow wq B0 v l) ∧ Hid (Below w.heap.size w wq)) (fun ti _ => 2 * np + 1 - (intOf ti).toNat)
      case atStart => exact ⟨0, _, [], rfl, Nat.zero_le _, hid rfl, hid (by simp), HT, hid g2, hid g4, HLW, hid hB⟩
      case round =>
        clear HT g2 g4 hB HLW
        obtain ⟨j, v, l, rfl, hj, HLn, HR, HT, G2, G4, HL, HBW⟩ := hrel
        by_cases hlt : j < np
        · have c1 : ((2 * j + 1 : Nat) : Int) < (n : Int) := by omega
          have c2 : ((2 * j + 1 : Nat) : Int) + 1 < (n : Int) := by omega
          have hi1 : 2 * j + 1 < ws.length := by rw [HNL.out]; omega
          have hi2 : 2 * j + 1 + 1 < ws.length := by rw [HNL.out]; omega
          have hc1 := HT.out.cell (2 * j + 1) hi1
          have hc2 := HT.out.cell (2 * j + 1 + 1) hi2
          have hz1' := HSZ.out _ (List.getElem_mem hi1)
          have hz2' := HSZ.out _ (List.getElem_mem hi2)
          have hdr : rdp (ws.drop 1) = (rdp (ws[2 * j + 1] :: ws[2 * j + 1 + 1] :: ws.drop (2 * (j + 1) + 1))).map (fun r => l ++ r) := by
            rw [HR.out, drop2s hi2]
            rfl
          generalize ws[2 * j + 1] = x1 at *
          generalize ws[2 * j + 1 + 1] = x2 at *
          have R1 := hid (fun w => spec_ri x1 hz1' w)
          have R2 := hid (fun w => spec_ri x2 hz2' w)
          have HDR := hid hdr
          clear hdr HR hi1 hi2 hz1' hz2'
          have hgl2 := HT.out.lt
          cases hb : (riB x1 && riB x2)
          · have HN := hid (rso_rdp (ws := ws) (by
              rw [HDR.out, rdp_no (by cases h1 : riB x1 <;> cases h2 : riB x2 <;> simp_all)]; rfl))
            have k2 := G2.out
            have hB := HBW.out
            obtain ⟨y0, y1, y2, y3⟩ := cell2g k2
            generalize riN x1 = a1 at *
            generalize riN x2 = a2 at *
            generalize riB x1 = b1 at *
            generalize riB x2 = b2 at *
            obtain ⟨rfl⟩ | ⟨rfl, rfl⟩ : b1 = false ∨ (b1 = true ∧ b2 = false) := by cases b1 <;> cases b2 <;> simp_all
            · go_wp2_with fail
              refine (R1.out _).mono ?_
              rintro e V1 ⟨rfl, hw⟩
              replace hw := hw.symm
              subst hw
              go_wp2_with fail
              refine (R2.out _).mono ?_
              rintro e V1 ⟨rfl, hw⟩
              replace hw := hw.symm
              subst hw
              go_wp2_with fail
              have gF := (set2 k2 (.int .i64 0) (.slice none 0 0)).1
              have bF := bset (bset hB (q := w.heap.size) (k := 0) (by omega) (.int .i64 0)) (q := w.heap.size) (k := 1) (by omega) (.slice none 0 0)
              generalize (wr.setCell ⟨w.heap.size, 0, none⟩ (.int .i64 0)).setCell ⟨w.heap.size, 1, none⟩ (.slice none 0 0) = wf at *
              obtain ⟨z0, z1, _, _⟩ := cell2g gF
              exact bodyPost_ret (v := .tuple #[.agg #[(.int .i64 0), (.slice none 0 0)], .bool false]) (by simp [results, Tryz.results21, go_sem, z0, z1]) rfl (rsa_no HN.out bF)
            · go_wp2_with fail
              refine (R1.out _).mono ?_
              rintro e V1 ⟨rfl, hw⟩
              replace hw := hw.symm
              subst hw
              go_wp2_with fail
              refine (R2.out _).mono ?_
              rintro e V1 ⟨rfl, hw⟩
              replace hw := hw.symm
              subst hw
              go_wp2_with fail
              have gF := (set2 k2 (.int .i64 0) (.slice none 0 0)).1
              have bF := bset (bset hB (q := w.heap.size) (k := 0) (by omega) (.int .i64 0)) (q := w.heap.size) (k := 1) (by omega) (.slice none 0 0)
              generalize (wr.setCell ⟨w.heap.size, 0, none⟩ (.int .i64 0)).setCell ⟨w.heap.size, 1, none⟩ (.slice none 0 0) = wf at *
              obtain ⟨z0, z1, _, _⟩ := cell2g gF
              exact bodyPost_ret (v := .tuple #[.agg #[(.int .i64 0), (.slice none 0 0)], .bool false]) (by simp [results, Tryz.results21, go_sem, z0, z1]) rfl (rsa_no HN.out bF)
          · simp only [Bool.and_eq_true] at hb
            have hr2 : rdp (ws.drop 1) = (rdp (ws.drop (2 * (j + 1) + 1))).map (fun r => (l ++ [(riN x1, riN x2)]) ++ r) := by
              rw [HDR.out, rdp_step hb.1 hb.2]
              cases rdp (ws.drop (2 * (j + 1) + 1)) with
              | none => rfl
              | some r => simp
            have HR2 := hid hr2
            rw [hb.1] at R1
            rw [hb.2] at R2
            generalize riN x1 = a1 at *
            generalize riN x2 = a2 at *
            clear hr2 HDR hb
            have k2 := G2.out
            have k4 := G4.out
            have hB := HBW.out
            have hrow := HL.out.2
            have hsz := HL.out.1
            have hown := hrow
            unfold PtRow at hown
            have hll := HLn.out
            have hv4 : some (w.heap.size + 1) ≠ v.ownBlock := fun e => absurd (hown.lt _ e.symm).1 (by omega)
            have hv2 : some w.heap.size ≠ v.ownBlock := fun e => absurd (hown.lt _ e.symm).1 (by omega)
            have hvg : some g ≠ v.ownBlock := fun e => absurd (hown.lt _ e.symm).1 (by omega)
            clear G2 G4 HBW HL
            obtain ⟨r80, r81, _, r8f⟩ := cell2g k4
            go_wp2_with fail
            refine (R1.out _).mono ?_
            rintro e V1 ⟨rfl, hw⟩
            replace hw := hw.symm
            subst hw
            go_wp2_with fail
            refine (R2.out _).mono ?_
            rintro e V1 ⟨rfl, hw⟩
            replace hw := hw.symm
            subst hw
            go_wp2_with (at_builtin; refine wpList_append_own _ rfl (.tmp 67) (.tmp 71) 46 rfl B0 91 i0 _ 2 16 Tryz.underlying46 hi0 hz0 hz1 hz2 rfl (by decide) _ _ _ rfl (hown.alloc _) ⟨wr.heap.size, 0, none⟩ 1 1 [.int .i64 a1, .int .i64 a2] rfl rfl (World.news_of_block (cs := #[.int .i64 a1, .int .i64 a2]) (t := 91) (fr := (0, 0)) (heap_alloc_new wr _)) (by simp [Value.oneCell']) (by unfold maxLen; omega) (by omega) (by simp; omega) ?_; intro v' w2 hown' hgrow hat; have hrow' := row_self hown'; obtain ⟨g', cap', rfl, hg', hcp', hpo⟩ := hrow'.ownG (by simp); have m4 := (hgrow.block (w.heap.size + 1) (by have := lt_of_block k4; simp; omega) hv4).trans (old_alloc k4); have m2 := (hgrow.block w.heap.size (by have := lt_of_block k2; simp; omega) hv2).trans (old_alloc k2); obtain ⟨t80, t81, t8f, t8g⟩ := cell2g m4)
            have hlt2 := lt_of_block m4
            have hgs := hgrow.size
            have hb2 : Below w.heap.size w w2 := (balloc hB _).grown hgrow (by have := lt_of_block k2; simp; omega) (fun k hk => by have := (hown.lt k hk).1; omega)
            have hrow2 := World.ownsRow.kept hrow' (grown_set w2 (w.heap.size + 1) 1 (.slice (some ⟨g', 0, none⟩) (l ++ [(a1, a2)]).length cap')) (Or.inr (by simp [Value.ownBlock]; omega))
            have e2 : (l ++ [(a1, a2)]).length = j + 1 := by rw [List.length_append, hll]; rfl
            rw [e2] at hrow2
            have hT2 : TxO w2 g o ws := (HT.out.kept (grown_all (balloc (Below.refl _ wr) (.cells #[.int .i64 a1, .int .i64 a2] 91)) none) (by simp)).kept hgrow hvg.symm
            go_roundw
            case rel => exact ⟨j + 1, _, l ++ [(a1, a2)], by go_num, by omega, hid (by simp; exact hll), HR2, hid (txo_set hT2 (by omega)), hid (set_far m2 (by omega)), hid (set_at m4), hid ⟨by simp at hgs ⊢; omega, by unfold PtRow; rw [e2]; exact hrow2⟩, hid (bset hb2 (by omega) _)⟩
            case measure => simp [intOf]; omega
        · obtain rfl : np = j := by omega
          have hr : rdp (ws.drop 1) = some l := by
            rw [HR.out, List.drop_of_length_le (by rw [HNL.out]; omega)]
            simp [rdp]
          have hln := HLn.out
          have c1 : (n : Int) ≤ ((2 * np + 1 : Nat) : Int) := by omega
          obtain ⟨ao, cp, rfl, hcap, hP⟩ := HL.out.2.pts
          have O1 := hid (fun w' (hw : Pts w' ao l) => spec_ShapeOk kd ao cp l w' (by omega) hcap hw)
          have k2 := G2.out
          have k4 := G4.out
          rw [hln] at O1 k4
          obtain ⟨r80, r81, _, r8f⟩ := cell2g k4
          have hso := HO.out l hr
          cases hk : shok kd l
          · have HN := hid (show rso ws = none by rw [hso, hk]; rfl)
            rw [hk] at O1
            have hB := HBW.out
            clear hr HR HO HBW hso
            go_wp2_with fail
            refine (O1.out _ hP).mono ?_
            rintro e V1 ⟨rfl, hcl⟩
            replace k2 := keepheap hcl k2
            replace hB := btrans hB hcl
            obtain ⟨y0, y1, y2, y3⟩ := cell2g k2
            go_wp2_with fail
            have gF := (set2 k2 (.int .i64 0) (.slice none 0 0)).1
            have bF := bset (bset hB (q := w.heap.size) (k := 0) (by omega) (.int .i64 0)) (q := w.heap.size) (k := 1) (by omega) (.slice none 0 0)
            generalize (V1.setCell ⟨w.heap.size, 0, none⟩ (.int .i64 0)).setCell ⟨w.heap.size, 1, none⟩ (.slice none 0 0) = wf at *
            obtain ⟨z0, z1, _, _⟩ := cell2g gF
            exact bodyPost_ret (v := .tuple #[.agg #[(.int .i64 0), (.slice none 0 0)], .bool false]) (by simp [results, Tryz.results21, go_sem, z0, z1]) rfl (rsa_no HN.out bF)
          · have HY := hid (show rso ws = some (kd, l) by rw [hso, hk]; rfl)
            rw [hk] at O1
            have hB := HBW.out
            have hrow := HL.out.2
            rw [hln] at hrow
            have hsz := HL.out.1
            have hpos := (kind_natr hk).2.1
            clear hr HR HO HBW HL G2 G4 hso
            go_wp2_with fail
            refine (O1.out _ hP).mono ?_
            rintro e V1 ⟨rfl, hcl⟩
            replace k2 := keepheap hcl k2
            replace k4 := keepheap hcl k4
            replace hB := btrans hB hcl
            replace hrow := hrow.bel hcl
            clear hcl hP r80 r81 r8f
            obtain ⟨r80, r81, _, r8f⟩ := cell2g k4
            obtain ⟨y0, y1, y2, y3⟩ := cell2g k2
            clear hln
            go_wp2_with fail
            have gF := (set2 k2 (.int .i64 kd) (.slice ao np cp)).1
            have bF := bset (bset hB (q := w.heap.size) (k := 0) (by omega) (.int .i64 kd)) (q := w.heap.size) (k := 1) (by omega) (.slice ao np cp)
            have rF := (hrow.set (q := w.heap.size) (k := 0) (u := .int .i64 kd) (by omega)).set (q := w.heap.size) (k := 1) (u := .slice ao np cp) (by omega)
            generalize (V1.setCell ⟨w.heap.size, 0, none⟩ (.int .i64 kd)).setCell ⟨w.heap.size, 1, none⟩ (.slice ao np cp) = wf at *
            obtain ⟨z0, z1, _, _⟩ := cell2g gF
            exact bodyPost_ret (v := .tuple #[.agg #[(.int .i64 kd), (.slice ao np cp)], .bool true]) (by simp [results, Tryz.results21, go_sem, z0, z1]) rfl (rsa_row HY.out bF rF (by omega) hpos)
end Go.Proofs.YtenlhgnobfadgaaGreatDoor
