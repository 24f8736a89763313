/- Texts of stores, joined: GetM, Get, Get2. -/
import Derived.Test.YtenlhgnobfadgaaGreatDoorJ11
import Derived.Test.YtenlhgnobfadgaaGreatDoorJ12
import Derived.Lib.Strings
import Derived.Lib.RabinKarpLaws
import Derived.Deep.RegionWith
set_option linter.unusedSimpArgs false
set_option linter.unusedVariables false
namespace Go.Proofs.YtenlhgnobfadgaaGreatDoor
/-- What groups of seven bits come to, the lowest first. -/
def val : List Nat → Nat
  | [] => 0
  | d :: t => d % 128 + 128 * val t
theorem val_snoc (l : List Nat) (d : Nat) : val (l ++ [d]) = val l + d % 128 * 128 ^ l.length := by
  induction l with
  | nil => simp [val]
  | cons a t ih => simp only [List.cons_append, val, ih, List.length_cons, Nat.pow_succ, Nat.mul_add]; rw [Nat.mul_left_comm, Nat.mul_comm 128 (128 ^ t.length), ]; omega
theorem val_lt (l : List Nat) : val l < 128 ^ l.length := by
  induction l with
  | nil => simp [val]
  | cons a t ih => simp only [val, List.length_cons, Nat.pow_succ]; omega
theorem G_canon : ∀ (f : Nat) (l : List Nat) (d : Nat), (∀ x ∈ l, 128 ≤ x ∧ x < 256) → d < 128 → (l = [] ∨ d ≠ 0) → l.length + 1 ≤ f → G f (val (l ++ [d])) = (l ++ [d]).map (fun (x : Nat) => (x : Int))
  | 0, _, _, _, _, _, h => by omega
  | f + 1, [], d, _, hd, _, _ => by
    have e : val ([] ++ [d]) = d := by simp [val]; omega
    rw [e, G_last _ _ (by omega)]; rfl
  | f + 1, a :: l, d, hl, hd, hc, hf => by
    have hd0 : d ≠ 0 := by rcases hc with h | h; · cases h
                           · exact h
    have ha := hl a (by simp)
    have ih := G_canon f l d (fun x hx => hl x (by simp [hx])) hd (.inr hd0) (by simp at hf; omega)
    have hpos : 1 ≤ val (l ++ [d]) := by
      rw [val_snoc, Nat.mod_eq_of_lt hd]
      have : 1 * 1 ≤ d * 128 ^ l.length := Nat.mul_le_mul (by omega) (Nat.pos_of_ne_zero (by simp))
      omega
    have e : val (a :: l ++ [d]) = a % 128 + 128 * val (l ++ [d]) := rfl
    rw [e, G_more _ _ (by omega)]
    have e1 : (a % 128 + 128 * val (l ++ [d])) / 128 = val (l ++ [d]) := by omega
    have e2 : 128 + (a % 128 + 128 * val (l ++ [d])) % 128 = a := by omega
    rw [e1, e2, ih]; rfl
theorem G_end : ∀ (f n : Nat), 1 ≤ n → (G f n).getLast? ≠ some 0
  | 0, _, _ => by simp [G]
  | f + 1, n, h => by
    by_cases hn : n ≤ 127
    · rw [G_last _ _ hn]; simp; omega
    · rw [G_more _ _ (by omega)]
      have ih := G_end f (n / 128) (by omega)
      cases hg : G f (n / 128) with
      | nil => simp; omega
      | cons a t => rw [hg] at ih; simpa [List.getLast?_cons_cons] using ih
theorem G_needless (f n : Nat) (l : List Int) (hl : l ≠ []) : G f n ≠ l ++ [0] := by
  intro h
  by_cases hn : 1 ≤ n
  · have := G_end f n hn
    rw [h] at this; simp at this
  · have h0 : n = 0 := by omega
    subst h0
    cases f with
    | zero => simp [G] at h
    | succ f =>
      rw [G_last _ _ (by omega)] at h
      cases l with
      | nil => exact hl rfl
      | cons a t => simp at h
theorem G_in : ∀ (f r : Nat), ∀ x ∈ G f r, 0 ≤ x ∧ x < 256
  | 0, _, _, h => by simp [G] at h
  | f + 1, r, x, h => by
    by_cases hr : r ≤ 127
    · rw [G_last _ _ hr] at h; simp at h; omega
    · rw [G_more _ _ (by omega)] at h
      rcases List.mem_cons.1 h with h | h
      · omega
      · exact G_in f _ x h
/-- The bytes of a text from i on, j of them. -/
def seg (s : ByteArray) (i j : Nat) : List Nat := (List.range j).map fun t => by8 s (i + t)
theorem seg_next (s : ByteArray) (i j : Nat) : seg s i (j + 1) = seg s i j ++ [by8 s (i + j)] := by simp [seg, List.range_succ]
theorem seg_length (s : ByteArray) (i j : Nat) : (seg s i j).length = j := by simp [seg]
def acc (s : ByteArray) (i : Nat) : Nat → Nat
  | 0 => 0
  | j + 1 => acc s i j + by8 s (i + j) % 128 * 128 ^ j
theorem acc_val (s : ByteArray) (i : Nat) : ∀ j, acc s i j = val (seg s i j)
  | 0 => rfl
  | j + 1 => by rw [seg_next, val_snoc, seg_length, ← acc_val s i j]; rfl
theorem acc_lt (s : ByteArray) (i j : Nat) : acc s i j < 128 ^ j := by
  rw [acc_val]; have := val_lt (seg s i j); rwa [seg_length] at this
theorem seg_data (s : ByteArray) (i : Nat) : ∀ j, i + j ≤ s.size → (s.data.toList.drop i).take j = (seg s i j).map UInt8.ofNat
  | 0, _ => by simp [seg]
  | j + 1, h => by
    have ih := seg_data s i j (by omega)
    have hb := byte_at s (i + j) (by omega)
    have h8 := by8_at s (i + j) (by omega)
    rw [List.take_add_one, ih, seg_next, List.map_append, List.getElem?_drop, hb, ← h8]
    simp
theorem back_nums (xs : List Int) (h : ∀ x ∈ xs, 0 ≤ x ∧ x < 256) : (xs.map fun n => UInt8.ofNat n.toNat).map (fun u => (u.toNat : Int)) = xs := by
  rw [List.map_map]
  conv => rhs; rw [← List.map_id xs]
  apply List.map_congr_left
  intro x hx
  have := h x hx
  simp only [Function.comp, UInt8.toNat_ofNat', id]
  omega
theorem back_seg (s : ByteArray) (i j : Nat) : ((seg s i j).map UInt8.ofNat).map (fun u => (u.toNat : Int)) = (seg s i j).map (fun (x : Nat) => (x : Int)) := by
  rw [List.map_map]
  apply List.map_congr_left
  intro x hx
  simp only [seg, List.mem_map] at hx
  obtain ⟨t, _, rfl⟩ := hx
  have := by8_lt s (i + t)
  simp only [Function.comp, UInt8.toNat_ofNat']
  omega
theorem cmp_eq (s : ByteArray) (i j : Nat) (hj : j ≤ 4) (hi : i + j < s.size) (hall : ∀ t, t < j → 128 ≤ by8 s (i + t)) (hd : by8 s (i + j) < 128) (hc : j = 0 ∨ by8 s (i + j) ≠ 0) :
    ((strOfNums (G 5 (acc s i (j + 1)))).toList == (s.extract i (i + j + 1)).toList) = true := by
  rw [ByteArray.toList_eq, ByteArray.toList_eq, beq_iff_eq, strOfNums_data, Lib.extract_data, show i + j + 1 - i = j + 1 by omega, seg_data s i (j + 1) (by omega), acc_val, seg_next, G_canon 5 (seg s i j) _ ?_ hd ?_ (by rw [seg_length]; omega)]
  · simp [Function.comp_def]
  · intro x hx
    simp only [seg, List.mem_map, List.mem_range] at hx
    obtain ⟨t, ht, rfl⟩ := hx
    have := by8_lt s (i + t)
    exact ⟨hall t ht, by omega⟩
  · rcases hc with h | h
    · left; subst h; rfl
    · exact .inr h
theorem cmp_ne (s : ByteArray) (i j n : Nat) (hi : i + j < s.size) (hd : by8 s (i + j) = 0) (hj : 0 < j) :
    ((strOfNums (G 5 n)).toList == (s.extract i (i + j + 1)).toList) = false := by
  rw [ByteArray.toList_eq, ByteArray.toList_eq, beq_eq_false_iff_ne, strOfNums_data, Lib.extract_data, show i + j + 1 - i = j + 1 by omega, seg_data s i (j + 1) (by omega)]
  intro h
  have h2 := congrArg (List.map (fun u : UInt8 => (u.toNat : Int))) h
  rw [back_nums _ (G_in 5 n), back_seg, seg_next, hd, List.map_append] at h2
  refine G_needless 5 n ((seg s i j).map (fun (x : Nat) => (x : Int))) ?_ h2
  intro h0
  have := congrArg List.length h0
  simp [seg_length] at this
  omega
theorem cmp_none (s : ByteArray) (i k : Nat) (hi : k < s.size) (hk : i ≤ k) : ((⟨#[]⟩ : ByteArray).toList == (s.extract i (k + 1)).toList) = false := by
  rw [ByteArray.toList_eq, ByteArray.toList_eq, beq_eq_false_iff_ne, Lib.extract_data]
  intro h
  have := congrArg List.length h
  simp at this
  omega
/-- What is read at i: five bytes at most. -/
def gn (s : ByteArray) (i : Nat) : Nat → Nat → Option (Nat × Nat)
  | 0, _ => none
  | f + 1, j => if i + j < s.size then (if by8 s (i + j) < 128 then (if (by8 s (i + j) = 0 ∧ 0 < j) ∨ 4000000000 < acc s i (j + 1) then none else some (acc s i (j + 1), i + j + 1)) else gn s i f (j + 1)) else none
def gnN (o : Option (Nat × Nat)) : Int := match o with | none => 0 | some x => (x.1 : Int)
def gnK (o : Option (Nat × Nat)) : Int := match o with | none => -1 | some x => (x.2 : Int)
end Go.Proofs.YtenlhgnobfadgaaGreatDoor
namespace Go.Proofs.YtenlhgnobfadgaaGreatDoor
open Go.RowKit
theorem gn_end (s : ByteArray) (i f j : Nat) (h : s.size ≤ i + j) : gn s i f j = none := by
  cases f with
  | zero => rfl
  | succ f => simp only [gn]; rw [if_neg (by omega)]
theorem gn_go (s : ByteArray) (i f j : Nat) (h : i + j < s.size) (hb : 128 ≤ by8 s (i + j)) : gn s i (f + 1) j = gn s i f (j + 1) := by
  simp only [gn]; rw [if_pos h, if_neg (by omega)]
theorem gn_bad (s : ByteArray) (i f j : Nat) (h : i + j < s.size) (hb : by8 s (i + j) < 128) (hc : (by8 s (i + j) = 0 ∧ 0 < j) ∨ 4000000000 < acc s i (j + 1)) : gn s i (f + 1) j = none := by
  simp only [gn]; rw [if_pos h, if_pos hb, if_pos hc]
theorem gn_good (s : ByteArray) (i f j : Nat) (h : i + j < s.size) (hb : by8 s (i + j) < 128) (hc : ¬ ((by8 s (i + j) = 0 ∧ 0 < j) ∨ 4000000000 < acc s i (j + 1))) : gn s i (f + 1) j = some (acc s i (j + 1), i + j + 1) := by
  simp only [gn]; rw [if_pos h, if_pos hb, if_neg hc]
theorem pow128_le (j : Nat) (h : j ≤ 4) : 128 ^ j ≤ 268435456 := by
  have := Nat.pow_le_pow_right (n := 128) (by omega) h
  simpa using this
theorem cut_some (s : ByteArray) (i k : Nat) (hi : k < s.size) (hk : i ≤ k) : (s.extract i (k + 1)).toList.isEmpty = false := by
  rw [ByteArray.toList_eq, Lib.extract_data]
  cases h : List.take (k + 1 - i) (List.drop i s.data.toList) with
  | nil =>
    have := congrArg List.length h
    simp at this
    omega
  | cons a t => rfl
theorem below_drew {w w1 : World} (h : Below w.drew.heap.size w.drew w1) : Below w.heap.size w w1 := ((Below.refl _ w).drew).trans h
end Go.Proofs.YtenlhgnobfadgaaGreatDoor
namespace Go.Proofs.YtenlhgnobfadgaaGreatDoor
open Go.RowKit
theorem i64_or_nat (a b : Nat) (ha : a < 9223372036854775808) (hb : b < 9223372036854775808) : bits .or .i64 (a : Int) (b : Int) = ((a ||| b : Nat) : Int) := by
  have hx : a ||| b < 2 ^ 63 := Nat.or_lt_two_pow (by omega) (by omega)
  show IntKind.i64.wrap ((BitVec.ofInt 64 (a : Int) ||| BitVec.ofInt 64 (b : Int)).toNat : Int) = _
  rw [BitVec.toNat_or, ofInt_u64 a (by omega), ofInt_u64 b (by omega)]
  exact IntWalk.i64_in _ ⟨by omega, by omega⟩
theorem or_acc' (n b p : Nat) (e : Nat) (hp : p = 2 ^ e) (hn : n < p) (hle : p ≤ 268435456) (hb : b < 128) : bits .or .i64 (n : Int) (wrap64 ((b : Int) * 2 ^ e)) = ((n + b * p : Nat) : Int) := by
  have hmul : b * p ≤ 127 * 268435456 := Nat.mul_le_mul (by omega) hle
  have e3 : (b : Int) * 2 ^ e = ((b * p : Nat) : Int) := by rw [Int.natCast_mul, hp, Int.natCast_pow]; rfl
  have e4 : wrap64 ((b * p : Nat) : Int) = ((b * p : Nat) : Int) := IntWalk.wrap64_in _ ⟨by omega, by omega⟩
  rw [e3, e4]
  generalize hq : b * p = q at *
  rw [i64_or_nat n q (by omega) (by omega), Nat.or_comm, nat_join e q n (by rw [← hp, ← hq]; exact Nat.mul_mod_left _ _) (by rw [← hp]; exact hn), Nat.add_comm]
theorem or_acc (n b j : Nat) (hn : n < 128 ^ j) (hb : b ≤ 255) (hj : j ≤ 4) :
    bits .or .i64 (n : Int) (wrap64 (wrap64 (bits .and .u8 (b : Int) 127) * 2 ^ (7 * j))) = ((n + b % 128 * 128 ^ j : Nat) : Int) := by
  have hp : (128 : Nat) ^ j = 2 ^ (7 * j) := by rw [Nat.pow_mul]
  have hle := pow128_le j hj
  have e1 : bits .and .u8 (b : Int) 127 = ((b % 128 : Nat) : Int) := by
    have := u8_and_nat b 127 (by omega) (by omega)
    rw [nat_mask7] at this; exact this
  have e2 : wrap64 ((b % 128 : Nat) : Int) = ((b % 128 : Nat) : Int) := IntWalk.wrap64_in _ ⟨by omega, by omega⟩
  rw [e1, e2]
  generalize 128 ^ j = p at *
  exact or_acc' n (b % 128) p (7 * j) hp hn hle (by omega)
end Go.Proofs.YtenlhgnobfadgaaGreatDoor
