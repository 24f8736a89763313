/- Texts of stores, joined: Split, Dec, Sum. -/
import Derived.Lib.SplitLaws
import Derived.Lib.IndexLaws
import Derived.Lib.RabinKarpLaws
import Derived.Test.YtdaheepfmnjadaaGreatDoorRows
import Derived.WalkKit
import Derived.WalkSpells
import Derived.Handy
import Derived.Lib.ItoaMem
import Derived.Laws.BitsAllLaws
set_option linter.unusedSimpArgs false
set_option linter.unusedVariables false
namespace Go.Proofs.YtdaheepfmnjadaaGreatDoor
def by8 (s : ByteArray) (k : Nat) : Nat := if h : k < s.size then (s[k]'h).toNat else 0
theorem by8_at (s : ByteArray) (k : Nat) (h : k < s.size) : (s[k]'h).toNat = by8 s k := by unfold by8; rw [dif_pos h]
def sep : ByteArray := ⟨#[32]⟩
def rest (s : ByteArray) : Nat → Nat → Nat → List ByteArray
  | 0, from_, _ => [s.extract from_ s.size]
  | f + 1, from_, i => if by8 s i = 32 then s.extract from_ i :: rest s f (i + 1) (i + 1) else rest s f from_ (i + 1)
theorem occ1 (l : List UInt8) (j : Nat) : Lib.occAt l [32] j = true ↔ l[j]? = some 32 := by
  unfold Lib.occAt
  rw [← List.head?_drop]
  cases h : l.drop j with
  | nil => simp
  | cons a r =>
    simp only [List.isPrefixOf, Bool.and_true, beq_iff_eq, List.head?_cons, Option.some.injEq]
    exact eq_comm
theorem ext_list {a b : ByteArray} (h : a.data.toList = b.data.toList) : a = b := ByteArray.ext (Array.toList_inj.1 h)
theorem cut_cut (s : ByteArray) (a x y : Nat) (hy : a + y ≤ s.size) : (s.extract a s.size).extract x y = s.extract (a + x) (a + y) := by
  apply ext_list
  rw [Lib.extract_data, Lib.extract_data, Lib.extract_data]
  rw [List.drop_take, List.drop_drop, List.take_take]
  congr 1
  omega
theorem cut_end (s : ByteArray) (a x : Nat) (ha : a ≤ s.size) : (s.extract a s.size).extract x (s.extract a s.size).size = s.extract (a + x) s.size := by
  have hsz : (s.extract a s.size).size = s.size - a := by
    simp
  rw [hsz, cut_cut s a x (s.size - a) (by omega), show a + (s.size - a) = s.size by omega]
theorem cut_byte (s : ByteArray) (a j : Nat) (h : a + j < s.size) : (s.extract a s.size).data.toList[j]? = some (UInt8.ofNat (by8 s (a + j))) := by
  rw [Lib.extract_data, List.getElem?_take, if_pos (by omega), List.getElem?_drop, byte_at s (a + j) h, ← by8_at s (a + j) h]
  simp
theorem byte_32 (s : ByteArray) (k : Nat) : UInt8.ofNat (by8 s k) = 32 ↔ by8 s k = 32 := by
  have hlt : by8 s k < 256 := by
    unfold by8; split
    · exact (s[k]).toNat_lt
    · omega
  constructor
  · intro h
    have := congrArg UInt8.toNat h
    rw [UInt8.toNat_ofNat'] at this
    have e : (32 : UInt8).toNat = 32 := rfl
    omega
  · intro h; rw [h]; rfl
theorem no_occ (s : ByteArray) (a i : Nat) (hi : i ≤ s.size) (hno : ∀ k, a ≤ k → k < i → by8 s k ≠ 32) : Lib.NoOcc (s.extract a s.size).data.toList sep.data.toList (i - a) := by
  intro j hj
  rw [Bool.eq_false_iff]
  intro h
  have h' := (occ1 _ j).1 h
  rw [cut_byte s a j (by omega), Option.some.injEq, byte_32] at h'
  exact hno (a + j) (by omega) (by omega) h'
theorem split_rest (s : ByteArray) : ∀ (f a i : Nat), i + f = s.size → a ≤ i → (∀ k, a ≤ k → k < i → by8 s k ≠ 32) →
    Lib.splitB sep 0 (Lib.countB (s.extract a s.size) sep) (s.extract a s.size) = rest s f a i
  | 0, a, i, hf, ha, hno => by
    have hsz : (s.extract a s.size).data.toList.length = s.size - a := by rw [Lib.extract_data]; simp
    have hidx : Lib.indexB (s.extract a s.size) sep = -1 := Lib.index_past (by decide) (no_occ s a i (by omega) hno) (by rw [hsz]; show _ < i - a + 1; omega)
    rw [Lib.countB_miss _ _ hidx, Lib.splitB_zero]; rfl
  | f + 1, a, i, hf, ha, hno => by
    by_cases h32 : by8 s i = 32
    · have hsz : (s.extract a s.size).data.toList.length = s.size - a := by rw [Lib.extract_data]; simp
      have hidx : Lib.indexB (s.extract a s.size) sep = ((i - a : Nat) : Int) := by
        refine Lib.index_hit (no_occ s a i (by omega) hno) (by rw [hsz]; omega) ((occ1 _ _).2 ?_)
        rw [cut_byte s a (i - a) (by omega), show a + (i - a) = i by omega, Option.some.injEq, byte_32]; exact h32
      have hsep : sep.size = 1 := rfl
      rw [Lib.countB_hit _ _ (i - a) (by rw [hsep]; omega) hidx, Nat.add_comm 1, Lib.splitB_hit _ _ _ _ (i - a) hidx, hsep]
      rw [cut_end s a (i - a + 1) (by omega), show a + (i - a + 1) = i + 1 by omega]
      rw [cut_cut s a 0 (i - a + 0) (by omega), show a + (i - a + 0) = i by omega, Nat.add_zero]
      rw [split_rest s f (i + 1) (i + 1) (by omega) (Nat.le_refl _) (fun k h1 h2 => absurd h1 (by omega))]
      simp only [rest]
      rw [if_pos h32]
    · rw [split_rest s f a (i + 1) (by omega) (by omega) (fun k h1 h2 => ?_)]
      · simp only [rest]
        rw [if_neg h32]
      · by_cases e : k = i
        · rw [e]; exact h32
        · exact hno k h1 (by omega)
theorem split_all (s : ByteArray) : Lib.splitB sep 0 (Lib.countB s sep) s = rest s s.size 0 0 := by
  have e : s.extract 0 s.size = s := by
    apply ext_list
    rw [Lib.extract_data]
    exact List.take_of_length_le (by simp)
  have := split_rest s s.size 0 0 (by omega) (Nat.le_refl _) (fun k _ h => absurd h (Nat.not_lt_zero _))
  rw [e] at this; exact this
end Go.Proofs.YtdaheepfmnjadaaGreatDoor
namespace Go.Proofs.YtdaheepfmnjadaaGreatDoor
open Go.RowKit
theorem hidd {p : Prop} (h : p) : Hid p := h
theorem cut_digit (d : Nat) (h : d < 10) : (⟨#[48, 49, 50, 51, 52, 53, 54, 55, 56, 57]⟩ : ByteArray).extract d (d + 1) = ⟨#[UInt8.ofNat (48 + d)]⟩ := by
  have : d = 0 ∨ d = 1 ∨ d = 2 ∨ d = 3 ∨ d = 4 ∨ d = 5 ∨ d = 6 ∨ d = 7 ∨ d = 8 ∨ d = 9 := by omega
  rcases this with rfl | rfl | rfl | rfl | rfl | rfl | rfl | rfl | rfl | rfl <;> rfl
theorem put_front (b : UInt8) (l : List UInt8) : (⟨#[b]⟩ : ByteArray) ++ ⟨l.toArray⟩ = ⟨(b :: l).toArray⟩ := by
  apply ByteArray.ext
  rw [ByteArray.data_append]
  simp
theorem dec_step (n u : Nat) (l : List UInt8) (_hu : u ≠ 0) (h : Lib.decDigits n = Lib.decDigits u ++ l) :
    (u / 10 = 0 → Lib.decDigits n = UInt8.ofNat (48 + u % 10) :: l) ∧ (0 < u / 10 → Lib.decDigits n = Lib.decDigits (u / 10) ++ UInt8.ofNat (48 + u % 10) :: l) := by
  constructor
  · intro h0
    rw [h, Lib.decDigits_one (show u < 10 by omega), show u % 10 = u by omega]; rfl
  · intro h0
    rw [h, Lib.decDigits, dif_neg (by omega)]; simp
theorem len_le (u n : Nat) (k : Nat) (hu : u ≠ 0) (h : u * 10 ^ k ≤ n) (hn : n ≤ 9223372036854775808) : k ≤ 18 := by
  rcases Nat.lt_or_ge 18 k with hk | hk
  · have h2 : 10 ^ 19 ≤ 10 ^ k := Nat.pow_le_pow_right (by omega) hk
    have h3 : 1 * 10 ^ k ≤ u * 10 ^ k := Nat.mul_le_mul (by omega) (Nat.le_refl _)
    omega
  · exact hk
theorem down_le (u n k : Nat) (h : u * 10 ^ k ≤ n) : u / 10 * 10 ^ (k + 1) ≤ n := by
  have h1 : u / 10 * 10 * 10 ^ k ≤ u * 10 ^ k := Nat.mul_le_mul (by omega) (Nat.le_refl _)
  rw [Nat.pow_succ, Nat.mul_comm (10 ^ k) 10, ← Nat.mul_assoc]; omega
theorem tmod_neg (u : Nat) : (-(u : Int)).tmod 10 = -((u % 10 : Nat) : Int) := by rw [Int.neg_tmod]; congr 1
theorem tdiv_neg (u : Nat) : (-(u : Int)).tdiv 10 = -((u / 10 : Nat) : Int) := by rw [Int.neg_tdiv]; congr 1
theorem neg_front (l : List UInt8) : (⟨#[45]⟩ : ByteArray) ++ ⟨l.toArray⟩ = ⟨(45 :: l).toArray⟩ := put_front 45 l
end Go.Proofs.YtdaheepfmnjadaaGreatDoor
namespace Go.Proofs.YtdaheepfmnjadaaGreatDoor
open Go.RowKit
theorem ret_int {k : IntKind} {a b : Int} (h : a = b) : Ending.returned (.int k a) = .returned (.int k b) := by rw [h]
theorem by8_lt (s : ByteArray) (k : Nat) : by8 s k ≤ 255 := by
  unfold by8; split
  · have := (s[k]).toNat_lt; omega
  · omega
def cs (s : ByteArray) : Nat → Nat × Nat
  | 0 => (1, 0)
  | k + 1 => (((cs s k).1 + by8 s k) % 65521, ((cs s k).2 + ((cs s k).1 + by8 s k) % 65521) % 65521)
theorem cs_lt (s : ByteArray) : ∀ k, (cs s k).1 ≤ 65520 ∧ (cs s k).2 ≤ 65520
  | 0 => by simp [cs]
  | k + 1 => by simp only [cs]; omega
theorem cs_next1 (s : ByteArray) (k : Nat) : (cs s (k + 1)).1 = ((cs s k).1 + by8 s k) % 65521 := rfl
theorem cs_next2 (s : ByteArray) (k : Nat) : (cs s (k + 1)).2 = ((cs s k).2 + ((cs s k).1 + by8 s k) % 65521) % 65521 := rfl
def sum (s : ByteArray) : Nat := 65536 * (cs s s.size).2 + (cs s s.size).1
set_option maxHeartbeats 400000 in
theorem spec_sum (s : ByteArray) (hs : s.size ≤ maxLen) (w : World) : Calls Tryz.prog 25 #[.string s] w fun e w' => e = .returned (.int .u32 (sum s : Nat)) ∧ w' = w := by
  unfold maxLen at hs
  go_enter Tryz.func25, Tryz.ntmps25
  go_wp2
  go_loop [3, 4, 5] (fun ta tb ti => ∃ a b k : Nat, k ≤ s.size ∧ a ≤ 65520 ∧ b ≤ 65520 ∧ ta = .int .i64 a ∧ tb = .int .i64 b ∧ ti = .int .i64 k ∧ Hid (a = (cs s k).1) ∧ Hid (b = (cs s k).2)) (fun _ _ ti => s.size - (intOf ti).toNat)
  case atStart => exact ⟨1, 0, 0, by omega, by omega, by omega, rfl, rfl, rfl, hidd rfl, hidd rfl⟩
  case round =>
    obtain ⟨a, b, k, hk, ha, hb, rfl, rfl, rfl, H1, H2⟩ := hrel
    by_cases hlt : k < s.size
    · have h8 := by8_lt s k
      have e8 := by8_at s k hlt
      have n1 := cs_next1 s k
      have n2 := cs_next2 s k
      rw [← H1.out, ← e8] at n1
      rw [← H1.out, ← H2.out, ← e8] at n2
      have N1 := hidd n1
      have N2 := hidd n2
      rw [← e8] at h8
      clear n1 n2 e8
      go_wp2
      go_round
      case rel => exact ⟨(a + (s[k]'hlt).toNat) % 65521, (b + (a + (s[k]'hlt).toNat) % 65521) % 65521, k + 1, by omega, by omega, by omega, by go_num, by go_num, by go_num, hidd N1.out.symm, hidd N2.out.symm⟩
      case measure => simp [intOf]; omega
    · have hk' : k = s.size := by omega
      go_wp2
      go_ret
      refine ⟨ret_int ?_, rfl⟩
      unfold sum
      rw [← hk', ← H1.out, ← H2.out]
      omega
set_option maxHeartbeats 400000 in
theorem impl_sum (s : ByteArray) (hs : s.size ≤ maxLen) (w : World) : Calls Tryz.prog 58 #[.string s] w fun e w' => e = .returned (.int .u32 (sum s : Nat)) ∧ w' = w := by
  unfold maxLen at hs
  go_enter Tryz.func58, Tryz.ntmps58
  go_wp2
  go_loop [3, 4, 8] (fun ta tb ti => ∃ a b k : Nat, k ≤ s.size ∧ a ≤ 65520 ∧ b ≤ 65520 ∧ ta = .int .u32 a ∧ tb = .int .u32 b ∧ ti = .int .i64 k ∧ Hid (a = (cs s k).1) ∧ Hid (b = (cs s k).2)) (fun _ _ ti => s.size - (intOf ti).toNat)
  case atStart => exact ⟨1, 0, 0, by omega, by omega, by omega, rfl, rfl, rfl, hidd rfl, hidd rfl⟩
  case round =>
    obtain ⟨a, b, k, hk, ha, hb, rfl, rfl, rfl, H1, H2⟩ := hrel
    by_cases hlt : k < s.size
    · have h8 := by8_lt s k
      have e8 := by8_at s k hlt
      have n1 := cs_next1 s k
      have n2 := cs_next2 s k
      rw [← H1.out, ← e8] at n1
      rw [← H1.out, ← H2.out, ← e8] at n2
      have N1 := hidd n1
      have N2 := hidd n2
      rw [← e8] at h8
      clear n1 n2 e8
      go_wp2
      go_round
      case rel => exact ⟨(a + (s[k]'hlt).toNat) % 65521, (b + (a + (s[k]'hlt).toNat) % 65521) % 65521, k + 1, by omega, by omega, by omega, by go_num, by go_num, by go_num, hidd N1.out.symm, hidd N2.out.symm⟩
      case measure => simp [intOf]; omega
    · have hk' : k = s.size := by omega
      have ho := u32_or_nat (b * 65536) a (by omega) (by omega)
      rw [nat_join 16 (b * 65536) a (by omega) (by omega)] at ho
      have Ho := hidd ho
      clear ho
      go_wp2
      go_ret
      refine ⟨ret_int ?_, rfl⟩
      unfold sum
      rw [← hk', ← H1.out, ← H2.out]
      have h := Ho.out
      rw [Int.natCast_mul, Int.cast_ofNat_Int] at h
      rw [h]; omega
theorem cs_same (s t : ByteArray) (i : Nat) (h : ∀ k, k < i → by8 s k = by8 t k) : ∀ k, k ≤ i → cs s k = cs t k
  | 0, _ => rfl
  | k + 1, hk => by
    have := cs_same s t i h k (by omega)
    simp only [cs]; rw [this, h k (by omega)]
theorem cs_other (s t : ByteArray) (i : Nat) (h0 : (cs s i).1 ≠ (cs t i).1) (h : ∀ k, i ≤ k → by8 s k = by8 t k) : ∀ d, (cs s (i + d)).1 ≠ (cs t (i + d)).1
  | 0 => h0
  | d + 1 => by
    have ih := cs_other s t i h0 h d
    have a := (cs_lt s (i + d)).1
    have b := (cs_lt t (i + d)).1
    have e := h (i + d) (by omega)
    have c := by8_lt t (i + d)
    show (cs s (i + d + 1)).1 ≠ (cs t (i + d + 1)).1
    rw [cs_next1, cs_next1, e]
    generalize (cs s (i + d)).1 = x at *
    generalize (cs t (i + d)).1 = y at *
    omega
/-- A text with one byte changed has another sum. -/
theorem sum_other (s t : ByteArray) (hz : s.size = t.size) (i : Nat) (hi : i < s.size) (hne : by8 s i ≠ by8 t i) (h : ∀ k, k ≠ i → by8 s k = by8 t k) : sum s ≠ sum t := by
  have e := cs_same s t i (fun k hk => h k (by omega)) i (Nat.le_refl _)
  have a := (cs_lt t i).1
  have b := by8_lt s i
  have c := by8_lt t i
  have h1 : (cs s (i + 1)).1 ≠ (cs t (i + 1)).1 := by
    rw [cs_next1, cs_next1, e]
    generalize (cs t i).1 = x at *
    omega
  have h2 := cs_other s t (i + 1) h1 (fun k hk => h k (by omega)) (s.size - (i + 1))
  rw [show i + 1 + (s.size - (i + 1)) = s.size by omega] at h2
  intro he
  unfold sum at he
  rw [← hz] at he
  have a1 := (cs_lt s s.size).1
  have b1 := (cs_lt t s.size).1
  omega
end Go.Proofs.YtdaheepfmnjadaaGreatDoor
