/- Texts of stores, joined: Split, Dec, Sum. -/
import Derived.Lib.SplitLaws
import Derived.Lib.IndexLaws
import Derived.Lib.RabinKarpLaws
import Derived.Test.YtfjmbbjcghopgaaGreatDoorRows
import Derived.WalkKit
import Derived.WalkSpells
import Derived.Handy
import Derived.Lib.ItoaMem
import Derived.Laws.BitsAllLaws
set_option linter.unusedSimpArgs false
set_option linter.unusedVariables false
namespace Go.Proofs.YtfjmbbjcghopgaaGreatDoor
def by8 (s : ByteArray) (k : Nat) : Nat := if h : k < s.size then (s[k]'h).toNat else 0
theorem by8_at (s : ByteArray) (k : Nat) (h : k < s.size) : (s[k]'h).toNat = by8 s k := by unfold by8; rw [dif_pos h]
def rest (s : ByteArray) : Nat → Nat → Nat → List ByteArray
  | 0, from_, _ => [s.extract from_ s.size]
  | f + 1, from_, i => if by8 s i = 32 then s.extract from_ i :: rest s f (i + 1) (i + 1) else rest s f from_ (i + 1)
end Go.Proofs.YtfjmbbjcghopgaaGreatDoor
namespace Go.Proofs.YtfjmbbjcghopgaaGreatDoor
open Go.RowKit
theorem hidd {p : Prop} (h : p) : Hid p := h
end Go.Proofs.YtfjmbbjcghopgaaGreatDoor
namespace Go.Proofs.YtfjmbbjcghopgaaGreatDoor
open Go.RowKit
theorem ret_int {k : IntKind} {a b : Int} (h : a = b) : Ending.returned (.int k a) = .returned (.int k b) := by rw [h]
theorem by8_lt (s : ByteArray) (k : Nat) : by8 s k ≤ 255 := by
  unfold by8; split
  · have := (s[k]).toNat_lt; omega
  · omega
def cs (s : ByteArray) : Nat → Nat × Nat
  | 0 => (1, 0)
  | k + 1 => (((cs s k).1 + by8 s k) % 65521, ((cs s k).2 + ((cs s k).1 + by8 s k) % 65521) % 65521)
theorem cs_lt (s : ByteArray) : ∀ k, (cs s k).1 ≤ 65520 ∧ (cs s k).2 ≤ 65520
  | 0 => by simp [cs]
  | k + 1 => by simp only [cs]; omega
theorem cs_next1 (s : ByteArray) (k : Nat) : (cs s (k + 1)).1 = ((cs s k).1 + by8 s k) % 65521 := rfl
theorem cs_next2 (s : ByteArray) (k : Nat) : (cs s (k + 1)).2 = ((cs s k).2 + ((cs s k).1 + by8 s k) % 65521) % 65521 := rfl
def sum (s : ByteArray) : Nat := 65536 * (cs s s.size).2 + (cs s s.size).1
set_option maxHeartbeats 400000 in
theorem spec_sum (s : ByteArray) (hs : s.size ≤ maxLen) (w : World) : Calls Tryz.prog 20 #[.string s] w fun e w' => e = .returned (.int .u32 (sum s : Nat)) ∧ w' = w := by
  unfold maxLen at hs
  go_enter Tryz.func20, Tryz.ntmps20
  go_wp2
  go_loop [3, 4, 5] (fun ta tb ti => ∃ a b k : Nat, k ≤ s.size ∧ a ≤ 65520 ∧ b ≤ 65520 ∧ ta = .int .i64 a ∧ tb = .int .i64 b ∧ ti = .int .i64 k ∧ Hid (a = (cs s k).1) ∧ Hid (b = (cs s k).2)) (fun _ _ ti => s.size - (intOf ti).toNat)
  case atStart => exact ⟨1, 0, 0, by omega, by omega, by omega, rfl, rfl, rfl, hidd rfl, hidd rfl⟩
  case round =>
    obtain ⟨a, b, k, hk, ha, hb, rfl, rfl, rfl, H1, H2⟩ := hrel
    by_cases hlt : k < s.size
    · have h8 := by8_lt s k
      have e8 := by8_at s k hlt
      have n1 := cs_next1 s k
      have n2 := cs_next2 s k
      rw [← H1.out, ← e8] at n1
      rw [← H1.out, ← H2.out, ← e8] at n2
      have N1 := hidd n1
      have N2 := hidd n2
      rw [← e8] at h8
      clear n1 n2 e8
      go_wp2
      go_round
      case rel => exact ⟨(a + (s[k]'hlt).toNat) % 65521, (b + (a + (s[k]'hlt).toNat) % 65521) % 65521, k + 1, by omega, by omega, by omega, by go_num, by go_num, by go_num, hidd N1.out.symm, hidd N2.out.symm⟩
      case measure => simp [intOf]; omega
    · have hk' : k = s.size := by omega
      go_wp2
      go_ret
      refine ⟨ret_int ?_, rfl⟩
      unfold sum
      rw [← hk', ← H1.out, ← H2.out]
      omega
set_option maxHeartbeats 400000 in
theorem impl_sum (s : ByteArray) (hs : s.size ≤ maxLen) (w : World) : Calls Tryz.prog 54 #[.string s] w fun e w' => e = .returned (.int .u32 (sum s : Nat)) ∧ w' = w := by
  unfold maxLen at hs
  go_enter Tryz.func54, Tryz.ntmps54
  go_wp2
  go_loop [3, 4, 8] (fun ta tb ti => ∃ a b k : Nat, k ≤ s.size ∧ a ≤ 65520 ∧ b ≤ 65520 ∧ ta = .int .u32 a ∧ tb = .int .u32 b ∧ ti = .int .i64 k ∧ Hid (a = (cs s k).1) ∧ Hid (b = (cs s k).2)) (fun _ _ ti => s.size - (intOf ti).toNat)
  case atStart => exact ⟨1, 0, 0, by omega, by omega, by omega, rfl, rfl, rfl, hidd rfl, hidd rfl⟩
  case round =>
    obtain ⟨a, b, k, hk, ha, hb, rfl, rfl, rfl, H1, H2⟩ := hrel
    by_cases hlt : k < s.size
    · have h8 := by8_lt s k
      have e8 := by8_at s k hlt
      have n1 := cs_next1 s k
      have n2 := cs_next2 s k
      rw [← H1.out, ← e8] at n1
      rw [← H1.out, ← H2.out, ← e8] at n2
      have N1 := hidd n1
      have N2 := hidd n2
      rw [← e8] at h8
      clear n1 n2 e8
      go_wp2
      go_round
      case rel => exact ⟨(a + (s[k]'hlt).toNat) % 65521, (b + (a + (s[k]'hlt).toNat) % 65521) % 65521, k + 1, by omega, by omega, by omega, by go_num, by go_num, by go_num, hidd N1.out.symm, hidd N2.out.symm⟩
      case measure => simp [intOf]; omega
    · have hk' : k = s.size := by omega
      have ho := u32_or_nat (b * 65536) a (by omega) (by omega)
      rw [nat_join 16 (b * 65536) a (by omega) (by omega)] at ho
      have Ho := hidd ho
      clear ho
      go_wp2
      go_ret
      refine ⟨ret_int ?_, rfl⟩
      unfold sum
      rw [← hk', ← H1.out, ← H2.out]
      have h := Ho.out
      rw [Int.natCast_mul, Int.cast_ofNat_Int] at h
      rw [h]; omega
end Go.Proofs.YtfjmbbjcghopgaaGreatDoor
