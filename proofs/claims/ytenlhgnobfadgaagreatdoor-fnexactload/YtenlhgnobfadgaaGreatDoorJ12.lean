/- Texts of stores, joined: Sum. -/
import Derived.Test.YtenlhgnobfadgaaGreatDoorJ3
import Derived.Test.YtenlhgnobfadgaaGreatDoorJ1
import Derived.WalkKit
import Derived.Handy
import Derived.Laws.BitsAllLaws
set_option linter.unusedSimpArgs false
set_option linter.unusedVariables false
namespace Go.Proofs.YtenlhgnobfadgaaGreatDoor
open Go.RowKit
theorem ret_int {k : IntKind} {a b : Int} (h : a = b) : Ending.returned (.int k a) = .returned (.int k b) := by rw [h]
theorem by8_lt (s : ByteArray) (k : Nat) : by8 s k ≤ 255 := by
  unfold by8; split
  · have := (s[k]).toNat_lt; omega
  · omega
def cs (s : ByteArray) : Nat → Nat × Nat
  | 0 => (1, 0)
  | k + 1 => (((cs s k).1 + by8 s k) % 65521, ((cs s k).2 + ((cs s k).1 + by8 s k) % 65521) % 65521)
theorem cs_lt (s : ByteArray) : ∀ k, (cs s k).1 ≤ 65520 ∧ (cs s k).2 ≤ 65520
  | 0 => by simp [cs]
  | k + 1 => by simp only [cs]; omega
theorem cs_next1 (s : ByteArray) (k : Nat) : (cs s (k + 1)).1 = ((cs s k).1 + by8 s k) % 65521 := rfl
theorem cs_next2 (s : ByteArray) (k : Nat) : (cs s (k + 1)).2 = ((cs s k).2 + ((cs s k).1 + by8 s k) % 65521) % 65521 := rfl
def sum (s : ByteArray) : Nat := 65536 * (cs s s.size).2 + (cs s s.size).1
theorem cs_same (s t : ByteArray) (i : Nat) (h : ∀ k, k < i → by8 s k = by8 t k) : ∀ k, k ≤ i → cs s k = cs t k
  | 0, _ => rfl
  | k + 1, hk => by
    have := cs_same s t i h k (by omega)
    simp only [cs]; rw [this, h k (by omega)]
theorem cs_other (s t : ByteArray) (i : Nat) (h0 : (cs s i).1 ≠ (cs t i).1) (h : ∀ k, i ≤ k → by8 s k = by8 t k) : ∀ d, (cs s (i + d)).1 ≠ (cs t (i + d)).1
  | 0 => h0
  | d + 1 => by
    have ih := cs_other s t i h0 h d
    have a := (cs_lt s (i + d)).1
    have b := (cs_lt t (i + d)).1
    have e := h (i + d) (by omega)
    have c := by8_lt t (i + d)
    show (cs s (i + d + 1)).1 ≠ (cs t (i + d + 1)).1
    rw [cs_next1, cs_next1, e]
    generalize (cs s (i + d)).1 = x at *
    generalize (cs t (i + d)).1 = y at *
    omega
/-- A text with one byte changed has another sum. -/
theorem sum_other (s t : ByteArray) (hz : s.size = t.size) (i : Nat) (hi : i < s.size) (hne : by8 s i ≠ by8 t i) (h : ∀ k, k ≠ i → by8 s k = by8 t k) : sum s ≠ sum t := by
  have e := cs_same s t i (fun k hk => h k (by omega)) i (Nat.le_refl _)
  have a := (cs_lt t i).1
  have b := by8_lt s i
  have c := by8_lt t i
  have h1 : (cs s (i + 1)).1 ≠ (cs t (i + 1)).1 := by
    rw [cs_next1, cs_next1, e]
    generalize (cs t i).1 = x at *
    omega
  have h2 := cs_other s t (i + 1) h1 (fun k hk => h k (by omega)) (s.size - (i + 1))
  rw [show i + 1 + (s.size - (i + 1)) = s.size by omega] at h2
  intro he
  unfold sum at he
  rw [← hz] at he
  have a1 := (cs_lt s s.size).1
  have b1 := (cs_lt t s.size).1
  omega
end Go.Proofs.YtenlhgnobfadgaaGreatDoor
