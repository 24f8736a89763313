/- Plain arithmetic of chapter 1: binary digits woven into one number and parted again. -/
namespace Tm
/-! ### A check over all numbers below a power of two, by halves -/
def chk (f : Nat → Bool) : Nat → Nat → Bool
  | 0, s => f s
  | d + 1, s => chk f d (Nat.mul 2 s) && chk f d (Nat.add (Nat.mul 2 s) 1)
theorem chk_all (f : Nat → Bool) : ∀ (d s : Nat), chk f d s = true → ∀ i, i < 2 ^ d → f (s * 2 ^ d + i) = true
  | 0, s, h, i, hi => by
    have : i = 0 := by simp at hi; omega
    subst this; simpa [chk] using h
  | d + 1, s, h, i, hi => by
    simp only [chk, Bool.and_eq_true] at h
    by_cases hlt : i < 2 ^ d
    · have h1 := chk_all f d _ h.1 i hlt
      have e : Nat.mul 2 s * 2 ^ d + i = s * 2 ^ (d + 1) + i := by
        show 2 * s * 2 ^ d + i = _
        rw [Nat.pow_succ, Nat.mul_comm 2 s, Nat.mul_assoc, Nat.mul_comm 2 (2 ^ d)]
      rw [e] at h1; exact h1
    · have h2 := chk_all f d _ h.2 (i - 2 ^ d) (by rw [Nat.pow_succ] at hi; omega)
      have e : Nat.add (Nat.mul 2 s) 1 * 2 ^ d + (i - 2 ^ d) = s * 2 ^ (d + 1) + i := by
        show (2 * s + 1) * 2 ^ d + (i - 2 ^ d) = _
        rw [Nat.pow_succ, Nat.add_mul, Nat.one_mul, Nat.mul_comm 2 s, Nat.mul_assoc, Nat.mul_comm 2 (2 ^ d)]
        omega
      rw [e] at h2; exact h2
/-! ### Binary digits spread to every second place -/
def S : Nat → Nat → Nat
  | 0, _ => 0
  | k + 1, x => x % 2 + 4 * S k (x / 2)
def P : Nat → Nat → Nat
  | 0, _ => 0
  | k + 1, n => n % 2 + 2 * P k (n / 4)
def M : Nat → Nat
  | 0 => 0
  | k + 1 => 1 + 4 * M k
def spr (x : Nat) : Nat :=
  (fun a => (fun b => (fun c => (fun d => Nat.land (Nat.lor d (Nat.mul d 2)) 1431655765) (Nat.land (Nat.lor c (Nat.mul c 4)) 858993459)) (Nat.land (Nat.lor b (Nat.mul b 16)) 252645135)) (Nat.land (Nat.lor a (Nat.mul a 256)) 16711935)) (Nat.land x 65535)
def gatM (a : Nat) : Nat :=
  (fun b => (fun c => (fun d => Nat.land (Nat.lor d (Nat.div d 256)) 65535) (Nat.land (Nat.lor c (Nat.div c 16)) 16711935)) (Nat.land (Nat.lor b (Nat.div b 4)) 252645135)) (Nat.land (Nat.lor a (Nat.div a 2)) 858993459)
def S4 (x : Nat) : Nat := Nat.add (Nat.mod x 2) (Nat.add (Nat.mul 4 (Nat.mod (Nat.div x 2) 2)) (Nat.add (Nat.mul 16 (Nat.mod (Nat.div x 4) 2)) (Nat.mul 64 (Nat.mod (Nat.div x 8) 2))))
def S16 (x : Nat) : Nat := Nat.add (S4 x) (Nat.add (Nat.mul 256 (S4 (Nat.div x 16))) (Nat.add (Nat.mul 65536 (S4 (Nat.div x 256))) (Nat.mul 16777216 (S4 (Nat.div x 4096)))))
theorem S4_eq (x : Nat) : S4 x = x % 2 + (4 * (x / 2 % 2) + (16 * (x / 4 % 2) + 64 * (x / 8 % 2))) := rfl
theorem S16_eq (x : Nat) : S16 x = S4 x + (256 * S4 (x / 16) + (65536 * S4 (x / 256) + 16777216 * S4 (x / 4096))) := rfl
theorem S_16 (x : Nat) : S 16 x = S16 x := by
  simp only [S, S16_eq, S4_eq, Nat.div_div_eq_div_mul, Nat.reduceMul, Nat.mul_zero, Nat.add_zero]
  omega
set_option maxRecDepth 100000 in
theorem spr_chk : chk (fun x => (fun y => Nat.beq (spr x) y && Nat.beq (gatM y) x) (S16 x)) 16 0 = true := by decide +kernel
theorem gat_S (x : Nat) (h : x < 65536) : gatM (S 16 x) = x := by
  have := chk_all _ 16 0 spr_chk x h
  simp only [Nat.zero_mul, Nat.zero_add, Bool.and_eq_true] at this
  rw [S_16]; exact Nat.eq_of_beq_eq_true this.2
theorem S_lt : ∀ (k x : Nat), 3 * S k x < 4 ^ k
  | 0, _ => by simp [S]
  | k + 1, x => by have := S_lt k (x / 2); simp only [S, Nat.pow_succ]; omega
theorem P_lt : ∀ (k n : Nat), P k n < 2 ^ k
  | 0, _ => by simp [P]
  | k + 1, n => by have := P_lt k (n / 4); simp only [P, Nat.pow_succ]; omega
theorem and_split (a b c d : Nat) (ha : a < 4) (hb : b < 4) : (a + 4 * c) &&& (b + 4 * d) = (a &&& b) + 4 * (c &&& d) := by
  have hab : a &&& b < 2 ^ 2 := Nat.and_lt_two_pow _ (by omega)
  have h1 : ((a + 4 * c) &&& (b + 4 * d)) % 2 ^ 2 = (a &&& b) := by
    rw [Nat.and_mod_two_pow, show (a + 4 * c) % 2 ^ 2 = a by omega, show (b + 4 * d) % 2 ^ 2 = b by omega]
  have h2 : ((a + 4 * c) &&& (b + 4 * d)) / 2 ^ 2 = (c &&& d) := by
    rw [Nat.and_div_two_pow, show (a + 4 * c) / 2 ^ 2 = c by omega, show (b + 4 * d) / 2 ^ 2 = d by omega]
  omega
theorem and_M : ∀ (k n : Nat), n &&& M k = S k (P k n)
  | 0, _ => by simp [M, S]
  | k + 1, n => by
    have ih := and_M k (n / 4)
    have e : n = n % 4 + 4 * (n / 4) := by omega
    have e1 : P (k + 1) n % 2 = n % 2 := by simp only [P]; omega
    have e2 : P (k + 1) n / 2 = P k (n / 4) := by simp only [P]; omega
    have e3 : n % 4 &&& 1 = n % 2 := by rw [Nat.and_one_is_mod]; omega
    show n &&& (1 + 4 * M k) = _
    rw [show S (k + 1) (P (k + 1) n) = P (k + 1) n % 2 + 4 * S k (P (k + 1) n / 2) from rfl, e1, e2, ← ih]
    conv => lhs; rw [e]
    rw [and_split _ _ _ _ (by omega) (by omega), e3]
theorem gat_P (n : Nat) : gatM (n &&& 1431655765) = P 16 n := by
  have h := and_M 16 n
  rw [show M 16 = 1431655765 from rfl] at h
  rw [h]; exact gat_S _ (P_lt 16 n)
end Tm
