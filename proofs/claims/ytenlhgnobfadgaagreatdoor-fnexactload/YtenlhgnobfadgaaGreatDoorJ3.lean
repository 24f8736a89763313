/- Texts of stores, joined: Split. -/
import Derived.Lib.SplitLaws
import Derived.Lib.IndexLaws
import Derived.Lib.RabinKarpLaws
set_option linter.unusedSimpArgs false
set_option linter.unusedVariables false
namespace Go.Proofs.YtenlhgnobfadgaaGreatDoor
def by8 (s : ByteArray) (k : Nat) : Nat := if h : k < s.size then (s[k]'h).toNat else 0
theorem by8_at (s : ByteArray) (k : Nat) (h : k < s.size) : (s[k]'h).toNat = by8 s k := by unfold by8; rw [dif_pos h]
def sep : ByteArray := ⟨#[32]⟩
def rest (s : ByteArray) : Nat → Nat → Nat → List ByteArray
  | 0, from_, _ => [s.extract from_ s.size]
  | f + 1, from_, i => if by8 s i = 32 then s.extract from_ i :: rest s f (i + 1) (i + 1) else rest s f from_ (i + 1)
theorem occ1 (l : List UInt8) (j : Nat) : Lib.occAt l [32] j = true ↔ l[j]? = some 32 := by
  unfold Lib.occAt
  rw [← List.head?_drop]
  cases h : l.drop j with
  | nil => simp
  | cons a r =>
    simp only [List.isPrefixOf, Bool.and_true, beq_iff_eq, List.head?_cons, Option.some.injEq]
    exact eq_comm
theorem ext_list {a b : ByteArray} (h : a.data.toList = b.data.toList) : a = b := ByteArray.ext (Array.toList_inj.1 h)
theorem cut_cut (s : ByteArray) (a x y : Nat) (hy : a + y ≤ s.size) : (s.extract a s.size).extract x y = s.extract (a + x) (a + y) := by
  apply ext_list
  rw [Lib.extract_data, Lib.extract_data, Lib.extract_data]
  rw [List.drop_take, List.drop_drop, List.take_take]
  congr 1
  omega
theorem cut_end (s : ByteArray) (a x : Nat) (ha : a ≤ s.size) : (s.extract a s.size).extract x (s.extract a s.size).size = s.extract (a + x) s.size := by
  have hsz : (s.extract a s.size).size = s.size - a := by
    simp
  rw [hsz, cut_cut s a x (s.size - a) (by omega), show a + (s.size - a) = s.size by omega]
theorem cut_byte (s : ByteArray) (a j : Nat) (h : a + j < s.size) : (s.extract a s.size).data.toList[j]? = some (UInt8.ofNat (by8 s (a + j))) := by
  rw [Lib.extract_data, List.getElem?_take, if_pos (by omega), List.getElem?_drop, byte_at s (a + j) h, ← by8_at s (a + j) h]
  simp
theorem byte_32 (s : ByteArray) (k : Nat) : UInt8.ofNat (by8 s k) = 32 ↔ by8 s k = 32 := by
  have hlt : by8 s k < 256 := by
    unfold by8; split
    · exact (s[k]).toNat_lt
    · omega
  constructor
  · intro h
    have := congrArg UInt8.toNat h
    rw [UInt8.toNat_ofNat'] at this
    have e : (32 : UInt8).toNat = 32 := rfl
    omega
  · intro h; rw [h]; rfl
theorem no_occ (s : ByteArray) (a i : Nat) (hi : i ≤ s.size) (hno : ∀ k, a ≤ k → k < i → by8 s k ≠ 32) : Lib.NoOcc (s.extract a s.size).data.toList sep.data.toList (i - a) := by
  intro j hj
  rw [Bool.eq_false_iff]
  intro h
  have h' := (occ1 _ j).1 h
  rw [cut_byte s a j (by omega), Option.some.injEq, byte_32] at h'
  exact hno (a + j) (by omega) (by omega) h'
theorem split_rest (s : ByteArray) : ∀ (f a i : Nat), i + f = s.size → a ≤ i → (∀ k, a ≤ k → k < i → by8 s k ≠ 32) →
    Lib.splitB sep 0 (Lib.countB (s.extract a s.size) sep) (s.extract a s.size) = rest s f a i
  | 0, a, i, hf, ha, hno => by
    have hsz : (s.extract a s.size).data.toList.length = s.size - a := by rw [Lib.extract_data]; simp
    have hidx : Lib.indexB (s.extract a s.size) sep = -1 := Lib.index_past (by decide) (no_occ s a i (by omega) hno) (by rw [hsz]; show _ < i - a + 1; omega)
    rw [Lib.countB_miss _ _ hidx, Lib.splitB_zero]; rfl
  | f + 1, a, i, hf, ha, hno => by
    by_cases h32 : by8 s i = 32
    · have hsz : (s.extract a s.size).data.toList.length = s.size - a := by rw [Lib.extract_data]; simp
      have hidx : Lib.indexB (s.extract a s.size) sep = ((i - a : Nat) : Int) := by
        refine Lib.index_hit (no_occ s a i (by omega) hno) (by rw [hsz]; omega) ((occ1 _ _).2 ?_)
        rw [cut_byte s a (i - a) (by omega), show a + (i - a) = i by omega, Option.some.injEq, byte_32]; exact h32
      have hsep : sep.size = 1 := rfl
      rw [Lib.countB_hit _ _ (i - a) (by rw [hsep]; omega) hidx, Nat.add_comm 1, Lib.splitB_hit _ _ _ _ (i - a) hidx, hsep]
      rw [cut_end s a (i - a + 1) (by omega), show a + (i - a + 1) = i + 1 by omega]
      rw [cut_cut s a 0 (i - a + 0) (by omega), show a + (i - a + 0) = i by omega, Nat.add_zero]
      rw [split_rest s f (i + 1) (i + 1) (by omega) (Nat.le_refl _) (fun k h1 h2 => absurd h1 (by omega))]
      simp only [rest]
      rw [if_pos h32]
    · rw [split_rest s f a (i + 1) (by omega) (by omega) (fun k h1 h2 => ?_)]
      · simp only [rest]
        rw [if_neg h32]
      · by_cases e : k = i
        · rw [e]; exact h32
        · exact hno k h1 (by omega)
theorem split_all (s : ByteArray) : Lib.splitB sep 0 (Lib.countB s sep) s = rest s s.size 0 0 := by
  have e : s.extract 0 s.size = s := by
    apply ext_list
    rw [Lib.extract_data]
    exact List.take_of_length_le (by simp)
  have := split_rest s s.size 0 0 (by omega) (Nat.le_refl _) (fun k _ h => absurd h (Nat.not_lt_zero _))
  rw [e] at this; exact this
end Go.Proofs.YtenlhgnobfadgaaGreatDoor
