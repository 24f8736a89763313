/- The landed Words answers the scan of its text at blanks, given what the library's Split and Clone do: its contract. -/
import Derived.Test.YtfmchkagdaaeeaaGreatDoorWords
namespace Go.Proofs.YtfmchkagdaaeeaaGreatDoor
open Go.RowKit
def CloneAll : Prop := ∀ (x : ByteArray) (w1 : World), x.size ≤ 281474976710656 → Calls Tryz.prog 48 #[.string x] w1 fun e w' => e = .returned (.string x) ∧ Below w1.heap.size w1 w'
def SplitAt (s : ByteArray) (w : World) : Prop := Calls Tryz.prog 36 #[.string s, .string ⟨#[32]⟩] w fun e w' => e = .returned (.slice (some ⟨w.heap.size, 0, none⟩) (rest s s.size 0 0).length (rest s s.size 0 0).length) ∧ w' = w.alloc (.cells ((rest s s.size 0 0).map Value.string).toArray 9)
theorem rest_len (s : ByteArray) : ∀ (f a i : Nat), 0 < (rest s f a i).length ∧ (rest s f a i).length ≤ f + 1
  | 0, a, i => by simp [rest]
  | f + 1, a, i => by
    have h1 := rest_len s f (i + 1) (i + 1)
    have h2 := rest_len s f a (i + 1)
    simp only [rest]
    split
    · simp only [List.length_cons]; omega
    · omega
theorem rest_size (s : ByteArray) : ∀ (f a i : Nat), ∀ x ∈ rest s f a i, x.size ≤ s.size
  | 0, a, i, x, h => by simp [rest] at h; subst h; simp
  | f + 1, a, i, x, h => by
    simp only [rest] at h
    split at h
    · rcases List.mem_cons.1 h with rfl | h
      · simp; omega
      · exact rest_size s f _ _ x h
    · exact rest_size s f _ _ x h
theorem texts_new (w : World) (l : List ByteArray) (hm : l.length ≤ maxLen) : Texts (w.alloc (.cells (l.map Value.string).toArray 9)) w.heap.size l.length l := by
  have := World.ownsRow_lit (base := 0) (e := 9) (size := 1) w (l.map Value.string).toArray l.length (Nat.zero_le _) hm (by simp)
  simpa [Texts] using this
theorem set_same (l : List ByteArray) (i : Nat) (h : i < l.length) : l.set i l[i] = l := by
  apply List.ext_getElem?
  intro j
  by_cases e : j = i
  · subst e; rw [List.getElem?_set_self h, List.getElem?_eq_getElem h]
  · rw [List.getElem?_set_ne (fun h => e h.symm)]
set_option maxRecDepth 100000 in
set_option maxHeartbeats 2000000 in
theorem impl_words (s : ByteArray) (hs : s.size ≤ 1048576) (w : World) (hS : SplitAt s w) (hC : CloneAll) : Calls Tryz.prog 22 #[.string s] w fun e w' => ∃ g, e = .returned (.slice (some ⟨g, 0, none⟩) (rest s s.size 0 0).length (rest s s.size 0 0).length) ∧ w.heap.size ≤ g ∧ Texts w' g (rest s s.size 0 0).length (rest s s.size 0 0) ∧ Below w.heap.size w w' := by
  have hl := rest_len s s.size 0 0
  have hx := rest_size s s.size 0 0
  unfold SplitAt at hS
  generalize rest s s.size 0 0 = R at hS hl hx ⊢
  obtain ⟨n, hn⟩ : ∃ n, n = R.length := ⟨_, rfl⟩
  rw [← hn] at hS hl ⊢
  have HN := hidd hn
  have HX := hidd hx
  have HS := hidd hS
  clear hn hx hS
  obtain ⟨hl0, hl1⟩ := hl
  go_enter Tryz.func22, Tryz.ntmps22
  go_wp2_with fail
  refine HS.out.mono ?_
  rintro e w1 ⟨rfl, rfl⟩
  have hT0 : Texts (w.alloc (.cells (R.map Value.string).toArray 9)) w.heap.size n R := by
    have := texts_new w R (by unfold maxLen; have := HN.out; omega)
    rw [← HN.out] at this; exact this
  have hb0 : Below w.heap.size w (w.alloc (.cells (R.map Value.string).toArray 9)) := (Below.refl _ _).alloc (Nat.le_refl _) _
  generalize w.alloc (.cells (R.map Value.string).toArray 9) = w1 at hT0 hb0 ⊢
  clear HS
  go_wp2_with fail
  go_loopw [10] (fun ti wr => ∃ i : Nat, ti = .int .i64 i ∧ i ≤ n ∧ Texts wr w.heap.size n R ∧ Below w.heap.size w wr) (fun ti _ => n - (intOf ti).toNat)
  case atStart => exact ⟨0, rfl, Nat.zero_le _, hT0, hb0⟩
  case round =>
    obtain ⟨i, rfl, hi, hT, hb⟩ := hrel
    by_cases hlt : i < n
    · have c1 : (i : Int) < (n : Int) := by omega
      have hlt' : i < R.length := by have := HN.out; omega
      have hc := hT.cell i hlt'
      have hxs : (R[i]'hlt').size ≤ 281474976710656 := by have := HX.out (R[i]'hlt') (List.getElem_mem hlt'); omega
      have hst := set_same R i hlt'
      generalize R[i]'hlt' = x at hc hxs hst
      have Hst := hidd hst
      clear hst
      go_wp2_with (go_at_call 37; go_in)
      refine (hC x _ hxs).mono ?_
      rintro e w2 ⟨rfl, hb2⟩
      have hT2 := hT.kept (grown_all hb2 none) (by simp)
      replace hb := hb.trans (hb2.mono hb.size)
      clear hT hb2 hc
      have hc2 := hT2.cell i hlt'
      have hf2 := hT2.frozen i
      go_wp2_with fail
      go_roundw
      case rel =>
        have h3 := hT2.store i x
        rw [Hst.out] at h3
        exact ⟨i + 1, by go_num, by omega, h3.1, hb.grown h3.2 hb.size (fun k hk => by simp at hk; omega)⟩
      case measure => simp [intOf]; omega
    · have c1 : (n : Int) ≤ (i : Int) := by omega
      go_wp2_with fail
      go_ret
      exact ⟨w.heap.size, rfl, Nat.le_refl _, hT, hb⟩
end Go.Proofs.YtfmchkagdaaeeaaGreatDoor
