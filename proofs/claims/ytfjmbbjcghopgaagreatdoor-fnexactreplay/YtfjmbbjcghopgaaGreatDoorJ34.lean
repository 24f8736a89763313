/- Texts of stores, joined: Rb2. -/
import Derived.Test.YtfjmbbjcghopgaaGreatDoorJ29
import Derived.Test.YtfjmbbjcghopgaaGreatDoorJ33
namespace Go.Proofs.YtfjmbbjcghopgaaGreatDoor
open Go.RowKit
set_option linter.unusedVariables false
set_option linter.unusedSimpArgs false
/-- The specification's reader of n changes. -/
def rcS (s : ByteArray) : Nat → Int → Option (List Ch × Int)
  | 0, i => some ([], i)
  | n + 1, i =>
    match rd s i with
    | none => none
    | some (id, nx) =>
      if nx < s.size then
        (if by8 s nx = 1 then (rcS s n ((nx : Int) + 1)).map (fun r => (((id : Int), true, 0, []) :: r.1, r.2))
        else match gso s 200000 ((nx : Int) + 1) with
          | none => none
          | some (k, l, e) => (rcS s n e).map (fun r => (((id : Int), false, k, l) :: r.1, r.2)))
      else none
/-- The landed reader of n changes. -/
def rcI (s : ByteArray) : Nat → Int → Option (List Ch × Int)
  | 0, i => some ([], i)
  | n + 1, i =>
    match rd s i with
    | none => none
    | some (id, nx) =>
      match rd s nx with
      | none => none
      | some (g, q) =>
        if g = 1 then (rcI s n q).map (fun r => (((id : Int), true, 0, []) :: r.1, r.2))
        else match gso s 2000000000 q with
          | none => none
          | some (k, l, e) => (rcI s n e).map (fun r => (((id : Int), false, k, l) :: r.1, r.2))
def gcS (s : ByteArray) : Option (List Ch) :=
  match rd s 0 with
  | none => none
  | some (n, p) => if 100 < n then none else
    match rcS s n p with
    | none => none
    | some (l, _) => if pcT l = s then some l else none
def gcI (s : ByteArray) : Option (List Ch) :=
  match rd s 0 with
  | none => none
  | some (n, p) => if 100 < n then none else
    match rcI s n p with
    | none => none
    | some (l, _) => if pcT l = s then some l else none
def bodyCR (xs : List Ch) : Nat → Nat → List UInt8
  | i, 0 => []
  | i, k + 1 => oneC (xs.getD i (0, false, 0, [])) ++ bodyCR xs (i + 1) k
theorem bodyC_R (xs : List Ch) : ∀ k i, bodyC xs (i + k) = bodyC xs i ++ bodyCR xs i k
  | 0, i => by simp [bodyCR]
  | k + 1, i => by
    rw [show i + (k + 1) = (i + 1) + k by omega, bodyC_R xs k (i + 1)]
    simp [bodyC, bodyCR]
theorem tx_0 : tx 0 = [0] := by rw [tx_list, G_last _ _ (by omega)]; rfl
theorem tx_1 : tx 1 = [1] := by rw [tx_list, G_last _ _ (by omega)]; rfl
theorem cgb_gone {x : Ch} (h : cgb x = true) (hg : x.2.1 = true) : x = (x.1, true, 0, []) := by
  obtain ⟨a, b, c, d⟩ := x
  simp only at hg
  subst hg
  unfold cgb zsh at h
  simp at h
  obtain ⟨_, h1, h2⟩ := h
  subst h1 h2
  rfl
theorem rcS_back {s : ByteArray} {xs : List Ch} (ha : ∀ i (hi : i < xs.length), cgb xs[i] = true) : ∀ (k i p : Nat), i + k = xs.length → At s p (bodyCR xs i k) → rcS s k (p : Int) = some (xs.drop i, ((p + (bodyCR xs i k).length : Nat) : Int))
  | 0, i, p, hk, h => by
    simp [rcS, bodyCR]
    omega
  | k + 1, i, p, hk, h => by
    have hi : i < xs.length := by omega
    have hx := ha i hi
    obtain ⟨⟨m, hm1, hm2⟩, hsh⟩ := cgb_parts hx
    simp only [bodyCR, getC hi] at h ⊢
    unfold oneC at h ⊢
    rw [hm1, Int.toNat_natCast] at h ⊢
    obtain ⟨fl, hfl⟩ : ∃ fl : List UInt8, fl = (if xs[i].2.1 = true then [1] else 0 :: (psT xs[i].2.2.1 xs[i].2.2.2).data.toList) := ⟨_, rfl⟩
    rw [← hfl] at h ⊢
    have h1 := rd_tx m (by omega) h.left.left
    have h2 := h.left.right
    have h3 := h.right
    rw [List.drop_eq_getElem_cons hi]
    simp only [rcS, h1]
    cases hg : xs[i].2.1
    · rw [hg, if_neg (by simp)] at hfl
      subst hfl
      have hz := h2.size
      have hb := h2.byte 0 (by simp)
      have h4 := gso_back (hsh hg) (At.right (l := [0]) h2)
      have e4 : (((p + (tx m).length + [(0 : UInt8)].length : Nat)) : Int) = ((p + (tx m).length : Nat) : Int) + 1 := by simp
      rw [e4] at h4
      have e5 : (psT xs[i].2.2.1 xs[i].2.2.2).data.toList.length = (psT xs[i].2.2.1 xs[i].2.2.2).size := Array.length_toList
      have h5 := rcS_back ha k (i + 1) _ (by omega) h3
      simp only [List.length_cons] at hz
      rw [if_pos (by omega)]
      rw [show p + (tx m).length + 0 = p + (tx m).length by omega] at hb
      rw [hb, if_neg (by simp), h4]
      simp only
      have e6 : p + (tx m).length + [(0 : UInt8)].length + (psT xs[i].2.2.1 xs[i].2.2.2).size = p + (tx m ++ 0 :: (psT xs[i].2.2.1 xs[i].2.2.2).data.toList).length := by
        simp only [List.length_append, List.length_cons, List.length_nil, e5]; omega
      rw [e6, h5]
      simp only [Option.map_some, Option.some.injEq, Prod.mk.injEq, List.length_append, List.cons.injEq, and_true]
      refine ⟨?_, by omega⟩
      rw [← hm1, ← hg]
    · rw [hg, if_pos rfl] at hfl
      subst hfl
      have hz := h2.size
      have hb := h2.byte 0 (by simp)
      have h5 := rcS_back ha k (i + 1) _ (by omega) h3
      simp only [List.length_cons] at hz
      rw [if_pos (by omega)]
      rw [show p + (tx m).length + 0 = p + (tx m).length by omega] at hb
      rw [hb, if_pos (by simp)]
      have e6 : (((p + (tx m ++ [(1 : UInt8)]).length : Nat)) : Int) = ((p + (tx m).length : Nat) : Int) + 1 := by simp; omega
      rw [← e6, h5]
      simp only [Option.map_some, Option.some.injEq, Prod.mk.injEq, List.length_append, List.cons.injEq, and_true]
      refine ⟨?_, by omega⟩
      rw [cgb_gone hx hg, hm1]
theorem rcI_back {s : ByteArray} {xs : List Ch} (ha : ∀ i (hi : i < xs.length), cgb xs[i] = true) : ∀ (k i p : Nat), i + k = xs.length → At s p (bodyCR xs i k) → rcI s k (p : Int) = some (xs.drop i, ((p + (bodyCR xs i k).length : Nat) : Int))
  | 0, i, p, hk, h => by
    simp [rcI, bodyCR]
    omega
  | k + 1, i, p, hk, h => by
    have hi : i < xs.length := by omega
    have hx := ha i hi
    obtain ⟨⟨m, hm1, hm2⟩, hsh⟩ := cgb_parts hx
    simp only [bodyCR, getC hi] at h ⊢
    unfold oneC at h ⊢
    rw [hm1, Int.toNat_natCast] at h ⊢
    obtain ⟨fl, hfl⟩ : ∃ fl : List UInt8, fl = (if xs[i].2.1 = true then [1] else 0 :: (psT xs[i].2.2.1 xs[i].2.2.2).data.toList) := ⟨_, rfl⟩
    rw [← hfl] at h ⊢
    have h1 := rd_tx m (by omega) h.left.left
    have h2 := h.left.right
    have h3 := h.right
    rw [List.drop_eq_getElem_cons hi]
    simp only [rcI, h1]
    cases hg : xs[i].2.1
    · rw [hg, if_neg (by simp)] at hfl
      subst hfl
      have hf := rd_tx 0 (by omega) (by rw [tx_0]; exact At.left (l := [0]) h2)
      have h4 := gso_back (hsh hg) (At.right (l := [0]) h2)
      have e5 : (psT xs[i].2.2.1 xs[i].2.2.2).data.toList.length = (psT xs[i].2.2.1 xs[i].2.2.2).size := Array.length_toList
      have h5 := rcI_back ha k (i + 1) _ (by omega) h3
      rw [tx_0] at hf
      rw [hf]
      simp only
      rw [if_neg (by omega), gso_same s 2000000000 (by omega), h4]
      simp only
      have e6 : p + (tx m).length + [(0 : UInt8)].length + (psT xs[i].2.2.1 xs[i].2.2.2).size = p + (tx m ++ 0 :: (psT xs[i].2.2.1 xs[i].2.2.2).data.toList).length := by
        simp only [List.length_append, List.length_cons, List.length_nil, e5]; omega
      rw [e6, h5]
      simp only [Option.map_some, Option.some.injEq, Prod.mk.injEq, List.length_append, List.cons.injEq, and_true]
      refine ⟨?_, by omega⟩
      rw [← hm1, ← hg]
    · rw [hg, if_pos rfl] at hfl
      subst hfl
      have hf := rd_tx 1 (by omega) (by rw [tx_1]; exact h2)
      have h5 := rcI_back ha k (i + 1) _ (by omega) h3
      rw [tx_1] at hf
      rw [hf]
      simp only
      rw [if_pos trivial]
      have e6 : p + (tx m ++ [(1 : UInt8)]).length = p + (tx m).length + [(1 : UInt8)].length := by simp only [List.length_append]; omega
      rw [← e6, h5]
      simp only [Option.map_some, Option.some.injEq, Prod.mk.injEq, List.length_append, List.cons.injEq, and_true]
      refine ⟨?_, by omega⟩
      rw [cgb_gone hx hg, hm1]
/-- Both readers give right changes back. -/
theorem gc_back {s : ByteArray} {xs : List Ch} (h : pcT xs = s) (h0 : 0 < s.size) : gcS s = some xs ∧ gcI s = some xs := by
  have hp : pcb xs = true := by
    cases hp : pcb xs
    · unfold pcT at h; rw [hp, if_neg (by simp)] at h; subst h; exact absurd h0 (by decide)
    · rfl
  have hd : s.data.toList = tx xs.length ++ bodyCR xs 0 xs.length := by
    rw [← h]
    unfold pcT
    rw [if_pos hp]
    have := bodyC_R xs xs.length 0
    simp only [Nat.zero_add, bodyC] at this
    simp [this]
  unfold pcb at hp
  rw [Bool.and_eq_true, decide_eq_true_eq] at hp
  have hw := At.whole s
  rw [hd] at hw
  have h1 := rd_tx xs.length (by omega) hw.left
  have h2 := rcS_back (cgs_all hp.1) xs.length 0 _ (by omega) hw.right
  have h3 := rcI_back (cgs_all hp.1) xs.length 0 _ (by omega) hw.right
  have h1' : rd s 0 = some (xs.length, 0 + (tx xs.length).length) := h1
  unfold gcS gcI
  rw [h1']
  simp only
  rw [if_neg (by omega), if_neg (by omega), h2, h3]
  simp only [List.drop_zero]
  rw [if_pos h]
  exact ⟨rfl, rfl⟩
theorem gcS_of {s : ByteArray} {xs : List Ch} (h : gcS s = some xs) : pcT xs = s ∧ 0 < s.size := by
  unfold gcS at h
  split at h
  · cases h
  · rename_i n p h1
    split at h
    · cases h
    · split at h
      · cases h
      · split at h
        · rename_i l q h2 hq
          simp only [Option.some.injEq] at h
          subst h
          refine ⟨hq, ?_⟩
          by_cases hz : s.size = 0
          · rw [rd_out s 0 (by omega)] at h1; cases h1
          · omega
        · cases h
theorem gcI_of {s : ByteArray} {xs : List Ch} (h : gcI s = some xs) : pcT xs = s ∧ 0 < s.size := by
  unfold gcI at h
  split at h
  · cases h
  · rename_i n p h1
    split at h
    · cases h
    · split at h
      · cases h
      · split at h
        · rename_i l q h2 hq
          simp only [Option.some.injEq] at h
          subst h
          refine ⟨hq, ?_⟩
          by_cases hz : s.size = 0
          · rw [rd_out s 0 (by omega)] at h1; cases h1
          · omega
        · cases h
theorem gc_same (s : ByteArray) : gcI s = gcS s := by
  cases h : gcS s with
  | some xs => exact (gc_back (gcS_of h).1 (gcS_of h).2).2
  | none =>
    cases h2 : gcI s with
    | none => rfl
    | some xs => rw [(gc_back (gcI_of h2).1 (gcI_of h2).2).1] at h; cases h
end Go.Proofs.YtfjmbbjcghopgaaGreatDoor
