/- Texts of stores, joined: Rb2, Gn. -/
import Derived.Test.YtdaheepfmnjadaaGreatDoorJ33
import Derived.Test.YtdaheepfmnjadaaGreatDoorJ37
import Derived.Test.YtdaheepfmnjadaaGreatDoorJ22
import Derived.Deep.AppendLies
namespace Go.Proofs.YtdaheepfmnjadaaGreatDoor
open Go.RowKit
set_option linter.unusedVariables false
set_option linter.unusedSimpArgs false
/-- The specification's reader of n changes. -/
def rcS (s : ByteArray) : Nat → Int → Option (List Ch × Int)
  | 0, i => some ([], i)
  | n + 1, i =>
    match rd s i with
    | none => none
    | some (id, nx) =>
      if nx < s.size then
        (if by8 s nx = 1 then (rcS s n ((nx : Int) + 1)).map (fun r => (((id : Int), true, 0, []) :: r.1, r.2))
        else match gso s 200000 ((nx : Int) + 1) with
          | none => none
          | some (k, l, e) => (rcS s n e).map (fun r => (((id : Int), false, k, l) :: r.1, r.2)))
      else none
/-- The landed reader of n changes. -/
def rcI (s : ByteArray) : Nat → Int → Option (List Ch × Int)
  | 0, i => some ([], i)
  | n + 1, i =>
    match rd s i with
    | none => none
    | some (id, nx) =>
      match rd s nx with
      | none => none
      | some (g, q) =>
        if g = 1 then (rcI s n q).map (fun r => (((id : Int), true, 0, []) :: r.1, r.2))
        else match gso s 2000000000 q with
          | none => none
          | some (k, l, e) => (rcI s n e).map (fun r => (((id : Int), false, k, l) :: r.1, r.2))
def gcS (s : ByteArray) : Option (List Ch) :=
  match rd s 0 with
  | none => none
  | some (n, p) => if 100 < n then none else
    match rcS s n p with
    | none => none
    | some (l, _) => if pcT l = s then some l else none
def gcI (s : ByteArray) : Option (List Ch) :=
  match rd s 0 with
  | none => none
  | some (n, p) => if 100 < n then none else
    match rcI s n p with
    | none => none
    | some (l, _) => if pcT l = s then some l else none
def bodyCR (xs : List Ch) : Nat → Nat → List UInt8
  | i, 0 => []
  | i, k + 1 => oneC (xs.getD i (0, false, 0, [])) ++ bodyCR xs (i + 1) k
theorem bodyC_R (xs : List Ch) : ∀ k i, bodyC xs (i + k) = bodyC xs i ++ bodyCR xs i k
  | 0, i => by simp [bodyCR]
  | k + 1, i => by
    rw [show i + (k + 1) = (i + 1) + k by omega, bodyC_R xs k (i + 1)]
    simp [bodyC, bodyCR]
theorem tx_0 : tx 0 = [0] := by rw [tx_list, G_last _ _ (by omega)]; rfl
theorem tx_1 : tx 1 = [1] := by rw [tx_list, G_last _ _ (by omega)]; rfl
theorem cgb_gone {x : Ch} (h : cgb x = true) (hg : x.2.1 = true) : x = (x.1, true, 0, []) := by
  obtain ⟨a, b, c, d⟩ := x
  simp only at hg
  subst hg
  unfold cgb zsh at h
  simp at h
  obtain ⟨_, h1, h2⟩ := h
  subst h1 h2
  rfl
theorem rcS_back {s : ByteArray} {xs : List Ch} (ha : ∀ i (hi : i < xs.length), cgb xs[i] = true) : ∀ (k i p : Nat), i + k = xs.length → At s p (bodyCR xs i k) → rcS s k (p : Int) = some (xs.drop i, ((p + (bodyCR xs i k).length : Nat) : Int))
  | 0, i, p, hk, h => by
    simp [rcS, bodyCR]
    omega
  | k + 1, i, p, hk, h => by
    have hi : i < xs.length := by omega
    have hx := ha i hi
    obtain ⟨⟨m, hm1, hm2⟩, hsh⟩ := cgb_parts hx
    simp only [bodyCR, getC hi] at h ⊢
    unfold oneC at h ⊢
    rw [hm1, Int.toNat_natCast] at h ⊢
    obtain ⟨fl, hfl⟩ : ∃ fl : List UInt8, fl = (if xs[i].2.1 = true then [1] else 0 :: (psT xs[i].2.2.1 xs[i].2.2.2).data.toList) := ⟨_, rfl⟩
    rw [← hfl] at h ⊢
    have h1 := rd_tx m (by omega) h.left.left
    have h2 := h.left.right
    have h3 := h.right
    rw [List.drop_eq_getElem_cons hi]
    simp only [rcS, h1]
    cases hg : xs[i].2.1
    · rw [hg, if_neg (by simp)] at hfl
      subst hfl
      have hz := h2.size
      have hb := h2.byte 0 (by simp)
      have h4 := gso_back (hsh hg) (At.right (l := [0]) h2)
      have e4 : (((p + (tx m).length + [(0 : UInt8)].length : Nat)) : Int) = ((p + (tx m).length : Nat) : Int) + 1 := by simp
      rw [e4] at h4
      have e5 : (psT xs[i].2.2.1 xs[i].2.2.2).data.toList.length = (psT xs[i].2.2.1 xs[i].2.2.2).size := Array.length_toList
      have h5 := rcS_back ha k (i + 1) _ (by omega) h3
      simp only [List.length_cons] at hz
      rw [if_pos (by omega)]
      rw [show p + (tx m).length + 0 = p + (tx m).length by omega] at hb
      rw [hb, if_neg (by simp), h4]
      simp only
      have e6 : p + (tx m).length + [(0 : UInt8)].length + (psT xs[i].2.2.1 xs[i].2.2.2).size = p + (tx m ++ 0 :: (psT xs[i].2.2.1 xs[i].2.2.2).data.toList).length := by
        simp only [List.length_append, List.length_cons, List.length_nil, e5]; omega
      rw [e6, h5]
      simp only [Option.map_some, Option.some.injEq, Prod.mk.injEq, List.length_append, List.cons.injEq, and_true]
      refine ⟨?_, by omega⟩
      rw [← hm1, ← hg]
    · rw [hg, if_pos rfl] at hfl
      subst hfl
      have hz := h2.size
      have hb := h2.byte 0 (by simp)
      have h5 := rcS_back ha k (i + 1) _ (by omega) h3
      simp only [List.length_cons] at hz
      rw [if_pos (by omega)]
      rw [show p + (tx m).length + 0 = p + (tx m).length by omega] at hb
      rw [hb, if_pos (by simp)]
      have e6 : (((p + (tx m ++ [(1 : UInt8)]).length : Nat)) : Int) = ((p + (tx m).length : Nat) : Int) + 1 := by simp; omega
      rw [← e6, h5]
      simp only [Option.map_some, Option.some.injEq, Prod.mk.injEq, List.length_append, List.cons.injEq, and_true]
      refine ⟨?_, by omega⟩
      rw [cgb_gone hx hg, hm1]
theorem rcI_back {s : ByteArray} {xs : List Ch} (ha : ∀ i (hi : i < xs.length), cgb xs[i] = true) : ∀ (k i p : Nat), i + k = xs.length → At s p (bodyCR xs i k) → rcI s k (p : Int) = some (xs.drop i, ((p + (bodyCR xs i k).length : Nat) : Int))
  | 0, i, p, hk, h => by
    simp [rcI, bodyCR]
    omega
  | k + 1, i, p, hk, h => by
    have hi : i < xs.length := by omega
    have hx := ha i hi
    obtain ⟨⟨m, hm1, hm2⟩, hsh⟩ := cgb_parts hx
    simp only [bodyCR, getC hi] at h ⊢
    unfold oneC at h ⊢
    rw [hm1, Int.toNat_natCast] at h ⊢
    obtain ⟨fl, hfl⟩ : ∃ fl : List UInt8, fl = (if xs[i].2.1 = true then [1] else 0 :: (psT xs[i].2.2.1 xs[i].2.2.2).data.toList) := ⟨_, rfl⟩
    rw [← hfl] at h ⊢
    have h1 := rd_tx m (by omega) h.left.left
    have h2 := h.left.right
    have h3 := h.right
    rw [List.drop_eq_getElem_cons hi]
    simp only [rcI, h1]
    cases hg : xs[i].2.1
    · rw [hg, if_neg (by simp)] at hfl
      subst hfl
      have hf := rd_tx 0 (by omega) (by rw [tx_0]; exact At.left (l := [0]) h2)
      have h4 := gso_back (hsh hg) (At.right (l := [0]) h2)
      have e5 : (psT xs[i].2.2.1 xs[i].2.2.2).data.toList.length = (psT xs[i].2.2.1 xs[i].2.2.2).size := Array.length_toList
      have h5 := rcI_back ha k (i + 1) _ (by omega) h3
      rw [tx_0] at hf
      rw [hf]
      simp only
      rw [if_neg (by omega), gso_same s 2000000000 (by omega), h4]
      simp only
      have e6 : p + (tx m).length + [(0 : UInt8)].length + (psT xs[i].2.2.1 xs[i].2.2.2).size = p + (tx m ++ 0 :: (psT xs[i].2.2.1 xs[i].2.2.2).data.toList).length := by
        simp only [List.length_append, List.length_cons, List.length_nil, e5]; omega
      rw [e6, h5]
      simp only [Option.map_some, Option.some.injEq, Prod.mk.injEq, List.length_append, List.cons.injEq, and_true]
      refine ⟨?_, by omega⟩
      rw [← hm1, ← hg]
    · rw [hg, if_pos rfl] at hfl
      subst hfl
      have hf := rd_tx 1 (by omega) (by rw [tx_1]; exact h2)
      have h5 := rcI_back ha k (i + 1) _ (by omega) h3
      rw [tx_1] at hf
      rw [hf]
      simp only
      rw [if_pos trivial]
      have e6 : p + (tx m ++ [(1 : UInt8)]).length = p + (tx m).length + [(1 : UInt8)].length := by simp only [List.length_append]; omega
      rw [← e6, h5]
      simp only [Option.map_some, Option.some.injEq, Prod.mk.injEq, List.length_append, List.cons.injEq, and_true]
      refine ⟨?_, by omega⟩
      rw [cgb_gone hx hg, hm1]
/-- Both readers give right changes back. -/
theorem gc_back {s : ByteArray} {xs : List Ch} (h : pcT xs = s) (h0 : 0 < s.size) : gcS s = some xs ∧ gcI s = some xs := by
  have hp : pcb xs = true := by
    cases hp : pcb xs
    · unfold pcT at h; rw [hp, if_neg (by simp)] at h; subst h; exact absurd h0 (by decide)
    · rfl
  have hd : s.data.toList = tx xs.length ++ bodyCR xs 0 xs.length := by
    rw [← h]
    unfold pcT
    rw [if_pos hp]
    have := bodyC_R xs xs.length 0
    simp only [Nat.zero_add, bodyC] at this
    simp [this]
  unfold pcb at hp
  rw [Bool.and_eq_true, decide_eq_true_eq] at hp
  have hw := At.whole s
  rw [hd] at hw
  have h1 := rd_tx xs.length (by omega) hw.left
  have h2 := rcS_back (cgs_all hp.1) xs.length 0 _ (by omega) hw.right
  have h3 := rcI_back (cgs_all hp.1) xs.length 0 _ (by omega) hw.right
  have h1' : rd s 0 = some (xs.length, 0 + (tx xs.length).length) := h1
  unfold gcS gcI
  rw [h1']
  simp only
  rw [if_neg (by omega), if_neg (by omega), h2, h3]
  simp only [List.drop_zero]
  rw [if_pos h]
  exact ⟨rfl, rfl⟩
theorem gcS_of {s : ByteArray} {xs : List Ch} (h : gcS s = some xs) : pcT xs = s ∧ 0 < s.size := by
  unfold gcS at h
  split at h
  · cases h
  · rename_i n p h1
    split at h
    · cases h
    · split at h
      · cases h
      · split at h
        · rename_i l q h2 hq
          simp only [Option.some.injEq] at h
          subst h
          refine ⟨hq, ?_⟩
          by_cases hz : s.size = 0
          · rw [rd_out s 0 (by omega)] at h1; cases h1
          · omega
        · cases h
theorem gcI_of {s : ByteArray} {xs : List Ch} (h : gcI s = some xs) : pcT xs = s ∧ 0 < s.size := by
  unfold gcI at h
  split at h
  · cases h
  · rename_i n p h1
    split at h
    · cases h
    · split at h
      · cases h
      · split at h
        · rename_i l q h2 hq
          simp only [Option.some.injEq] at h
          subst h
          refine ⟨hq, ?_⟩
          by_cases hz : s.size = 0
          · rw [rd_out s 0 (by omega)] at h1; cases h1
          · omega
        · cases h
theorem gc_same (s : ByteArray) : gcI s = gcS s := by
  cases h : gcS s with
  | some xs => exact (gc_back (gcS_of h).1 (gcS_of h).2).2
  | none =>
    cases h2 : gcI s with
    | none => rfl
    | some xs => rw [(gc_back (gcI_of h2).1 (gcI_of h2).2).1] at h; cases h
end Go.Proofs.YtdaheepfmnjadaaGreatDoor
namespace Go.Proofs.YtdaheepfmnjadaaGreatDoor
open Go.RowKit
set_option linter.unusedSimpArgs false
set_option linter.unusedVariables false
theorem rdl_end (s : ByteArray) (m : Nat) : ∀ (n : Nat) (i x y : Int) (l : List (Int × Int)) (e : Int), 0 ≤ i → i ≤ (s.size : Int) → rdl s m n i x y = some (l, e) → 0 ≤ e ∧ e ≤ (s.size : Int)
  | 0, i, x, y, l, e, h0, h1, h => by
    simp only [rdl, Option.some.injEq, Prod.mk.injEq] at h
    obtain ⟨_, rfl⟩ := h
    exact ⟨h0, h1⟩
  | n + 1, i, x, y, l, e, h0, h1, h => by
    simp only [rdl] at h
    split at h
    · cases h
    · split at h
      · cases h
      · rename_i dy fin h3
        have := rd_small s _ _ _ h3
        split at h
        · cases h
        · split at h
          · cases h
          · rename_i l2 e2 h4
            simp only [Option.some.injEq, Prod.mk.injEq] at h
            obtain ⟨_, rfl⟩ := h
            exact rdl_end s m n _ _ _ _ _ (by omega) (by omega) h4
/-- Where a shape ends, and that it has points. -/
theorem gso_facts {s : ByteArray} {m : Nat} {i : Int} {k e : Int} {l : List (Int × Int)} (h : gso s m i = some (k, l, e)) : (∃ q : Nat, e = (q : Int) ∧ q ≤ s.size) ∧ 0 < l.length ∧ l.length ≤ 60 := by
  unfold gso at h
  split at h
  · split at h
    · cases h
    · rename_i n p h1
      have hp := rd_small s _ _ _ h1
      split at h
      · cases h
      · unfold gsh at h
        cases hr : rdl s m n p 0 0 with
        | none => rw [hr] at h; simp at h
        | some r =>
          obtain ⟨l', e'⟩ := r
          rw [hr] at h
          simp only at h
          split at h
          · rename_i hk
            simp only [Option.map_some, Option.some.injEq, Prod.mk.injEq] at h
            obtain ⟨_, rfl, rfl⟩ := h
            have h2 := rdl_end s m n _ _ _ _ _ (by omega) (by omega) hr
            have h3 := rdl_len s m n _ _ _ _ _ hr
            refine ⟨⟨e'.toNat, by omega, by omega⟩, shok_posg hk, by omega⟩
          · simp at h
  · cases h
/-- What GetChanges answers. -/
def GCA (w : World) (o : Option (List Ch)) (e : Ending) (w' : World) : Prop :=
  ∃ a cap, e = .returned (.tuple #[.slice a (o.getD []).length cap, .bool o.isSome]) ∧ LC KN w.heap.size w'.heap.size w' (.slice a (o.getD []).length cap) (o.getD []) ∧ Below w.heap.size w w'
theorem lx_none (w w1 : World) (hb : w.heap.size ≤ w1.heap.size) : LX KN 63 w.heap.size (w1.alloc (.cells #[] 63)).heap.size (w1.alloc (.cells #[] 63)) (.slice (some ⟨w1.heap.size, 0, none⟩) 0 0) [] [] := by
  have := World.ownsRow_made (base := w1.heap.size) (e := 63) (size := 4) w1 #[] 0 (Nat.le_refl _) (by unfold maxLen; omega) rfl
  exact (LX.nil (hi := (w1.alloc (.cells #[] 63)).heap.size) this (fun g e => by simp [Value.ownBlock] at e; subst e; simp) (Nat.le_refl _)).mono hb (Nat.le_refl _) (Nat.le_refl _)
theorem gca_no {w w1 : World} {o : Option (List Ch)} (h : o = none) (hb : Below w.heap.size w w1) : GCA w o (.returned (.tuple #[.slice (some ⟨w1.heap.size, 0, none⟩) 0 0, .bool false])) (w1.alloc (.cells #[] 63)) := by
  subst h
  exact ⟨_, _, rfl, (lx_none w w1 hb.size).lc, balloc hb _⟩
theorem gca_yes {w w1 : World} {o : Option (List Ch)} {a : Option Addr} {cap hi : Nat} {cs : List Ch} (h : o = some cs) (hl : LC KN w.heap.size hi w1 (.slice a cs.length cap) cs) (hh : hi = w1.heap.size) (hb : Below w.heap.size w w1) : GCA w o (.returned (.tuple #[.slice a cs.length cap, .bool true])) w1 := by
  subst h hh
  exact ⟨_, _, rfl, hl, hb⟩
theorem gcS_1 {s : ByteArray} (h : rd s 0 = none) : gcS s = none := by unfold gcS; rw [h]
theorem gcS_2 {s : ByteArray} {n p : Nat} (h : rd s 0 = some (n, p)) (hn : 100 < n) : gcS s = none := by unfold gcS; rw [h]; simp only; rw [if_pos hn]
theorem gcS_3 {s : ByteArray} {n p : Nat} (h : rd s 0 = some (n, p)) (hn : n ≤ 100) (hr : rcS s n p = none) : gcS s = none := by unfold gcS; rw [h]; simp only; rw [if_neg (by omega), hr]
theorem gcS_4 {s : ByteArray} {n p : Nat} {l : List Ch} {e : Int} (h : rd s 0 = some (n, p)) (hn : n ≤ 100) (hr : rcS s n p = some (l, e)) : gcS s = if pcT l = s then some l else none := by unfold gcS; rw [h]; simp only; rw [if_neg (by omega), hr]
theorem gcI_1 {s : ByteArray} (h : rd s 0 = none) : gcI s = none := by unfold gcI; rw [h]
theorem gcI_2 {s : ByteArray} {n p : Nat} (h : rd s 0 = some (n, p)) (hn : 100 < n) : gcI s = none := by unfold gcI; rw [h]; simp only; rw [if_pos hn]
theorem gcI_3 {s : ByteArray} {n p : Nat} (h : rd s 0 = some (n, p)) (hn : n ≤ 100) (hr : rcI s n p = none) : gcI s = none := by unfold gcI; rw [h]; simp only; rw [if_neg (by omega), hr]
theorem gcI_4 {s : ByteArray} {n p : Nat} {l : List Ch} {e : Int} (h : rd s 0 = some (n, p)) (hn : n ≤ 100) (hr : rcI s n p = some (l, e)) : gcI s = if pcT l = s then some l else none := by unfold gcI; rw [h]; simp only; rw [if_neg (by omega), hr]
/-- What is read of n changes behind i of them. -/
def RS (s : ByteArray) (n : Nat) (p : Int) (i : Nat) (q : Int) (cs : List Ch) : Prop := rcS s n p = (rcS s (n - i) q).map (fun r => (cs ++ r.1, r.2))
theorem RS.zero (s : ByteArray) (n : Nat) (p : Int) : RS s n p 0 p [] := by
  unfold RS
  rw [Nat.sub_zero]
  cases rcS s n p <;> simp
theorem RS.done {s : ByteArray} {n : Nat} {p q : Int} {cs : List Ch} (h : RS s n p n q cs) : rcS s n p = some (cs, q) := by
  unfold RS at h
  rw [Nat.sub_self] at h
  simpa [rcS] using h
theorem RS.no1 {s : ByteArray} {n : Nat} {p q : Int} {i : Nat} {cs : List Ch} (h : RS s n p i q cs) (hi : i < n) (h1 : rd s q = none) : rcS s n p = none := by
  unfold RS at h
  rw [h, show n - i = (n - (i + 1)) + 1 by omega]
  simp [rcS, h1]
theorem RS.no2 {s : ByteArray} {n : Nat} {p q : Int} {i id nx : Nat} {cs : List Ch} (h : RS s n p i q cs) (hi : i < n) (h1 : rd s q = some (id, nx)) (h2 : ¬ nx < s.size) : rcS s n p = none := by
  unfold RS at h
  rw [h, show n - i = (n - (i + 1)) + 1 by omega]
  simp [rcS, h1, h2]
theorem RS.no3 {s : ByteArray} {n : Nat} {p q : Int} {i id nx : Nat} {cs : List Ch} (h : RS s n p i q cs) (hi : i < n) (h1 : rd s q = some (id, nx)) (h2 : nx < s.size) (h3 : by8 s nx ≠ 1) (h4 : gso s 200000 ((nx : Int) + 1) = none) : rcS s n p = none := by
  unfold RS at h
  rw [h, show n - i = (n - (i + 1)) + 1 by omega]
  simp [rcS, h1, h2, h3, h4]
theorem RS.gone {s : ByteArray} {n : Nat} {p q : Int} {i id nx : Nat} {cs : List Ch} (h : RS s n p i q cs) (hi : i < n) (h1 : rd s q = some (id, nx)) (h2 : nx < s.size) (h3 : by8 s nx = 1) : RS s n p (i + 1) ((nx : Int) + 1) (cs ++ [((id : Int), true, 0, [])]) := by
  unfold RS at h ⊢
  rw [h, show n - i = (n - (i + 1)) + 1 by omega]
  simp only [rcS, h1, h2, h3, if_true]
  cases rcS s (n - (i + 1)) ((nx : Int) + 1) <;> simp
theorem RS.there {s : ByteArray} {n : Nat} {p q : Int} {i id nx : Nat} {cs : List Ch} {k e : Int} {l : List (Int × Int)} (h : RS s n p i q cs) (hi : i < n) (h1 : rd s q = some (id, nx)) (h2 : nx < s.size) (h3 : by8 s nx ≠ 1) (h4 : gso s 200000 ((nx : Int) + 1) = some (k, l, e)) : RS s n p (i + 1) e (cs ++ [((id : Int), false, k, l)]) := by
  unfold RS at h ⊢
  rw [h, show n - i = (n - (i + 1)) + 1 by omega]
  simp only [rcS, h1, h2, h4, if_true, if_neg h3]
  cases rcS s (n - (i + 1)) e <;> simp
theorem LX.grows {α : Type} {K : Kd α} {t : TypeId} {base hi : Nat} {w w' : World} {v : Value} {xs : List α} {ps : List (α × Value)} (h : LX K t base hi w v xs ps) (hb : Below w.heap.size w w') : LX K t base w'.heap.size w' v xs ps := (h.below hb).mono (Nat.le_refl _) (Nat.le_trans h.2.2.2.1 hb.size) (Nat.le_refl _)
theorem bgrow {w a b : World} {r : Option Nat} (h : Below w.heap.size w a) (hg : a.grownBy b r) (hp : ∀ c, r = some c → w.heap.size ≤ c) : Below w.heap.size w b := h.grown hg h.size hp
theorem cell4n {w : World} {p : Nat} {a b c d : Value} {t : TypeId} (h : w.heap[p]? = some (.cells #[a, b, c, d] t (0, 0))) : (w.cell? ⟨p, 0, none⟩ = some a ∧ w.cell? ⟨p, 1, none⟩ = some b ∧ w.cell? ⟨p, 2, none⟩ = some c ∧ w.cell? ⟨p, 3, none⟩ = some d) ∧ w.frozen? ⟨p, 0, none⟩ = false ∧ w.frozen? ⟨p, 1, none⟩ = false ∧ w.frozen? ⟨p, 2, none⟩ = false ∧ w.frozen? ⟨p, 3, none⟩ = false := by
  refine ⟨⟨?_, ?_, ?_, ?_⟩, ?_, ?_, ?_, ?_⟩ <;> simp [World.cell?, World.frozen?, h]
theorem set4_23 {w : World} {p : Nat} {o0 o1 o2 o3 : Value} {t : TypeId} (h : w.heap[p]? = some (.cells #[o0, o1, o2, o3] t (0, 0))) (c d : Value) : ((w.setCell ⟨p, 2, none⟩ c).setCell ⟨p, 3, none⟩ d).heap[p]? = some (.cells #[o0, o1, c, d] t (0, 0)) := by
  have st : ∀ (W : World) (cs : Array Value) (k : Nat) (u : Value), W.heap[p]? = some (.cells cs t (0, 0)) → (W.setCell ⟨p, k, none⟩ u).heap[p]? = some (.cells (cs.setIfInBounds k u) t (0, 0)) := by
    intro W cs k u h
    have hlt := lt_of_block h
    have h' : W.heap[p] = .cells cs t (0, 0) := by simpa [Array.getElem?_eq_getElem hlt] using h
    show (W.heap.modify p _)[p]? = _
    rw [Array.getElem?_eq_getElem (by simpa using hlt), Array.getElem_modify_self, h']
    rfl
  have e4 := st _ _ 3 d (st _ _ 2 c h)
  simpa using e4
theorem own_in {w : World} {a : Option Addr} {ps : List (Int × Int)} (h : OwnP w a ps) (h0 : 0 < ps.length) : ∃ b, a = some ⟨b, 0, none⟩ ∧ PtsOwn w b ps := by
  rcases h with ⟨_, rfl⟩ | ⟨b, rfl, h⟩
  · simp at h0
  · exact ⟨b, rfl, h⟩
set_option maxRecDepth 100000 in
set_option maxHeartbeats 8000000 in
theorem spec_GetChanges (s : ByteArray) (hs : s.size ≤ 1048576) (w : World) : Calls Tryz.prog 12 #[.string s] w fun e w' => GCA w (gcS s) e w' := by
  have hmx : s.size ≤ maxLen := by unfold maxLen; omega
  have hs' : (s.size : Int) ≤ 1048576 := by omega
  have M0 := hid (fun w => spec_rd s 0 hmx (by omega) (by omega) w)
  cases h0 : rd s 0 with
  | none =>
    rw [h0] at M0
    have HO := hid (gcS_1 h0)
    clear h0
    go_enter Tryz.func12, Tryz.ntmps12
    go_wp2_with fail
    refine (M0.out _).mono ?_
    rintro e y1 ⟨rfl, hB⟩
    simp only [gnN, gnK]
    go_wp2_with fail
    go_ret2
    exact gca_no HO.out hB
  | some r =>
    obtain ⟨n, p⟩ := r
    rw [h0] at M0
    have hsm := rd_small s 0 n p h0
    by_cases hgr : 100 < n
    · have HO := hid (gcS_2 h0 hgr)
      have c1 : (100 : Int) < (n : Int) := by omega
      clear h0
      go_enter Tryz.func12, Tryz.ntmps12
      go_wp2_with fail
      refine (M0.out _).mono ?_
      rintro e y1 ⟨rfl, hB⟩
      simp only [gnN, gnK]
      go_wp2_with fail
      go_ret2
      exact gca_no HO.out hB
    have hn : n ≤ 100 := by omega
    have c1 : (n : Int) ≤ 100 := by omega
    have HN := hid (fun hr => gcS_3 h0 hn hr)
    have HY := hid (fun l e hr => gcS_4 (l := l) (e := e) h0 hn hr)
    clear h0 hgr
    obtain ⟨i0, hi0, hz0, hz1, hz2⟩ := info_parts Tryz.infoCh
    generalize gcS s = og at *
    go_enter Tryz.func12, Tryz.ntmps12
    go_wp2_with fail
    refine (M0.out _).mono ?_
    rintro e y1 ⟨rfl, hB⟩
    simp only [gnN, gnK]
    clear M0
    have HI := hid (lx_none w y1 hB.size)
    have HB0 := hid (balloc hB (.cells #[] 63))
    clear hB
    go_wp2_with fail
    generalize y1.alloc (.cells #[] 63) = W0 at *
    go_loopw [5, 6, 7] (fun tq tv ti wr => ∃ (i q : Nat) (cs : List Ch) (us : List (Ch × Value)), ti = .int .i64 i ∧ tq = .int .i64 q ∧ i ≤ n ∧ q ≤ s.size ∧ Hid (cs.length = i) ∧ Hid (RS s n p i q cs) ∧ Hid (LX KN 63 w.heap.size wr.heap.size wr tv cs us) ∧ Hid (Below w.heap.size w wr)) (fun _ _ ti _ => n - (intOf ti).toNat)
    case atStart => exact ⟨0, p, [], [], rfl, rfl, Nat.zero_le _, hsm.2, hid rfl, hid (RS.zero s n p), HI, HB0⟩
    case round =>
      clear HI HB0
      obtain ⟨i, q, cs, us, rfl, rfl, hi, hq, HLc, HRS, HV, HB⟩ := hrel
      have hci : cs.length ≤ 100 := by have := HLc.out; omega
      obtain ⟨av, cv, ev, hlv, hvr⟩ := HV.out.lc.form
      have HVR := hid hvr
      clear hvr
      subst ev
      have hwX := HB.out.size
      by_cases hlt : i < n
      · have c2 : (i : Int) < (n : Int) := by omega
        have M1 := hid (fun w => spec_rd s (q : Int) hmx (by omega) (by omega) w)
        cases h1 : rd s (q : Int) with
        | none =>
          rw [h1] at M1
          have HO := hid (HN.out (HRS.out.no1 hlt h1))
          clear h1 HRS HV HY HN
          go_wp2_with fail
          refine (M1.out _).mono ?_
          rintro e y2 ⟨rfl, hB2⟩
          simp only [gnN, gnK]
          go_wp2_with fail
          go_ret2
          exact gca_no HO.out (btrans HB.out hB2)
        | some r =>
          obtain ⟨id, nx⟩ := r
          rw [h1] at M1
          have hsn := rd_small s _ id nx h1
          by_cases hnx : nx < s.size
          · have c3 : (nx : Int) < (s.size : Int) := by omega
            have e8 := by8_at s nx hnx
            by_cases h8 : by8 s nx = 1
            · have HRN : Hid (RS s n p (i + 1) ((nx + 1 : Nat) : Int) (cs ++ [((id : Int), true, 0, [])])) := hid (HRS.out.gone hlt h1 hnx h8)
              clear h1 HRS HY HN
              go_wp2_with fail
              refine (M1.out _).mono ?_
              rintro e y2 ⟨rfl, hB2⟩
              simp only [gnN, gnK]
              have hw2 := hB2.size
              have hal : Below y2.heap.size y2 (y2.alloc (.cells #[.int .i64 id, .bool true, .int .i64 0, .slice none 0 0] 63)) := balloc (Below.refl _ _) _
              have gQ := new_alloc y2 y2.heap.size (.cells #[.int .i64 id, .bool true, .int .i64 0, .slice none 0 0] 63) rfl
              have HV4 := hid ((HV.out.below hB2).below hal)
              have HB4 := hid (btrans (btrans HB.out hB2) hal)
              have HS4 : Hid (KN.sub (y2.alloc (.cells #[.int .i64 id, .bool true, .int .i64 0, .slice none 0 0] 63)).heap.size (y2.alloc (.cells #[.int .i64 id, .bool true, .int .i64 0, .slice none 0 0] 63)).heap.size (y2.alloc (.cells #[.int .i64 id, .bool true, .int .i64 0, .slice none 0 0] 63)) (.slice none 0 0) ((id : Int), true, 0, [])) := hid (.inr ⟨Nat.le_refl _, rfl, rfl⟩)
              have hq4 : y2.heap.size < (y2.alloc (.cells #[.int .i64 id, .bool true, .int .i64 0, .slice none 0 0] 63)).heap.size := by simp
              clear HV HB hal hB2 M1
              go_upto_region 12 with fail
              generalize y2.alloc (.cells #[.int .i64 id, .bool true, .int .i64 0, .slice none 0 0] 63) = W4 at *
              generalize y2.heap.size = Q at *
              obtain ⟨⟨x0, x1, x2, x3⟩, _⟩ := cell4n gQ
              clear gQ
              have hownZ : W4.ownsRow w.heap.size 63 4 (.slice av cs.length cv) cs.length (flatK KN us) := HV4.out.2.1
              have hm := HV4.out.2.2.2.1
              go_wp2_with (at_builtin; (refine wpList_append_lies _ rfl (.tmp 65) (.tmp 67) 24 rfl w.heap.size 63 i0 _ 4 48 Tryz.underlying24 hi0 hz0 hz1 hz2 rfl (by decide) (.slice av cs.length cv) cs.length (flatK KN us) rfl (hownZ.alloc _) ⟨W4.heap.size, 0, none⟩ 1 1 [.int .i64 id, .bool true, .int .i64 0, .slice none 0 0] rfl rfl (World.news_of_block (cs := #[.int .i64 id, .bool true, .int .i64 0, .slice none 0 0]) (t := 63) (fr := (0, 0)) (heap_alloc_new W4 _)) (by simp [Value.oneCell']) (by omega) (by unfold maxLen; omega) (by omega) (by simp; omega) (W4.heap.size + 1) (by simp) ?_; intro gg cq w2 hown2 hgrow hat hlt2))
              have hal2 : Below W4.heap.size W4 (W4.alloc (.cells #[.int .i64 id, .bool true, .int .i64 0, .slice none 0 0] 63)) := balloc (Below.refl _ _) _
              have hsn := LX.snoc (x := ((id : Int), true, 0, [])) (sv := .slice none 0 0) (l := W4.heap.size) (u := W4.heap.size) (g := gg) (cap := cq) (HV4.out.below hal2) (by omega) (by omega) (KN.frame HS4.out (fun c _ hc => hal2.block c (by omega)) hal2.size) hown2 hgrow (by simpa using hat) hlt2
              have hbn : Below w.heap.size w w2 := bgrow (balloc HB4.out _) hgrow (fun c e => (World.ownsRow.lt hownZ c e).1)
              have HSN := hid hsn
              have HBN := hid hbn
              have HLN : Hid ((cs ++ [((id : Int), true, 0, [])]).length = i + 1) := hid (by rw [List.length_append, HLc.out]; rfl)
              clear hsn hbn hown2 hgrow hal2 hownZ x0 x1 x2 x3
              go_wp2_with fail
              go_roundw
              case rel => exact ⟨i + 1, nx + 1, cs ++ [((id : Int), true, 0, [])], _, by go_num, by go_num, by omega, by omega, HLN, HRN, hid (by simpa using HSN.out), HBN⟩
              case measure => simp [intOf]; omega
            · have h80 : ¬ ((by8 s nx : Nat) : Int) = 1 := by omega
              have h81 : (((by8 s nx : Nat) : Int) == 1) = false := by rw [beq_eq_false_iff_ne]; exact h80
              have M2 := hid (fun w => spec_GetShape s ((nx : Int) + 1) hs (by omega) (by omega) w)
              cases h4 : gso s 200000 ((nx : Int) + 1) with
              | none =>
                rw [h4] at M2
                have HO := hid (HN.out (HRS.out.no3 hlt h1 hnx h8 h4))
                clear h1 h4 HRS HY HN HV h8
                unfold GSA at M2
                simp only [soK, soP, soN] at M2
                go_wp2_with fail
                refine (M1.out _).mono ?_
                rintro e y2 ⟨rfl, hB2⟩
                simp only [gnN, gnK]
                have gQ := new_alloc y2 y2.heap.size (.cells #[.int .i64 id, .bool false, .int .i64 0, .slice none 0 0] 63) rfl
                have HB4 := hid (balloc (btrans HB.out hB2) (.cells #[.int .i64 id, .bool false, .int .i64 0, .slice none 0 0] 63))
                have hw2 := hB2.size
                clear HB hB2 M1
                go_upto_region 12 with fail
                generalize y2.alloc (.cells #[.int .i64 id, .bool false, .int .i64 0, .slice none 0 0] 63) = W4 at *
                have hQ : w.heap.size ≤ y2.heap.size := by omega
                generalize y2.heap.size = Q at *
                obtain ⟨⟨x0, x1, x2, x3⟩, f0, f1, f2, f3⟩ := cell4n gQ
                go_wp2_with fail
                refine (M2.out _).mono ?_
                rintro e y3 ⟨sa, sc, rfl, hsc, hso, _, hB3⟩
                have gQ3 := keepheap2 hB3 gQ
                replace HB4 := hid (btrans HB4.out hB3)
                clear hB3 x0 x1 x2 x3 f0 f1 f2 f3 gQ hso M2
                obtain ⟨⟨x0, x1, x2, x3⟩, f0, f1, f2, f3⟩ := cell4n gQ3
                have HB5 := hid (bset (bset HB4.out (q := Q) (k := 2) hQ (.int .i64 0)) (q := Q) (k := 3) hQ (.slice sa 0 sc))
                go_upto_region 15 with fail
                generalize ((y3.setCell ⟨Q, 2, none⟩ (.int .i64 0)).setCell ⟨Q, 3, none⟩ (.slice sa 0 sc)) = Y4 at *
                go_wp2_with fail
                go_ret2
                exact gca_no HO.out HB5.out
              | some r =>
                obtain ⟨k, l, en⟩ := r
                rw [h4] at M2
                obtain ⟨⟨qq, rfl, hqq⟩, hl0, hl1⟩ := gso_facts h4
                have HRN := hid (HRS.out.there hlt h1 hnx h8 h4)
                clear h1 h4 HRS HY HN h8
                unfold GSA at M2
                simp only [soK, soP, soN] at M2
                go_wp2_with fail
                refine (M1.out _).mono ?_
                rintro e y2 ⟨rfl, hB2⟩
                simp only [gnN, gnK]
                have gQ := new_alloc y2 y2.heap.size (.cells #[.int .i64 id, .bool false, .int .i64 0, .slice none 0 0] 63) rfl
                have hal : Below y2.heap.size y2 (y2.alloc (.cells #[.int .i64 id, .bool false, .int .i64 0, .slice none 0 0] 63)) := balloc (Below.refl _ _) _
                have HB4 := hid (btrans (btrans HB.out hB2) hal)
                have HV3 := hid ((HV.out.below hB2).below hal)
                have hw2 := hB2.size
                have hq4 : y2.heap.size < (y2.alloc (.cells #[.int .i64 id, .bool false, .int .i64 0, .slice none 0 0] 63)).heap.size := by simp
                clear HB hB2 M1 HV hal
                go_upto_region 12 with fail
                generalize y2.alloc (.cells #[.int .i64 id, .bool false, .int .i64 0, .slice none 0 0] 63) = W3 at *
                have hQ : w.heap.size ≤ y2.heap.size := by omega
                generalize y2.heap.size = Q at *
                obtain ⟨⟨x0, x1, x2, x3⟩, f0, f1, f2, f3⟩ := cell4n gQ
                go_wp2_with fail
                refine (M2.out _).mono ?_
                rintro e y3 ⟨sa, sc, rfl, hsc, hso, hsb, hB3⟩
                obtain ⟨b, rfl, hpo⟩ := own_in hso hl0
                have hbW := hsb b 0 rfl
                have hbl := hpo.1
                have gQ3 := keepheap2 hB3 gQ
                have hz3 := hB3.size
                replace HB4 := hid (btrans HB4.out hB3)
                replace HV3 := hid (HV3.out.below hB3)
                clear hB3 x0 x1 x2 x3 f0 f1 f2 f3 gQ hso M2 hsb
                obtain ⟨⟨x0, x1, x2, x3⟩, f0, f1, f2, f3⟩ := cell4n gQ3
                have gS := set4_23 gQ3 (.int .i64 k) (.slice (some ⟨b, 0, none⟩) l.length sc)
                have HBS := hid (bset (bset HB4.out (q := Q) (k := 2) hQ (.int .i64 k)) (q := Q) (k := 3) hQ (.slice (some ⟨b, 0, none⟩) l.length sc))
                have hfr : ∀ c, c ≠ Q → ((y3.setCell ⟨Q, 2, none⟩ (.int .i64 k)).setCell ⟨Q, 3, none⟩ (.slice (some ⟨b, 0, none⟩) l.length sc)).heap[c]? = y3.heap[c]? := fun c hc => by
                  rw [Below.heap_setCell _ _ _ _ (by dsimp only; omega), Below.heap_setCell _ _ _ _ (by dsimp only; omega)]
                have hsz : ((y3.setCell ⟨Q, 2, none⟩ (.int .i64 k)).setCell ⟨Q, 3, none⟩ (.slice (some ⟨b, 0, none⟩) l.length sc)).heap.size = y3.heap.size := by simp only [World.size_setCell]
                have HVS := hid (HV3.out.frame (fun c _ hc => hfr c (by omega)) (Nat.le_of_eq hsz.symm))
                have HPS : Hid (PtsOwn _ b l) := hid (own_blk hpo (hfr b (by omega)) (by rw [hsz]; exact hbl))
                clear hfr HV3 hpo
                go_upto_region 15 with fail
                clear x0 x1 x2 x3
                generalize ((y3.setCell ⟨Q, 2, none⟩ (.int .i64 k)).setCell ⟨Q, 3, none⟩ (.slice (some ⟨b, 0, none⟩) l.length sc)) = W4 at *
                have hz4 : W4.heap.size ≤ y3.heap.size ∧ y3.heap.size ≤ W4.heap.size := ⟨by omega, by omega⟩
                clear hsz
                obtain ⟨z4, z5⟩ := hz4
                have HS4 : Hid (KN.sub b W4.heap.size W4 (.slice (some ⟨b, 0, none⟩) l.length sc) ((id : Int), false, k, l)) := hid (.inl ⟨Nat.le_refl _, b, sc, rfl, hsc, by show l.length ≤ _; omega, Nat.le_refl _, by omega, HPS.out⟩)
                have HB4 := HBS
                have HV4 := HVS
                clear HBS HVS HPS
                obtain ⟨⟨x0, x1, x2, x3⟩, _⟩ := cell4n gS
                clear gS gQ3 f0 f1 f2 f3
                have hownZ : W4.ownsRow w.heap.size 63 4 (.slice av cs.length cv) cs.length (flatK KN us) := HV4.out.2.1
                have hm := HV4.out.2.2.2.1
                go_wp2_with (at_builtin; (refine wpList_append_lies _ rfl (.tmp 65) (.tmp 67) 24 rfl w.heap.size 63 i0 _ 4 48 Tryz.underlying24 hi0 hz0 hz1 hz2 rfl (by decide) (.slice av cs.length cv) cs.length (flatK KN us) rfl (hownZ.alloc _) ⟨W4.heap.size, 0, none⟩ 1 1 [.int .i64 id, .bool false, .int .i64 k, .slice (some ⟨b, 0, none⟩) l.length sc] rfl rfl (World.news_of_block (cs := #[.int .i64 id, .bool false, .int .i64 k, .slice (some ⟨b, 0, none⟩) l.length sc]) (t := 63) (fr := (0, 0)) (heap_alloc_new W4 _)) (by simp [Value.oneCell']) (by omega) (by unfold maxLen; omega) (by omega) (by simp; omega) (W4.heap.size + 1) (by simp) ?_; intro gg cq w2 hown2 hgrow hat hlt2))
                have hal2 : Below W4.heap.size W4 (W4.alloc (.cells #[.int .i64 id, .bool false, .int .i64 k, .slice (some ⟨b, 0, none⟩) l.length sc] 63)) := balloc (Below.refl _ _) _
                have hsn := LX.snoc (x := ((id : Int), false, k, l)) (sv := .slice (some ⟨b, 0, none⟩) l.length sc) (l := b) (u := W4.heap.size) (g := gg) (cap := cq) (HV4.out.below hal2) (by omega) (by omega) (KN.frame HS4.out (fun c _ hc => hal2.block c (by omega)) hal2.size) hown2 hgrow (by simpa using hat) hlt2
                have hbn : Below w.heap.size w w2 := bgrow (balloc HB4.out _) hgrow (fun c e => (World.ownsRow.lt hownZ c e).1)
                have HSN := hid hsn
                have HBN := hid hbn
                have HLN : Hid ((cs ++ [((id : Int), false, k, l)]).length = i + 1) := hid (by rw [List.length_append, HLc.out]; rfl)
                clear hsn hbn hown2 hgrow hal2 hownZ x0 x1 x2 x3
                go_wp2_with fail
                go_roundw
                case rel => exact ⟨i + 1, qq, cs ++ [((id : Int), false, k, l)], _, by go_num, rfl, by omega, by omega, HLN, HRN, hid (by simpa using HSN.out), HBN⟩
                case measure => simp [intOf]; omega
          · have c3 : (s.size : Int) ≤ (nx : Int) := by omega
            have HO := hid (HN.out (HRS.out.no2 hlt h1 hnx))
            clear h1 HRS HV HY HN
            go_wp2_with fail
            refine (M1.out _).mono ?_
            rintro e y2 ⟨rfl, hB2⟩
            simp only [gnN, gnK]
            go_wp2_with fail
            go_ret2
            exact gca_no HO.out (btrans HB.out hB2)
      · have c2 : (n : Int) ≤ (i : Int) := by omega
        have hin : i = n := by omega
        have HR := HRS.out
        rw [hin] at HR
        have HO := hid (HY.out _ _ HR.done)
        clear HR hin HRS HY HN
        have MP := hid (fun (W : World) (hb : Below wr.heap.size wr W) => spec_PutChanges av cv cs W (by omega) (HV.out.lc.chsN.below hb))
        by_cases hq2 : pcT cs = s
        · rw [if_pos hq2] at HO
          have hne : ((pcT cs).toList == s.toList) = true := by rw [hq2]; simp
          clear hq2
          generalize pcT cs = tt at *
          go_wp2_with fail
          refine (MP.out _ (Below.refl _ _)).mono ?_
          rintro e y5 ⟨rfl, hB5⟩
          have HV5 := hid (HV.out.grows hB5)
          have HB5 := hid (btrans HB.out hB5)
          clear MP HV HB hB5
          go_wp2_with fail
          go_ret2
          exact gca_yes HO.out HV5.out.lc rfl HB5.out
        · rw [if_neg hq2] at HO
          have hne : ((pcT cs).toList == s.toList) = false := by
            rw [beq_eq_false_iff_ne]
            intro e
            rw [ByteArray.toList_eq, ByteArray.toList_eq] at e
            exact hq2 (ByteArray.ext (Array.ext' e))
          clear hq2
          generalize pcT cs = tt at *
          go_wp2_with fail
          refine (MP.out _ (Below.refl _ _)).mono ?_
          rintro e y5 ⟨rfl, hB5⟩
          have HB5 := hid (btrans HB.out hB5)
          clear MP HV HB hB5
          go_wp2_with fail
          go_ret2
          exact gca_no HO.out HB5.out
end Go.Proofs.YtdaheepfmnjadaaGreatDoor
