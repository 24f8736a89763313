/- What the laws of RowAt and IdsAt need besides. -/
import Derived.Test.YtafjjchebmldeaaGreatDoorRwA2
import Derived.Test.YtafjjchebmldeaaGreatDoorRwK
namespace Go.Proofs.YtafjjchebmldeaaGreatDoor
open Go.RowKit
set_option linter.unusedVariables false
theorem OwnP.grown {w w' : World} {a : Option Addr} {ps : List (Int × Int)} {r : Option Nat} (h : OwnP w a ps) (hg : w.grownBy w' r) (hne : ∀ c off, a = some ⟨c, off, none⟩ → some c ≠ r) : OwnP w' a ps := by
  rcases h with ⟨rfl, rfl⟩ | ⟨b, rfl, h⟩
  · exact .inl ⟨rfl, rfl⟩
  · exact .inr ⟨b, rfl, PtsOwn.of_block h (hg.block b h.1 (hne b 0 rfl)) hg.size⟩
theorem OwnP.lt {w : World} {a : Option Addr} {ps : List (Int × Int)} (h : OwnP w a ps) : ∀ c off, a = some ⟨c, off, none⟩ → c < w.heap.size := by
  intro c off e
  rcases h with ⟨rfl, rfl⟩ | ⟨b, rfl, h⟩
  · cases e
  · cases e; exact h.1
theorem bgrownr {w a b : World} {r : Option Nat} (h : Below w.heap.size w a) (hg : a.grownBy b r) (hp : ∀ c, r = some c → w.heap.size ≤ c) : Below w.heap.size w b :=
  h.grown hg h.size hp
theorem map_blk {a : Option Addr} {c : Nat} {w : World} {ps : List (Int × Int)} (h : OwnP w a ps) (e : a.map (·.block) = some c) : a = some ⟨c, 0, none⟩ := by
  rcases h with ⟨rfl, rfl⟩ | ⟨b, rfl, h⟩
  · simp at e
  · simp at e; rw [e]
/-- Rows that may be written into, from block B on, below hi. -/
def Own3 (hi : Nat) (w : World) (B : Nat) (rs : List Rw) : Prop := B < hi ∧ hi ≤ w.heap.size ∧ w.there B 0 (rs.length * 5) ∧ RwsO hi w B rs
theorem Own3.below {hi : Nat} {w w' : World} {B : Nat} {rs : List Rw} (h : Own3 hi w B rs) (H : Below w.heap.size w w') : Own3 hi w' B rs :=
  ⟨h.1, Nat.le_trans h.2.1 H.size, there_below h.2.2.1 (Nat.lt_of_lt_of_le h.1 h.2.1) H, h.2.2.2.below h.2.1 H⟩
theorem rap_len {now : Int} {rs : List Rw} {id t : Int} {L : Nat} (h : ∀ m (h : m < rs.length), rs[m].2.2.2.2.length ≤ L) : (raP (ratb now rs id t)).length ≤ L := by
  unfold ratb
  split
  · unfold rat
    cases e : rs.find? (atb id t) with
    | none => simp [raP]
    | some r =>
      have := List.mem_of_find?_eq_some e
      obtain ⟨m, hm, rfl⟩ := List.mem_iff_getElem.1 this
      exact h m hm
  · simp [raP]
end Go.Proofs.YtafjjchebmldeaaGreatDoor
