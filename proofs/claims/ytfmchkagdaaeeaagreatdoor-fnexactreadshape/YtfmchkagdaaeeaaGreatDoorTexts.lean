/- Lists of texts in memory: compared, marked, and found marked: contracts of the law's own helpers. -/
import Derived.Test.YtfmchkagdaaeeaaGreatDoorDec
import Derived.WalkSpells
import Derived.BigQuiet
import Derived.Deep.QuietTactic
import Derived.Deep.RegionHeld3
import Derived.Laws.OwnMore
namespace Go.Proofs.YtfmchkagdaaeeaaGreatDoor
open Go.RowKit
theorem grown_all {w w' : World} (hb : Below w.heap.size w w') (r : Option Nat) : w.grownBy w' r := ⟨hb.os, hb.tape, hb.output, hb.size, fun k hk _ => hb.block k hk⟩
/-- The slice at the head of block g holds the texts l. -/
def Texts (w : World) (g cap : Nat) (l : List ByteArray) : Prop := w.ownsRow 0 9 1 (.slice (some ⟨g, 0, none⟩) l.length cap) l.length (l.map Value.string)
theorem Texts.cell {w : World} {g cap : Nat} {l : List ByteArray} (h : Texts w g cap l) (j : Nat) (hj : j < l.length) : w.cell? ⟨g, j, none⟩ = some (.string l[j]) := by
  have := World.ownsRow.cellAt h j (by omega)
  rw [this, List.getElem?_map, List.getElem?_eq_getElem hj]; rfl
theorem Texts.frozen {w : World} {g cap : Nat} {l : List ByteArray} (h : Texts w g cap l) (j : Nat) : w.frozen? ⟨g, j, none⟩ = false := World.ownsRow.frozenAt h j
theorem Texts.kept {w w' : World} {g cap : Nat} {l : List ByteArray} {r : Option Nat} (h : Texts w g cap l) (hg : w.grownBy w' r) (hne : r ≠ some g) : Texts w' g cap l :=
  World.ownsRow.kept h hg (.inr (fun e => hne e.symm))
theorem Texts.store {w : World} {g cap : Nat} {l : List ByteArray} (h : Texts w g cap l) (j : Nat) (x : ByteArray) : Texts (w.setCell ⟨g, j, none⟩ (.string x)) g cap (l.set j x) ∧ w.grownBy (w.setCell ⟨g, j, none⟩ (.string x)) (some g) := by
  have := World.ownsRow.stored h j (.string x)
  unfold Texts
  rw [List.length_set, List.map_set]
  exact this
theorem Texts.lt {w : World} {g cap : Nat} {l : List ByteArray} (h : Texts w g cap l) : g < w.heap.size := (World.ownsRow.lt h g rfl).2
end Go.Proofs.YtfmchkagdaaeeaaGreatDoor
