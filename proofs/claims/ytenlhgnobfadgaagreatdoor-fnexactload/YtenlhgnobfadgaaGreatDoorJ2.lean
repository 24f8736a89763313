/- Texts of stores, joined: Texts. -/
import Derived.Test.YtenlhgnobfadgaaGreatDoorJ1
import Derived.WalkSpells
import Derived.BigQuiet
import Derived.Deep.QuietTactic
import Derived.Deep.RegionHeld3
import Derived.Laws.OwnMore
set_option linter.unusedSimpArgs false
set_option linter.unusedVariables false
namespace Go.Proofs.YtenlhgnobfadgaaGreatDoor
open Go.RowKit
theorem grown_all {w w' : World} (hb : Below w.heap.size w w') (r : Option Nat) : w.grownBy w' r := ⟨hb.os, hb.tape, hb.output, hb.size, fun k hk _ => hb.block k hk⟩
theorem gdrewT {w w' : World} {r : Option Nat} (h : w.grownBy w' r) (n : Nat) : w.grownBy (w'.drewN n) r := ⟨h.os, h.tape, h.output, h.size, h.block⟩
theorem gtransT {w w1 w2 : World} {r : Option Nat} (h : w.grownBy w1 r) (k : w1.grownBy w2 r) : w.grownBy w2 r :=
  ⟨k.os.trans h.os, k.tape.trans h.tape, k.output.trans h.output, Nat.le_trans h.size k.size, fun i hi hne => (k.block i (Nat.lt_of_lt_of_le hi h.size) hne).trans (h.block i hi hne)⟩
theorem gsameT (w : World) (r : Option Nat) : w.grownBy w r := ⟨rfl, rfl, rfl, Nat.le_refl _, fun _ _ _ => rfl⟩
/-- The slice at the head of block g holds the texts l. -/
def Texts (w : World) (g cap : Nat) (l : List ByteArray) : Prop := w.ownsRow 0 9 1 (.slice (some ⟨g, 0, none⟩) l.length cap) l.length (l.map Value.string)
theorem Texts.cell {w : World} {g cap : Nat} {l : List ByteArray} (h : Texts w g cap l) (j : Nat) (hj : j < l.length) : w.cell? ⟨g, j, none⟩ = some (.string l[j]) := by
  have := World.ownsRow.cellAt h j (by omega)
  rw [this, List.getElem?_map, List.getElem?_eq_getElem hj]; rfl
theorem Texts.frozen {w : World} {g cap : Nat} {l : List ByteArray} (h : Texts w g cap l) (j : Nat) : w.frozen? ⟨g, j, none⟩ = false := World.ownsRow.frozenAt h j
theorem Texts.kept {w w' : World} {g cap : Nat} {l : List ByteArray} {r : Option Nat} (h : Texts w g cap l) (hg : w.grownBy w' r) (hne : r ≠ some g) : Texts w' g cap l :=
  World.ownsRow.kept h hg (.inr (fun e => hne e.symm))
theorem Texts.store {w : World} {g cap : Nat} {l : List ByteArray} (h : Texts w g cap l) (j : Nat) (x : ByteArray) : Texts (w.setCell ⟨g, j, none⟩ (.string x)) g cap (l.set j x) ∧ w.grownBy (w.setCell ⟨g, j, none⟩ (.string x)) (some g) := by
  have := World.ownsRow.stored h j (.string x)
  unfold Texts
  rw [List.length_set, List.map_set]
  exact this
theorem Texts.lt {w : World} {g cap : Nat} {l : List ByteArray} (h : Texts w g cap l) : g < w.heap.size := (World.ownsRow.lt h g rfl).2
theorem below_drewN (B : Nat) (w : World) (n : Nat) : Below B w (w.drewN n) := ⟨rfl, rfl, rfl, Nat.le_refl _, fun _ _ => rfl⟩
theorem below_drew1 {w w1 : World} (h : Below w.drew.heap.size w.drew w1) : Below w.heap.size w w1 := ((Below.refl _ w).drew).trans h
end Go.Proofs.YtenlhgnobfadgaaGreatDoor
