/- Shapes out of bytes: the specification's. -/
import Derived.Test.YtfmchkagdaaeeaaGreatDoorRd
import Derived.Test.YtfmchkagdaaeeaaGreatDoorShapeSp
import Derived.Test.YtfmchkagdaaeeaaGreatDoorMark
import Derived.Test.YtfmchkagdaaeeaaGreatDoorRows3
namespace Go.Proofs.YtfmchkagdaaeeaaGreatDoor
open Go.RowKit
set_option linter.unusedVariables false
set_option linter.unusedSimpArgs false
theorem ptrow_nilg (w : World) (B : Nat) : PtRow w B (.slice none 0 0) [] := ⟨by simp [flat2], .inl ⟨rfl, rfl⟩⟩
theorem PtRow.bel {w w' : World} {B : Nat} {v : Value} {l : List (Int × Int)} (h : PtRow w B v l) (hb : Below w.heap.size w w') : PtRow w' B v l :=
  World.ownsRow.kept (row := none) h ⟨hb.os, hb.tape, hb.output, hb.size, fun k hk _ => hb.block k hk⟩ (Classical.em _)
theorem PtRow.set {w : World} {B q k : Nat} {v u : Value} {l : List (Int × Int)} (h : PtRow w B v l) (hq : q < B) : PtRow (w.setCell ⟨q, k, none⟩ u) B v l :=
  World.ownsRow.kept h (grown_set w q k u) (Or.inr (fun e => by have := (World.ownsRow.lt h q e).1; omega))
theorem PtRow.ownG {w : World} {B : Nat} {v : Value} {ps : List (Int × Int)} (h : PtRow w B v ps) (h0 : 0 < ps.length) : ∃ g cap, v = .slice (some ⟨g, 0, none⟩) ps.length cap ∧ B ≤ g ∧ ps.length ≤ cap ∧ PtsOwn w g ps := by
  have h' := h
  rcases h.2 with ⟨rfl, hn⟩ | ⟨g, cap, cur, rfl, hb, hg, hc, _⟩
  · omega
  · have hat : PtsAt w g 0 ps := by
      intro k hk
      obtain ⟨f0, f1⟩ := flat2_at ps k hk
      have hcs := World.ownsRow.cells h' rfl
      have q0 := hcs _ _ f0
      have q1 := hcs _ _ f1
      rw [Addr.add_mid] at q0 q1
      exact ⟨q0, by rw [Nat.add_assoc]; exact q1⟩
    refine ⟨g, cap, rfl, hb, hc, (Array.getElem?_eq_some_iff.1 hg).1, hat, ?_⟩
    intro j hj
    simp only [Nat.zero_add]
    refine ⟨?_, World.ownsRow.frozenAt h' j⟩
    obtain ⟨q0, q1⟩ := hat (j / 2) (by omega)
    simp only [Nat.zero_add] at q0 q1
    rcases Nat.mod_two_eq_zero_or_one j with e | e
    · rw [show j / 2 * 2 = j by omega] at q0; rw [q0]; rfl
    · rw [show j / 2 * 2 + 1 = j by omega] at q1; rw [q1]; rfl
theorem shok_posg {k : Int} {ps : List (Int × Int)} (h : shok k ps = true) : 0 < ps.length := by
  cases ps with
  | nil => exact absurd h (by unfold shok; simp [lineb, rectb, ringOk])
  | cons a b => simp
end Go.Proofs.YtfmchkagdaaeeaaGreatDoor
