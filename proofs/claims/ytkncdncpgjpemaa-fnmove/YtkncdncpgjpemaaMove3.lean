/- What a law of moves needs besides. -/
import Derived.Test.YtkncdncpgjpemaaMove2
namespace Go.Proofs.Ytkncdncpgjpemaa
open Go.RowKit
theorem OwnP.grown {w w' : World} {a : Option Addr} {ps : List (Int × Int)} {r : Option Nat} (h : OwnP w a ps) (hg : w.grownBy w' r) (hne : ∀ c off, a = some ⟨c, off, none⟩ → some c ≠ r) : OwnP w' a ps := by
  rcases h with ⟨rfl, rfl⟩ | ⟨b, rfl, h⟩
  · exact .inl ⟨rfl, rfl⟩
  · exact .inr ⟨b, rfl, PtsOwn.of_block h (hg.block b h.1 (hne b 0 rfl)) hg.size⟩
theorem OwnP.lt {w : World} {a : Option Addr} {ps : List (Int × Int)} (h : OwnP w a ps) : ∀ c off, a = some ⟨c, off, none⟩ → c < w.heap.size := by
  intro c off e
  rcases h with ⟨rfl, rfl⟩ | ⟨b, rfl, h⟩
  · cases e
  · cases e; exact h.1
theorem bgrownr {w a b : World} {r : Option Nat} (h : Below w.heap.size w a) (hg : a.grownBy b r) (hp : ∀ c, r = some c → w.heap.size ≤ c) : Below w.heap.size w b :=
  h.grown hg h.size hp
theorem mv_len (k : Int) (ps : List (Int × Int)) (dx dy : Int) : (mvPs k ps dx dy).length ≤ ps.length := by
  unfold mvPs; split
  · rw [tk_len]; exact Nat.le_refl _
  · simp
theorem map_blk {a : Option Addr} {c : Nat} {w : World} {ps : List (Int × Int)} (h : OwnP w a ps) (e : a.map (·.block) = some c) : a = some ⟨c, 0, none⟩ := by
  rcases h with ⟨rfl, rfl⟩ | ⟨b, rfl, h⟩
  · simp at e
  · simp at e; rw [e]
end Go.Proofs.Ytkncdncpgjpemaa
