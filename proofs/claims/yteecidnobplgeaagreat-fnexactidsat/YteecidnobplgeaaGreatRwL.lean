/- What the law of IdsAt needs besides. -/
import Derived.Test.YteecidnobplgeaaGreatRwF
import Derived.Test.YteecidnobplgeaaGreatRwK
namespace Go.Proofs.YteecidnobplgeaaGreat
open Go.RowKit
set_option linter.unusedVariables false
theorem bgrownr {w a b : World} {r : Option Nat} (h : Below w.heap.size w a) (hg : a.grownBy b r) (hp : ∀ c, r = some c → w.heap.size ≤ c) : Below w.heap.size w b :=
  h.grown hg h.size hp
/-- Rows that may be written into, from block B on, below hi. -/
def Own3 (hi : Nat) (w : World) (B : Nat) (rs : List Rw) : Prop := B < hi ∧ hi ≤ w.heap.size ∧ w.there B 0 (rs.length * 5) ∧ RwsO hi w B rs
theorem Own3.below {hi : Nat} {w w' : World} {B : Nat} {rs : List Rw} (h : Own3 hi w B rs) (H : Below w.heap.size w w') : Own3 hi w' B rs :=
  ⟨h.1, Nat.le_trans h.2.1 H.size, there_below h.2.2.1 (Nat.lt_of_lt_of_le h.1 h.2.1) H, h.2.2.2.below h.2.1 H⟩
theorem mid_ownI {lo hi : Nat} {w w' : World} {a : Option Addr} {zs : List Int} (k : Mid lo hi w w') (h : OwnI w a zs) (ha : ∀ c off, a = some ⟨c, off, none⟩ → c < lo ∨ hi ≤ c) : OwnI w' a zs :=
  h.blk k.2.2.2.1 (fun b off e => mid_blk k (h.lt b off e) (ha b off e))
theorem idsb_len (now : Int) (rs : List Rw) (t : Int) : (idsb now rs t).length ≤ rs.length := by
  unfold idsb
  split
  · rw [srt_len]; exact ids_len rs t
  · simp
end Go.Proofs.YteecidnobplgeaaGreat
