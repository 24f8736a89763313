/- What the law of Vacuum needs besides. -/
import Derived.Test.YtjhnfbefgjoiiaaGreatVg
namespace Go.Proofs.YtjhnfbefgjoiiaaGreat
open Go.RowKit
set_option linter.unusedVariables false
/-- Rows that may be written into, from block B on, below hi. -/
def Own3 (hi : Nat) (w : World) (B : Nat) (rs : List Rw) : Prop := B < hi ∧ hi ≤ w.heap.size ∧ w.there B 0 (rs.length * 5) ∧ RwsO hi w B rs
theorem Own3.below {hi : Nat} {w w' : World} {B : Nat} {rs : List Rw} (h : Own3 hi w B rs) (H : Below w.heap.size w w') : Own3 hi w' B rs :=
  ⟨h.1, Nat.le_trans h.2.1 H.size, there_below h.2.2.1 (Nat.lt_of_lt_of_le h.1 h.2.1) H, h.2.2.2.below h.2.1 H⟩
def BS (Y w : World) : Prop := Below Y.heap.size Y w
theorem BS.below {Y a b : World} (h : BS Y a) (H : Below a.heap.size a b) : BS Y b := btrans h H
def SizeLe (Y : World) (n : Nat) : Prop := Y.heap.size ≤ n
theorem bs_mid {Y a b : World} {lo hi : Nat} (h : BS Y a) (m : Mid lo hi a b) (hl : SizeLe Y lo) : BS Y b := mid_B h m hl h.size
theorem vacb_len (now : Int) (rs : List Rw) (t : Int) : (vacb now rs t).length ≤ rs.length := by
  unfold vacb
  split
  · exact List.length_filter_le _ _
  · exact Nat.le_refl _
theorem vacb_lens {now : Int} {rs : List Rw} {t : Int} {L : Nat} (h : ∀ m (h : m < rs.length), rs[m].2.2.2.2.length ≤ L) : ∀ m (h : m < (vacb now rs t).length), (vacb now rs t)[m].2.2.2.2.length ≤ L := by
  intro m hm
  have hs : ∀ x ∈ vacb now rs t, x ∈ rs := by
    intro x hx
    unfold vacb at hx
    split at hx
    · exact (List.mem_filter.1 hx).1
    · exact hx
  have h1 : (vacb now rs t)[m] ∈ rs := hs _ (List.getElem_mem hm)
  obtain ⟨j, hj, e⟩ := List.mem_iff_getElem.1 h1
  rw [← e]
  exact h j hj
end Go.Proofs.YtjhnfbefgjoiiaaGreat
