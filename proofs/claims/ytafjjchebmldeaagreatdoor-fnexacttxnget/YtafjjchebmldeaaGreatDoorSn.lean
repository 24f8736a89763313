/- For TxnGet's law. -/
import Derived.Test.YtafjjchebmldeaaGreatDoorSm
import Derived.Test.YtafjjchebmldeaaGreatDoorSh
import Derived.Test.YtafjjchebmldeaaGreatDoorSi
import Derived.Test.YtafjjchebmldeaaGreatDoorRwA3
namespace Go.Proofs.YtafjjchebmldeaaGreatDoor
open Go.RowKit
set_option linter.unusedSimpArgs false
set_option linter.unusedVariables false
/-- A store whose lists may be written into. -/
def OwnS (hi hR : Nat) (w : World) (B T : Nat) (rs : List Rw) (ts : List Tx) : Prop := B < hR ∧ hR ≤ T ∧ T < hi ∧ hi ≤ w.heap.size ∧ w.there B 0 (rs.length * 5) ∧ RwsO hR w B rs ∧ TxsO hi w T ts
theorem OwnS.below {hi hR : Nat} {w w' : World} {B T : Nat} {rs : List Rw} {ts : List Tx} (h : OwnS hi hR w B T rs ts) (H : Below w.heap.size w w') : OwnS hi hR w' B T rs ts := by
  obtain ⟨h1, h2, h3, h4, h5, h6, h7⟩ := h
  have := H.size
  exact ⟨h1, h2, h3, by omega, there_below h5 (by omega) H, h6.below (by omega) H, h7.below (by omega) h4 H⟩
theorem rat_len {rs : List Rw} {id t : Int} {L : Nat} (h : ∀ m (h : m < rs.length), rs[m].2.2.2.2.length ≤ L) : (raP (rat rs id t)).length ≤ L := by
  cases hr : rat rs id t with
  | none => simp [raP]
  | some r =>
    unfold rat at hr
    have hm := List.mem_of_find?_eq_some hr
    obtain ⟨m, hmm, rfl⟩ := List.getElem_of_mem hm
    exact h m hmm
theorem gtp_len {now : Int} {rs : List Rw} {ts : List Tx} {n id : Int} (h : ∀ m (h : m < rs.length), rs[m].2.2.2.2.length ≤ 1048576) (hs : txS ts) : (gtP now rs ts n id).length ≤ 1048576 := by
  unfold gtP
  split
  · rename_i ho
    obtain ⟨m, rfl, hm, _, e, _, _⟩ := opn_yes ho
    rw [e]
    unfold seP
    cases hc : chf ts[m].2.2 id with
    | none => exact rat_len h
    | some c =>
      unfold chf at hc
      have hm2 := List.mem_of_find?_eq_some hc
      obtain ⟨k, hk, rfl⟩ := List.getElem_of_mem hm2
      simp only
      split
      · simp
      · exact (hs.2 m hm).2 k hk
  · simp
end Go.Proofs.YtafjjchebmldeaaGreatDoor
