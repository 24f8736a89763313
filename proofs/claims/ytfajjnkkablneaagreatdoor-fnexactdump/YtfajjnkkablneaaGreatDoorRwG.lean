/- Lists of whole numbers: marked, held, one put in its place. -/
import Derived.Test.YtfajjnkkablneaaGreatDoorRwA0
import Derived.Test.YtfajjnkkablneaaGreatDoorAreaM
import Derived.Maps.AppendAt
namespace Go.Proofs.YtfajjnkkablneaaGreatDoor
open Go.RowKit
set_option linter.unusedSimpArgs false
set_option linter.unusedVariables false
theorem Tryz.infoI : (Tryz.prog.info? 3).map (fun i => (i.zero, i.size, i.bytes)) = some (some (.int .i64 0), 1, 8) := by kernel_rfl
def IAt (w : World) (b off : Nat) (zs : List Int) : Prop := ∀ k, k < zs.length → w.cell? ⟨b, off + k, none⟩ = some (.int .i64 (zs.getD k 0))
/-- A list of whole numbers that may be written into: nil, or a block of its own. -/
def OwnI (w : World) (a : Option Addr) (zs : List Int) : Prop := (a = none ∧ zs = []) ∨ ∃ b, a = some ⟨b, 0, none⟩ ∧ b < w.heap.size ∧ IAt w b 0 zs ∧ w.there b 0 zs.length
theorem OwnI.blk {w w' : World} {a : Option Addr} {zs : List Int} (h : OwnI w a zs) (hs : w.heap.size ≤ w'.heap.size) (e : ∀ b off, a = some ⟨b, off, none⟩ → w'.heap[b]? = w.heap[b]?) : OwnI w' a zs := by
  rcases h with ⟨rfl, rfl⟩ | ⟨b, rfl, h1, h2, h3⟩
  · exact .inl ⟨rfl, rfl⟩
  · have eb := e b 0 rfl
    refine .inr ⟨b, rfl, by omega, fun k hk => ?_, fun j hj => ?_⟩
    · simp only [World.cell?, eb]; exact h2 k hk
    · simp only [World.cell?, World.frozen?, eb]; exact h3 j hj
theorem OwnI.lt {w : World} {a : Option Addr} {zs : List Int} (h : OwnI w a zs) : ∀ c off, a = some ⟨c, off, none⟩ → c < w.heap.size := by
  intro c off e
  rcases h with ⟨rfl, rfl⟩ | ⟨b, rfl, h, _⟩
  · cases e
  · cases e; exact h
theorem OwnI.below {w w' : World} {a : Option Addr} {zs : List Int} (h : OwnI w a zs) (H : Below w.heap.size w w') : OwnI w' a zs := h.blk H.size (fun b off e => H.block b (h.lt b off e))
theorem OwnI.grown {w w' : World} {a : Option Addr} {zs : List Int} {r : Option Nat} (h : OwnI w a zs) (hg : w.grownBy w' r) (hne : ∀ c off, a = some ⟨c, off, none⟩ → some c ≠ r) : OwnI w' a zs := h.blk hg.size (fun b off e => hg.block b (h.lt b off e) (hne b off e))
theorem OwnI.map_blk {a : Option Addr} {c : Nat} {w : World} {zs : List Int} (h : OwnI w a zs) (e : a.map (·.block) = some c) : a = some ⟨c, 0, none⟩ := by
  rcases h with ⟨rfl, rfl⟩ | ⟨b, rfl, h⟩
  · simp at e
  · simp at e; rw [e]
theorem OwnI.at {w : World} {a : Option Addr} {zs : List Int} (h : OwnI w a zs) {k : Nat} (hk : k < zs.length) : ∃ b, a = some ⟨b, 0, none⟩ ∧ w.cell? ⟨b, k, none⟩ = some (.int .i64 (zs.getD k 0)) ∧ w.frozen? ⟨b, k, none⟩ = false := by
  rcases h with ⟨rfl, rfl⟩ | ⟨b, rfl, h1, h2, h3⟩
  · simp at hk
  · refine ⟨b, rfl, by simpa using h2 k hk, ?_⟩
    simpa using (h3 k hk).2
def mki (n : Nat) : List Int := (List.range n).map (fun (k : Nat) => (1 : Int) + (k : Int))
theorem mki_len (n : Nat) : (mki n).length = n := by simp [mki]
theorem mki_at {n k : Nat} (h : k < n) : (mki n).getD k 0 = 1 + (k : Int) := by
  simp [mki, List.getD_eq_getElem?_getD, List.getElem?_map, List.getElem?_range h]
theorem setI {w : World} {b k n : Nat} {v : Int} (hb : b < w.heap.size) (hk : k < n) (h : ∀ i, i < k → w.cell? ⟨b, i, none⟩ = some (.int .i64 (1 + (i : Int)))) (ht : w.there b 0 n) (hv : v = 1 + (k : Int)) : (∀ i, i < k + 1 → (w.setCell ⟨b, k, none⟩ (.int .i64 v)).cell? ⟨b, i, none⟩ = some (.int .i64 (1 + (i : Int)))) ∧ (w.setCell ⟨b, k, none⟩ (.int .i64 v)).there b 0 n := by
  subst hv
  obtain ⟨c0, _⟩ := ht k hk
  obtain ⟨u0, hu0⟩ := Option.isSome_iff_exists.1 c0
  simp only [Nat.zero_add] at hu0
  refine ⟨fun i hi => ?_, fun j hj => ?_⟩
  · by_cases e : i = k
    · subst e; exact World.cell?_setCell_same _ _ _ hu0
    · rw [World.cell?_setCell_other _ _ _ _ (by intro q; injection q; omega)]; exact h i (by omega)
  · obtain ⟨h1, h2⟩ := ht j hj
    refine ⟨?_, by rw [World.frozen?_setCell]; exact h2⟩
    obtain ⟨u, hu⟩ := Option.isSome_iff_exists.1 h1
    obtain ⟨u', hu'⟩ := cell?_setCell_some (p := ⟨b, k, none⟩) (x := .int .i64 (1 + (k : Int))) hu
    rw [hu']; rfl
end Go.Proofs.YtfajjnkkablneaaGreatDoor
