/- Databases as a law is given them: their sizes, their conversions, their comparison. -/
import Derived.Test.YtdhdfgobefapiaaDoorRwG
import Derived.Test.YtdhdfgobefapiaaDoorSf
import Derived.Test.YtdhdfgobefapiaaDoorSg
import Derived.Test.YtdhdfgobefapiaaDoorRw0
import Derived.Test.YtdhdfgobefapiaaDoorDrawP
import Derived.OwnWalk
import Derived.Deep.AppendLies
import Derived.Test.YtdhdfgobefapiaaDoorRows
import Derived.Test.YtdhdfgobefapiaaDoorRwQ
import Derived.Shelf.SlSortCmp.NoneTotal
import Derived.Test.YtdhdfgobefapiaaDoorRwE
import Derived.Deep.RegionHeld3
import Derived.Sort.Grow
import Derived.WalkLawsBesides
import Derived.Test.YtdhdfgobefapiaaDoorSide
import Derived.Deep.CutRange
namespace Go.Proofs.YtdhdfgobefapiaaDoor
open Go.RowKit
set_option linter.unusedSimpArgs false
set_option linter.unusedVariables false
/-- Whole numbers in memory. -/
def InI (w : World) (a : Option Addr) (zs : List Int) : Prop := zs = [] ∨ ∃ b o, a = some ⟨b, o, none⟩ ∧ b < w.heap.size ∧ ∀ k, k < zs.length → w.cell? ⟨b, o + k, none⟩ = some (.int .i64 (zs.getD k 0))
theorem InI.below {w w' : World} {a : Option Addr} {zs : List Int} (h : InI w a zs) (H : Below w.heap.size w w') : InI w' a zs := by
  rcases h with h | ⟨b, o, e, hb, h⟩
  · exact .inl h
  · exact .inr ⟨b, o, e, by have := H.size; omega, fun k hk => keepcell H (h k hk)⟩
theorem InI.at {w : World} {a : Option Addr} {zs : List Int} (h : InI w a zs) {k : Nat} (hk : k < zs.length) : ∃ b o, a = some ⟨b, o, none⟩ ∧ b < w.heap.size ∧ w.cell? ⟨b, o + k, none⟩ = some (.int .i64 (zs.getD k 0)) := by
  rcases h with h | ⟨b, o, e, hb, h⟩
  · subst h; simp at hk
  · exact ⟨b, o, e, hb, h k hk⟩
theorem keepheapO {w w' : World} (hb : Below w.heap.size w w') {b : Nat} {o : Obj} (h : w.heap[b]? = some o) : w'.heap[b]? = some o := (hb.block b (by by_cases q : b < w.heap.size; exact q; rw [Array.getElem?_eq_none (by omega)] at h; cases h)).trans h
theorem make_nO (n : Nat) (hn : n ≤ 1099511627776) (w : World) : (Instr.makeSlice 28 (.int .i64 n) (.int .i64 n)).run Tryd.prog w = .ok (.slice (some ⟨w.heap.size, 0, none⟩) n n) (w.alloc (.cells (madeCells #[.int .i64 0] n) 3)) := by
  obtain ⟨i0, hi, hz0, hz1, hz2⟩ := info_parts Tryd.infoI
  have := run_make (P := Tryd.prog) w 28 3 i0 _ Tryd.underlying28 hi hz0 .i64 .i64 n n (by omega) (by omega) (by rw [hz2]; omega) (by omega)
  rw [hz1, Nat.mul_one] at this
  exact this
theorem made_there (w : World) (n : Nat) : (w.alloc (.cells (madeCells #[.int .i64 0] n) 3)).there w.heap.size 0 n := by
  intro j hj
  have g := new_alloc w w.heap.size (.cells (madeCells #[.int .i64 0] n) 3) rfl
  have hs : (madeCells #[Value.int .i64 0] n).size = n := by simp [madeCells]
  refine ⟨?_, ?_⟩
  · simp only [World.cell?, g]
    simp [hs, hj]
  · simp only [World.frozen?, g]
    simp
set_option maxRecDepth 100000 in
set_option maxHeartbeats 2000000 in
theorem to_ints (a : Option Addr) (cap : Nat) (zs : List Int) (w : World) (hm : zs.length ≤ 1099511627776) (h : InI w a zs) : Calls Tryd.prog 23 #[.slice a zs.length cap] w fun e w' => e = .returned (.slice (some ⟨w.heap.size, 0, none⟩) zs.length zs.length) ∧ OwnI w' (some ⟨w.heap.size, 0, none⟩) zs ∧ Below w.heap.size w w' := by
  have HI := hid h
  clear h
  have hmk := make_nO zs.length hm
  obtain ⟨n, hn⟩ : ∃ n, n = zs.length := ⟨_, rfl⟩
  have HN := hid hn.symm
  rw [← hn] at hm hmk ⊢
  clear hn
  have hB0 : Below w.heap.size w (w.alloc (.cells (madeCells #[.int .i64 0] n) 3)) := balloc (Below.refl _ _) _
  have ht0 := made_there w n
  have hl0 : w.heap.size < (w.alloc (.cells (madeCells #[.int .i64 0] n) 3)).heap.size := by simp
  go_enter Tryd.func23, Tryd.ntmps23
  go_upto_region 2 with fail
  generalize w.alloc (.cells (madeCells #[.int .i64 0] n) 3) = W0 at *
  clear hmk
  go_wp2_with fail
  go_loopw [4] (fun ti wr => ∃ i : Nat, ti = .int .i64 i ∧ i ≤ n ∧ Hid (∀ k, k < i → wr.cell? ⟨w.heap.size, k, none⟩ = some (.int .i64 (zs.getD k 0))) ∧ Hid (wr.there w.heap.size 0 n) ∧ Hid (Below w.heap.size w wr) ∧ w.heap.size < wr.heap.size) (fun ti _ => n - (intOf ti).toNat)
  case atStart => exact ⟨0, rfl, Nat.zero_le _, hid (fun k hk => absurd hk (by omega)), hid ht0, hid hB0, hl0⟩
  case round =>
    clear ht0 hB0 hl0
    obtain ⟨i, rfl, hi, HA, HT, HB, hl⟩ := hrel
    by_cases hlt : i < n
    · have c1 : (i : Int) < (n : Int) := by omega
      obtain ⟨b, o, rfl, hb, k0⟩ := (HI.out.below HB.out).at (k := i) (by rw [HN.out]; exact hlt)
      obtain ⟨u, q0, q1⟩ := there_at HT.out hlt
      have HZ : Hid (∀ k, k < i + 1 → (wr.setCell ⟨w.heap.size, i, none⟩ (.int .i64 (zs.getD i 0))).cell? ⟨w.heap.size, k, none⟩ = some (.int .i64 (zs.getD k 0))) := hid (fun k hk => by
        by_cases e : k = i
        · subst e; exact World.cell?_setCell_same _ _ _ q0
        · rw [World.cell?_setCell_other _ _ _ _ (by intro q; injection q; omega)]; exact HA.out k (by omega))
      generalize zs.getD i 0 = z at *
      go_wp2_with fail
      go_roundw
      case rel => exact ⟨i + 1, by go_num, by omega, HZ, hid (there_set HT.out _), hid (bset HB.out (q := w.heap.size) (k := i) (Nat.le_refl _) _), by simp; omega⟩
      case measure => simp [intOf]; omega
    · have c1 : (n : Int) ≤ (i : Int) := by omega
      have hin : i = n := by omega
      subst hin
      have HF : Hid (OwnI wr (some ⟨w.heap.size, 0, none⟩) zs) := hid (.inr ⟨w.heap.size, rfl, hl, fun k hk => by rw [Nat.zero_add]; exact HA.out k (by rw [← HN.out]; exact hk), by rw [HN.out]; exact HT.out⟩)
      go_wp2_with fail
      go_ret
      exact ⟨rfl, HF.out, HB.out⟩
end Go.Proofs.YtdhdfgobefapiaaDoor
