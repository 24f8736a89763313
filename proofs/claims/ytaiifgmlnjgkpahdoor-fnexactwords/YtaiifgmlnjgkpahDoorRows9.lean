/- Lists of texts in memory: compared, marked, and found marked: contracts of the law's own helpers. -/
import Derived.Test.YtaiifgmlnjgkpahDoorMark
import Derived.WalkSpells
import Derived.BigQuiet
import Derived.Deep.QuietTactic
import Derived.Deep.RegionHeld3
import Derived.Laws.OwnMore
namespace Go.Proofs.YtaiifgmlnjgkpahDoor
open Go.RowKit
theorem grown_all {w w' : World} (hb : Below w.heap.size w w') (r : Option Nat) : w.grownBy w' r := ⟨hb.os, hb.tape, hb.output, hb.size, fun k hk _ => hb.block k hk⟩
theorem grown_drew {w w' : World} {r : Option Nat} (h : w.grownBy w' r) (n : Nat) : w.grownBy (w'.drewN n) r := ⟨h.os, h.tape, h.output, h.size, h.block⟩
theorem grown_trans {w w1 w2 : World} {r : Option Nat} (h : w.grownBy w1 r) (k : w1.grownBy w2 r) : w.grownBy w2 r :=
  ⟨k.os.trans h.os, k.tape.trans h.tape, k.output.trans h.output, Nat.le_trans h.size k.size, fun i hi hne => (k.block i (Nat.lt_of_lt_of_le hi h.size) hne).trans (h.block i hi hne)⟩
theorem grown_same (w : World) (r : Option Nat) : w.grownBy w r := ⟨rfl, rfl, rfl, Nat.le_refl _, fun _ _ _ => rfl⟩
/-- The slice at the head of block g holds the texts l. -/
def Texts (w : World) (g cap : Nat) (l : List ByteArray) : Prop := w.ownsRow 0 9 1 (.slice (some ⟨g, 0, none⟩) l.length cap) l.length (l.map Value.string)
theorem Texts.cell {w : World} {g cap : Nat} {l : List ByteArray} (h : Texts w g cap l) (j : Nat) (hj : j < l.length) : w.cell? ⟨g, j, none⟩ = some (.string l[j]) := by
  have := World.ownsRow.cellAt h j (by omega)
  rw [this, List.getElem?_map, List.getElem?_eq_getElem hj]; rfl
theorem Texts.frozen {w : World} {g cap : Nat} {l : List ByteArray} (h : Texts w g cap l) (j : Nat) : w.frozen? ⟨g, j, none⟩ = false := World.ownsRow.frozenAt h j
theorem Texts.kept {w w' : World} {g cap : Nat} {l : List ByteArray} {r : Option Nat} (h : Texts w g cap l) (hg : w.grownBy w' r) (hne : r ≠ some g) : Texts w' g cap l :=
  World.ownsRow.kept h hg (.inr (fun e => hne e.symm))
theorem Texts.store {w : World} {g cap : Nat} {l : List ByteArray} (h : Texts w g cap l) (j : Nat) (x : ByteArray) : Texts (w.setCell ⟨g, j, none⟩ (.string x)) g cap (l.set j x) ∧ w.grownBy (w.setCell ⟨g, j, none⟩ (.string x)) (some g) := by
  have := World.ownsRow.stored h j (.string x)
  unfold Texts
  rw [List.length_set, List.map_set]
  exact this
theorem Texts.lt {w : World} {g cap : Nat} {l : List ByteArray} (h : Texts w g cap l) : g < w.heap.size := (World.ownsRow.lt h g rfl).2
def marks (n : Nat) : List ByteArray := (List.range n).map (fun i => mt (1 + i))
theorem marks_at (n j : Nat) (h : j < n) : (marks n)[j]? = some (mt (1 + j)) := by simp [marks, h]
theorem marks_of (l : List ByteArray) (n : Nat) (hl : l.length = n) (h : ∀ j, j < n → l[j]? = some (mt (1 + j))) : l = marks n := by
  apply List.ext_getElem?
  intro j
  by_cases hj : j < n
  · rw [h j hj, marks_at n j hj]
  · rw [List.getElem?_eq_none (by omega), List.getElem?_eq_none (by simp [marks]; omega)]
set_option maxRecDepth 100000 in
set_option maxHeartbeats 1000000 in
theorem mark_c (w : World) (g cap : Nat) (l : List ByteArray) (hn : l.length ≤ 2097152) (h : Texts w g cap l) : Calls Tryd.prog 10 #[.slice (some ⟨g, 0, none⟩) l.length cap, .int .i64 1] w fun e w' => e = .returned (.int .i64 (1 + (l.length : Int))) ∧ Texts w' g cap (marks l.length) ∧ w.grownBy w' (some g) := by
  obtain ⟨n, hln⟩ : ∃ n, n = l.length := ⟨_, rfl⟩
  rw [← hln] at hn ⊢
  have HLN := hide hln
  clear hln
  go_enter Tryd.func10, Tryd.ntmps10
  go_wp2
  go_loopw [1, 5] (fun tk ti wr => ∃ i : Nat, ∃ l' : List ByteArray, tk = .int .i64 (1 + (i : Int)) ∧ ti = .int .i64 i ∧ i ≤ n ∧ Hid (l'.length = n) ∧ Hid (∀ j, j < i → l'[j]? = some (mt (1 + j))) ∧ Texts wr g cap l' ∧ w.grownBy wr (some g)) (fun _ ti _ => n - (intOf ti).toNat)
  case atStart => exact ⟨0, l, rfl, rfl, Nat.zero_le _, HLN.out.symm, fun j hj => absurd hj (Nat.not_lt_zero _), h, grown_same _ _⟩
  case round =>
    obtain ⟨i, l', rfl, rfl, hi, H1, H2, hT, hg⟩ := hrel
    by_cases hlt : i < n
    · have c1 : (i : Int) < (n : Int) := by omega
      have e1 : (1 : Int) + (i : Int) = ((1 + i : Nat) : Int) := by omega
      have E1 := hide e1
      clear e1
      go_wp2_with fail
      rw [E1.out]
      refine (mark_text (1 + i) (by omega) (by omega) _).mono ?_
      rintro e w1 ⟨rfl, hb⟩
      have hT1 := hT.kept (grown_all hb none) (by simp)
      replace hg := grown_trans hg (grown_all hb _)
      have hc := hT1.cell i (by have := H1.out; omega)
      have hf := hT1.frozen i
      clear hT hb
      rw [← E1.out]
      go_wp2_with fail
      go_roundw
      case rel =>
        have hst := hT1.store i (mt (1 + i))
        refine ⟨i + 1, l'.set i (mt (1 + i)), by go_num, by go_num, by omega, ?_, ?_, hst.1, grown_trans hg hst.2⟩
        · show _ = _; rw [List.length_set]; exact H1.out
        · intro j hj
          by_cases e : j = i
          · subst e; rw [List.getElem?_set_self (by have := H1.out; omega)]
          · rw [List.getElem?_set_ne (fun h => e h.symm)]; exact H2.out j (by omega)
      case measure => simp [intOf]; omega
    · have c1 : (n : Int) ≤ (i : Int) := by omega
      have hin : i = n := by omega
      subst hin
      go_wp2_with fail
      go_ret
      have := marks_of l' i H1.out H2.out
      subst this
      exact ⟨rfl, hT, hg⟩
theorem below_drewN (B : Nat) (w : World) (n : Nat) : Below B w (w.drewN n) := ⟨rfl, rfl, rfl, Nat.le_refl _, fun _ _ => rfl⟩
theorem below_drew1 {w w1 : World} (h : Below w.drew.heap.size w.drew w1) : Below w.heap.size w w1 := ((Below.refl _ w).drew).trans h
set_option maxRecDepth 100000 in
set_option maxHeartbeats 2000000 in
theorem held_c (w : World) (g cap n : Nat) (hn : n ≤ 2097152) (h : Texts w g cap (marks n)) : Calls Tryd.prog 11 #[.slice (some ⟨g, 0, none⟩) n cap, .int .i64 1] w fun e w' => e = .returned (.int .i64 (1 + (n : Int))) ∧ Below w.heap.size w w' := by
  go_enter Tryd.func11, Tryd.ntmps11
  go_wp2
  go_loopw [1, 5] (fun tk ti wr => ∃ i : Nat, tk = .int .i64 (1 + (i : Int)) ∧ ti = .int .i64 i ∧ i ≤ n ∧ Texts wr g cap (marks n) ∧ Below w.heap.size w wr) (fun _ ti _ => n - (intOf ti).toNat)
  case atStart => exact ⟨0, rfl, rfl, Nat.zero_le _, h, Below.refl _ _⟩
  case round =>
    obtain ⟨i, rfl, rfl, hi, hT, hb⟩ := hrel
    by_cases hlt : i < n
    · have c1 : (i : Int) < (n : Int) := by omega
      have e1 : (1 : Int) + (i : Int) = ((1 + i : Nat) : Int) := by omega
      have E1 := hide e1
      have hml : (marks n).length = n := by simp [marks]
      have hc : wr.cell? ⟨g, i, none⟩ = some (.string (mt (1 + i))) := by
        rw [hT.cell i (by omega)]
        have := marks_at n i hlt
        rw [List.getElem?_eq_getElem (by omega)] at this
        rw [Option.some.inj this]
      have hgl := hT.lt
      clear e1 hml
      go_wp2_with fail
      go_region_held3 (fun w' => w'.cell? ⟨g, i, none⟩ = some (.string (mt (1 + i)))) (first | (simp [go_sem, hc]; done) | (simp [go_sem]; assumption) | assumption) (first | (go_at_call 18; rw [E1.out]; refine (mark_text (1 + i) (by omega) (by omega) _).mono ?_; rintro e w1 ⟨rfl, hb1⟩; have hk := (hb1.cell (p := ⟨g, i, none⟩) hgl).trans hc))
      all_goals
        have hb2 := below_drew1 hb1
        have hT2 := hT.kept (grown_all hb2 none) (by simp)
        replace hb := hb.trans (hb2.mono hb.size)
        clear hb1 hb2 hT
        go_wp2_with fail
        go_roundw
        case rel => exact ⟨i + 1, by go_num, by go_num, by omega, hT2, hb⟩
        case measure => simp [intOf]; omega
    · have c1 : (n : Int) ≤ (i : Int) := by omega
      have hin : i = n := by omega
      subst hin
      go_wp2_with fail
      go_ret
      exact ⟨rfl, hb⟩
set_option maxRecDepth 100000 in
set_option maxHeartbeats 1000000 in
theorem eq_c (w : World) (g cap g2 cap2 : Nat) (l : List ByteArray) (hn : l.length ≤ 2097152) (h : Texts w g cap l) (h2 : Texts w g2 cap2 l) : Calls Tryd.prog 9 #[.slice (some ⟨g, 0, none⟩) l.length cap, .slice (some ⟨g2, 0, none⟩) l.length cap2] w fun e w' => e = .returned (.bool true) ∧ ∃ k, w' = w.drewN k := by
  obtain ⟨n, hln⟩ : ∃ n, n = l.length := ⟨_, rfl⟩
  rw [← hln] at hn ⊢
  have HLN := hide hln
  clear hln
  go_enter Tryd.func9, Tryd.ntmps9
  go_wp2
  go_loopw [5] (fun ti wr => ∃ i : Nat, ∃ k : Nat, ti = .int .i64 i ∧ i ≤ n ∧ wr = w.drewN k) (fun ti _ => n - (intOf ti).toNat)
  case atStart => exact ⟨0, 0, rfl, Nat.zero_le _, rfl⟩
  case round =>
    obtain ⟨i, k, rfl, hi, rfl⟩ := hrel
    by_cases hlt : i < n
    · have c1 : (i : Int) < (n : Int) := by omega
      have hc1 := h.cell i (by have := HLN.out; omega)
      have hc2 := h2.cell i (by have := HLN.out; omega)
      generalize l[i]'(by have := HLN.out; omega) = x at hc1 hc2
      go_wp2_with fail
      go_quiet (fail)
      go_wp2_with fail
      go_roundw
      case rel => exact ⟨i + 1, k + nq, by go_num, by omega, rfl⟩
      case measure => simp [intOf]; omega
    · have c1 : (n : Int) ≤ (i : Int) := by omega
      go_wp2_with fail
      go_ret
      exact ⟨rfl, k, rfl⟩
end Go.Proofs.YtaiifgmlnjgkpahDoor
