/- The points and boxes of chapter 2: contracts of the small functions. -/
import Derived.Test.YtdhdfgobefapiaaDoorRows
import Derived.WalkKit
import Derived.ProofKit
import Derived.Handy
import Derived.Below
import Derived.WalkSpells
import Derived.Deep.RegionHeld3
namespace Go.Proofs.YtdhdfgobefapiaaDoor
open Go.RowKit
set_option linter.unusedSimpArgs false
set_option linter.unusedVariables false
theorem hid {p : Prop} (h : p) : Hid p := h
theorem sq : (∀ (a : Act) (d : Tmp) (v : Value), a.put (some d) v = { a with tmps := a.tmps.setIfInBounds d v }) ∧ (∀ (a : Act) (v : Value), a.put none v = a) ∧ (∀ (α : Type) (l : List α) (i : Nat) (h : i < l.toArray.size), l.toArray[i]'h = l[i]'(by simpa using h)) ∧ (∀ (α : Type) (x : α) (l : List α) (h : 0 < (x :: l).length), (x :: l)[0]'h = x) ∧ (∀ (α : Type) (x : α) (l : List α) (i : Nat) (h : i + 1 < (x :: l).length), (x :: l)[i + 1]'h = l[i]'(by simpa using h)) ∧ (∀ (α : Type) (l : List α) (i : Nat) (x : α), l.toArray.setIfInBounds i x = (l.set i x).toArray) ∧ (∀ (α : Type) (x y : α) (l : List α), (x :: l).set 0 y = y :: l) ∧ (∀ (α : Type) (x y : α) (l : List α) (i : Nat), (x :: l).set (i + 1) y = x :: l.set i y) :=
  ⟨fun _ _ _ => rfl, fun _ _ => rfl, fun _ _ _ _ => rfl, fun _ _ _ _ => rfl, fun _ _ _ _ _ => rfl, fun _ _ _ _ => List.setIfInBounds_toArray _ _ _, fun _ _ _ _ => rfl, fun _ _ _ _ _ => rfl⟩
theorem inn_calls (x a b : Int) (w : World) : Calls Tryd.prog 34 #[.int .i64 x, .int .i64 a, .int .i64 b] w fun e w' => e = .returned (.bool (decide (a ≤ x) && decide (x ≤ b))) ∧ w' = w := by
  by_cases h : a ≤ x
  · go_enter Tryd.func34, Tryd.ntmps34
    go_wp2
    go_ret
    exact ⟨by simp [h], rfl⟩
  · have hd : decide (a ≤ x) = false := by simpa using h
    go_enter Tryd.func34, Tryd.ntmps34
    go_wp2
    go_ret
    exact ⟨by simp, rfl⟩
theorem to_point (x y : Int) (w : World) : Calls Tryd.prog 66 #[.agg #[.int .i64 x, .int .i64 y]] w fun e w' => e = .returned (.agg #[.int .i64 x, .int .i64 y]) ∧ w' = ((w.alloc (.cells #[.int .i64 x, .int .i64 y] 138)).alloc (.cells #[.int .i64 x, .int .i64 y] 136)).alloc (.cells #[.int .i64 x, .int .i64 y] 136) := by
  go_enter Tryd.func66, Tryd.ntmps66
  go_wp2_with fail
  exact bodyPost_ret (v := .agg #[.int .i64 x, .int .i64 y]) (by simp [results, Tryd.results66, go_sem]) rfl ⟨rfl, rfl⟩
/-- The cells of a row of points. -/
def PtsAt (w : World) (b off : Nat) (ps : List (Int × Int)) : Prop :=
  ∀ k, k < ps.length → w.cell? ⟨b, off + k * 2, none⟩ = some (.int .i64 (ps.getD k (0, 0)).1) ∧ w.cell? ⟨b, off + k * 2 + 1, none⟩ = some (.int .i64 (ps.getD k (0, 0)).2)
def Pts (w : World) (a : Option Addr) (ps : List (Int × Int)) : Prop :=
  ps = [] ∨ ∃ b off, a = some ⟨b, off, none⟩ ∧ b < w.heap.size ∧ PtsAt w b off ps
theorem PtsAt.below {w w' : World} {b off : Nat} {ps : List (Int × Int)} (h : PtsAt w b off ps) (hb : b < w.heap.size) (H : Below w.heap.size w w') : PtsAt w' b off ps := by
  intro k hk
  obtain ⟨h1, h2⟩ := h k hk
  exact ⟨by rw [H.cell hb]; exact h1, by rw [H.cell hb]; exact h2⟩
theorem Pts.below {w w' : World} {a : Option Addr} {ps : List (Int × Int)} (h : Pts w a ps) (H : Below w.heap.size w w') : Pts w' a ps := by
  rcases h with h | ⟨b, off, rfl, hb, h⟩
  · exact .inl h
  · exact .inr ⟨b, off, rfl, Nat.lt_of_lt_of_le hb H.size, h.below hb H⟩
theorem keepcell {w w' : World} (hb : Below w.heap.size w w') {p : Addr} {v : Value} (h : w.cell? p = some v) : w'.cell? p = some v := by
  rw [hb.cell (World.block_lt_of_cell? w p h)]; exact h
theorem keepalloc {w : World} {p : Addr} {v : Value} (h : w.cell? p = some v) (o : Obj) : (w.alloc o).cell? p = some v :=
  keepcell ((Below.refl _ _).alloc (Nat.le_refl _) o) h
theorem keepdrew {w : World} {p : Addr} {v : Value} (h : w.cell? p = some v) : w.drew.cell? p = some v := h
theorem newcell (w : World) (vs : Array Value) (t : TypeId) (n k : Nat) (v : Value) (hn : n = w.heap.size) (h : vs[k]? = some v) : (w.alloc (.cells vs t)).cell? ⟨n, k, none⟩ = some v := by
  rw [World.cell?_alloc_at vs t n k hn]; exact h
theorem btrans {w a b : World} (h : Below w.heap.size w a) (k : Below a.heap.size a b) : Below w.heap.size w b := h.trans (k.mono h.size)
theorem balloc {w a : World} (h : Below w.heap.size w a) (o : Obj) : Below w.heap.size w (a.alloc o) := h.alloc h.size o
theorem bdrew {w a : World} (h : Below w.heap.size w a) : Below w.heap.size w a.drew := h.drew
end Go.Proofs.YtdhdfgobefapiaaDoor
