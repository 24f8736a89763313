/- The points and boxes of chapter 2: contracts of the small functions. -/
import Derived.Test.YtaceibffgoaflaaRows
import Derived.WalkKit
import Derived.ProofKit
import Derived.Handy
import Derived.Below
import Derived.WalkSpells
import Derived.Deep.RegionHeld3
namespace Go.Proofs.Ytaceibffgoaflaa
open Go.RowKit
set_option linter.unusedSimpArgs false
set_option linter.unusedVariables false
/-- A coordinate. -/
def cok (x : Int) : Bool := decide (-30000 ≤ x) && decide (x ≤ 30000)
def pok (x y : Int) : Bool := cok x && cok y
def bok (a b c d : Int) : Bool := cok a && cok b && cok c && cok d && decide (a ≤ c) && decide (b ≤ d)
theorem hid {p : Prop} (h : p) : Hid p := h
theorem sq : (∀ (a : Act) (d : Tmp) (v : Value), a.put (some d) v = { a with tmps := a.tmps.setIfInBounds d v }) ∧ (∀ (a : Act) (v : Value), a.put none v = a) ∧ (∀ (α : Type) (l : List α) (i : Nat) (h : i < l.toArray.size), l.toArray[i]'h = l[i]'(by simpa using h)) ∧ (∀ (α : Type) (x : α) (l : List α) (h : 0 < (x :: l).length), (x :: l)[0]'h = x) ∧ (∀ (α : Type) (x : α) (l : List α) (i : Nat) (h : i + 1 < (x :: l).length), (x :: l)[i + 1]'h = l[i]'(by simpa using h)) ∧ (∀ (α : Type) (l : List α) (i : Nat) (x : α), l.toArray.setIfInBounds i x = (l.set i x).toArray) ∧ (∀ (α : Type) (x y : α) (l : List α), (x :: l).set 0 y = y :: l) ∧ (∀ (α : Type) (x y : α) (l : List α) (i : Nat), (x :: l).set (i + 1) y = x :: l.set i y) :=
  ⟨fun _ _ _ => rfl, fun _ _ => rfl, fun _ _ _ _ => rfl, fun _ _ _ _ => rfl, fun _ _ _ _ _ => rfl, fun _ _ _ _ => List.setIfInBounds_toArray _ _ _, fun _ _ _ _ => rfl, fun _ _ _ _ _ => rfl⟩
theorem inn_calls (x a b : Int) (w : World) : Calls Try.prog 9 #[.int .i64 x, .int .i64 a, .int .i64 b] w fun e w' => e = .returned (.bool (decide (a ≤ x) && decide (x ≤ b))) ∧ w' = w := by
  by_cases h : a ≤ x
  · go_enter Try.func9, Try.ntmps9
    go_wp2
    go_ret
    exact ⟨by simp [h], rfl⟩
  · have hd : decide (a ≤ x) = false := by simpa using h
    go_enter Try.func9, Try.ntmps9
    go_wp2
    go_ret
    exact ⟨by simp, rfl⟩
/-- The cells of a row of points. -/
def PtsAt (w : World) (b off : Nat) (ps : List (Int × Int)) : Prop :=
  ∀ k, k < ps.length → w.cell? ⟨b, off + k * 2, none⟩ = some (.int .i64 (ps.getD k (0, 0)).1) ∧ w.cell? ⟨b, off + k * 2 + 1, none⟩ = some (.int .i64 (ps.getD k (0, 0)).2)
def Pts (w : World) (a : Option Addr) (ps : List (Int × Int)) : Prop :=
  ps = [] ∨ ∃ b off, a = some ⟨b, off, none⟩ ∧ b < w.heap.size ∧ PtsAt w b off ps
theorem PtsAt.below {w w' : World} {b off : Nat} {ps : List (Int × Int)} (h : PtsAt w b off ps) (hb : b < w.heap.size) (H : Below w.heap.size w w') : PtsAt w' b off ps := by
  intro k hk
  obtain ⟨h1, h2⟩ := h k hk
  exact ⟨by rw [H.cell hb]; exact h1, by rw [H.cell hb]; exact h2⟩
theorem Pts.below {w w' : World} {a : Option Addr} {ps : List (Int × Int)} (h : Pts w a ps) (H : Below w.heap.size w w') : Pts w' a ps := by
  rcases h with h | ⟨b, off, rfl, hb, h⟩
  · exact .inl h
  · exact .inr ⟨b, off, rfl, Nat.lt_of_lt_of_le hb H.size, h.below hb H⟩
def allok (ps : List (Int × Int)) : Bool := ps.all fun p => pok p.1 p.2
theorem allok_no (ps : List (Int × Int)) (k : Nat) (hk : k < ps.length) (h : pok (ps.getD k (0, 0)).1 (ps.getD k (0, 0)).2 = false) : allok ps = false := by
  rw [allok, List.all_eq_false]
  refine ⟨ps.getD k (0, 0), ?_, by rw [h]; decide⟩
  rw [List.getD_eq_getElem?_getD, List.getElem?_eq_getElem hk]
  exact List.getElem_mem hk
theorem allok_yes (ps : List (Int × Int)) (h : ∀ j, j < ps.length → pok (ps.getD j (0, 0)).1 (ps.getD j (0, 0)).2 = true) : allok ps = true := by
  rw [allok, List.all_eq_true]
  intro p hp
  obtain ⟨j, hj, rfl⟩ := List.mem_iff_getElem.1 hp
  have := h j hj
  rwa [List.getD_eq_getElem?_getD, List.getElem?_eq_getElem hj] at this
theorem bel2 {B : Nat} {a w : World} (h : Below B a w) (hB : B ≤ w.heap.size) (o p : Obj) : Below B a ((w.alloc o).alloc p) := (h.alloc hB o).alloc (by simp; omega) p
theorem bel3 {B : Nat} {a w : World} (h : Below B a w) (hB : B ≤ w.heap.size) (o p q : Obj) : Below B a (((w.alloc o).alloc p).alloc q) := (bel2 h hB o p).alloc (by simp; omega) q
theorem keepcell {w w' : World} (hb : Below w.heap.size w w') {p : Addr} {v : Value} (h : w.cell? p = some v) : w'.cell? p = some v := by
  rw [hb.cell (World.block_lt_of_cell? w p h)]; exact h
theorem keepalloc {w : World} {p : Addr} {v : Value} (h : w.cell? p = some v) (o : Obj) : (w.alloc o).cell? p = some v :=
  keepcell ((Below.refl _ _).alloc (Nat.le_refl _) o) h
theorem keepdrew {w : World} {p : Addr} {v : Value} (h : w.cell? p = some v) : w.drew.cell? p = some v := h
theorem newcell (w : World) (vs : Array Value) (t : TypeId) (n k : Nat) (v : Value) (hn : n = w.heap.size) (h : vs[k]? = some v) : (w.alloc (.cells vs t)).cell? ⟨n, k, none⟩ = some v := by
  rw [World.cell?_alloc_at vs t n k hn]; exact h
theorem pts1 {w : World} {n : Nat} {a b : Int} (h0 : w.cell? ⟨n, 0, none⟩ = some (.int .i64 a)) (h1 : w.cell? ⟨n, 1, none⟩ = some (.int .i64 b)) : Pts w (some ⟨n, 0, none⟩) [(a, b)] := by
  refine .inr ⟨n, 0, rfl, World.block_lt_of_cell? w _ h0, ?_⟩
  intro k hk
  match k, hk with
  | 0, _ => exact ⟨h0, h1⟩
theorem pts2 {w : World} {n : Nat} {a b c d : Int} (h0 : w.cell? ⟨n, 0, none⟩ = some (.int .i64 a)) (h1 : w.cell? ⟨n, 1, none⟩ = some (.int .i64 b)) (h2 : w.cell? ⟨n, 2, none⟩ = some (.int .i64 c)) (h3 : w.cell? ⟨n, 3, none⟩ = some (.int .i64 d)) : Pts w (some ⟨n, 0, none⟩) [(a, b), (c, d)] := by
  refine .inr ⟨n, 0, rfl, World.block_lt_of_cell? w _ h0, ?_⟩
  intro k hk
  match k, hk with
  | 0, _ => exact ⟨h0, h1⟩
  | 1, _ => exact ⟨h2, h3⟩
theorem pts3 {w : World} {n : Nat} {a b c d e f : Int} (h0 : w.cell? ⟨n, 0, none⟩ = some (.int .i64 a)) (h1 : w.cell? ⟨n, 1, none⟩ = some (.int .i64 b)) (h2 : w.cell? ⟨n, 2, none⟩ = some (.int .i64 c)) (h3 : w.cell? ⟨n, 3, none⟩ = some (.int .i64 d)) (h4 : w.cell? ⟨n, 4, none⟩ = some (.int .i64 e)) (h5 : w.cell? ⟨n, 5, none⟩ = some (.int .i64 f)) : Pts w (some ⟨n, 0, none⟩) [(a, b), (c, d), (e, f)] := by
  refine .inr ⟨n, 0, rfl, World.block_lt_of_cell? w _ h0, ?_⟩
  intro k hk
  match k, hk with
  | 0, _ => exact ⟨h0, h1⟩
  | 1, _ => exact ⟨h2, h3⟩
  | 2, _ => exact ⟨h4, h5⟩
theorem pts4 {w : World} {n : Nat} {a b c d e f g h : Int} (h0 : w.cell? ⟨n, 0, none⟩ = some (.int .i64 a)) (h1 : w.cell? ⟨n, 1, none⟩ = some (.int .i64 b)) (h2 : w.cell? ⟨n, 2, none⟩ = some (.int .i64 c)) (h3 : w.cell? ⟨n, 3, none⟩ = some (.int .i64 d)) (h4 : w.cell? ⟨n, 4, none⟩ = some (.int .i64 e)) (h5 : w.cell? ⟨n, 5, none⟩ = some (.int .i64 f)) (h6 : w.cell? ⟨n, 6, none⟩ = some (.int .i64 g)) (h7 : w.cell? ⟨n, 7, none⟩ = some (.int .i64 h)) : Pts w (some ⟨n, 0, none⟩) [(a, b), (c, d), (e, f), (g, h)] := by
  refine .inr ⟨n, 0, rfl, World.block_lt_of_cell? w _ h0, ?_⟩
  intro k hk
  match k, hk with
  | 0, _ => exact ⟨h0, h1⟩
  | 1, _ => exact ⟨h2, h3⟩
  | 2, _ => exact ⟨h4, h5⟩
  | 3, _ => exact ⟨h6, h7⟩
theorem btrans {w a b : World} (h : Below w.heap.size w a) (k : Below a.heap.size a b) : Below w.heap.size w b := h.trans (k.mono h.size)
theorem balloc {w a : World} (h : Below w.heap.size w a) (o : Obj) : Below w.heap.size w (a.alloc o) := h.alloc h.size o
theorem bdrew {w a : World} (h : Below w.heap.size w a) : Below w.heap.size w a.drew := h.drew
end Go.Proofs.Ytaceibffgoaflaa
