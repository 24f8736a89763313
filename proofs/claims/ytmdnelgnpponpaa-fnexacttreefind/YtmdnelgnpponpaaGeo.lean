/- The points and boxes of chapter 2: contracts of the small functions. -/
import Derived.Test.YtmdnelgnpponpaaRows
import Derived.WalkKit
import Derived.ProofKit
import Derived.Handy
import Derived.Below
import Derived.WalkSpells
import Derived.Deep.RegionHeld3
namespace Go.Proofs.Ytmdnelgnpponpaa
open Go.RowKit
set_option linter.unusedSimpArgs false
set_option linter.unusedVariables false
/-- A coordinate. -/
def cok (x : Int) : Bool := decide (-30000 ≤ x) && decide (x ≤ 30000)
def pok (x y : Int) : Bool := cok x && cok y
def bok (a b c d : Int) : Bool := cok a && cok b && cok c && cok d && decide (a ≤ c) && decide (b ≤ d)
theorem hid {p : Prop} (h : p) : Hid p := h
theorem sq : (∀ (a : Act) (d : Tmp) (v : Value), a.put (some d) v = { a with tmps := a.tmps.setIfInBounds d v }) ∧ (∀ (a : Act) (v : Value), a.put none v = a) ∧ (∀ (α : Type) (l : List α) (i : Nat) (h : i < l.toArray.size), l.toArray[i]'h = l[i]'(by simpa using h)) ∧ (∀ (α : Type) (x : α) (l : List α) (h : 0 < (x :: l).length), (x :: l)[0]'h = x) ∧ (∀ (α : Type) (x : α) (l : List α) (i : Nat) (h : i + 1 < (x :: l).length), (x :: l)[i + 1]'h = l[i]'(by simpa using h)) ∧ (∀ (α : Type) (l : List α) (i : Nat) (x : α), l.toArray.setIfInBounds i x = (l.set i x).toArray) ∧ (∀ (α : Type) (x y : α) (l : List α), (x :: l).set 0 y = y :: l) ∧ (∀ (α : Type) (x y : α) (l : List α) (i : Nat), (x :: l).set (i + 1) y = x :: l.set i y) :=
  ⟨fun _ _ _ => rfl, fun _ _ => rfl, fun _ _ _ _ => rfl, fun _ _ _ _ => rfl, fun _ _ _ _ _ => rfl, fun _ _ _ _ => List.setIfInBounds_toArray _ _ _, fun _ _ _ _ => rfl, fun _ _ _ _ _ => rfl⟩
theorem inn_calls (x a b : Int) (w : World) : Calls Try.prog 71 #[.int .i64 x, .int .i64 a, .int .i64 b] w fun e w' => e = .returned (.bool (decide (a ≤ x) && decide (x ≤ b))) ∧ w' = w := by
  by_cases h : a ≤ x
  · go_enter Try.func71, Try.ntmps71
    go_wp2
    go_ret
    exact ⟨by simp [h], rfl⟩
  · have hd : decide (a ≤ x) = false := by simpa using h
    go_enter Try.func71, Try.ntmps71
    go_wp2
    go_ret
    exact ⟨by simp, rfl⟩
theorem spec_coord (x : Int) (w : World) : Calls Try.prog 60 #[.int .i64 x] w fun e w' => e = .returned (.bool (cok x)) ∧ w' = w := by
  go_enter Try.func60, Try.ntmps60
  go_wp2_with fail
  refine (inn_calls _ _ _ _).mono ?_
  rintro e w' ⟨rfl, hw⟩
  replace hw := hw.symm
  subst hw
  go_wp2_with fail
  go_ret
  exact ⟨rfl, rfl⟩
theorem impl_coord (x : Int) (w : World) : Calls Try.prog 78 #[.int .i64 x] w fun e w' => e = .returned (.bool (cok x)) ∧ w' = w := by
  by_cases h : -30000 ≤ x
  · go_enter Try.func78, Try.ntmps78
    go_wp2
    go_ret
    exact ⟨by simp [cok, h], rfl⟩
  · have hd : decide (-30000 ≤ x) = false := by simpa using h
    go_enter Try.func78, Try.ntmps78
    go_wp2
    go_ret
    exact ⟨by simp [cok, hd], rfl⟩
theorem impl_ok (x y : Int) (w : World) : Calls Try.prog 72 #[.agg #[.int .i64 x, .int .i64 y]] w fun e w' => e = .returned (.bool (pok x y)) ∧ w' = w.alloc (.cells #[.int .i64 x, .int .i64 y] 86) := by
  go_enter Try.func72, Try.ntmps72
  go_wp2_with fail
  refine (impl_coord _ _).mono ?_
  rintro e w' ⟨rfl, hw⟩
  replace hw := hw.symm
  subst hw
  cases h : cok x
  · go_wp2_with fail
    go_ret
    exact ⟨by simp [pok, h], rfl⟩
  · go_wp2_with fail
    refine (impl_coord _ _).mono ?_
    rintro e w' ⟨rfl, hw⟩
    replace hw := hw.symm
    subst hw
    go_wp2_with fail
    go_ret
    exact ⟨by simp [pok, h], rfl⟩
theorem to_box (a b c d : Int) (w : World) : Calls Try.prog 20 #[.agg #[.int .i64 a, .int .i64 b, .int .i64 c, .int .i64 d]] w fun e w' => e = .returned (.agg #[.int .i64 a, .int .i64 b, .int .i64 c, .int .i64 d]) ∧ w' = ((w.alloc (.cells #[.int .i64 a, .int .i64 b, .int .i64 c, .int .i64 d] 23)).alloc (.cells #[.int .i64 a, .int .i64 b, .int .i64 c, .int .i64 d] 30)).alloc (.cells #[.int .i64 a, .int .i64 b, .int .i64 c, .int .i64 d] 30) := by
  go_enter Try.func20, Try.ntmps20
  go_wp2_with fail
  exact bodyPost_ret (v := .agg #[.int .i64 a, .int .i64 b, .int .i64 c, .int .i64 d]) (by simp [results, Try.results20, go_sem]) rfl ⟨rfl, rfl⟩
theorem impl_low (a b c d : Int) (w : World) : Calls Try.prog 64 #[.agg #[.int .i64 a, .int .i64 b, .int .i64 c, .int .i64 d]] w fun e w' => e = .returned (.agg #[.int .i64 a, .int .i64 b]) ∧ w' = (w.alloc (.cells #[.int .i64 a, .int .i64 b, .int .i64 c, .int .i64 d] 30)).alloc (.cells #[.int .i64 a, .int .i64 b] 86) := by
  go_enter Try.func64, Try.ntmps64
  go_wp2_with fail
  exact bodyPost_ret (v := .agg #[.int .i64 a, .int .i64 b]) (by simp [results, Try.results64, go_sem]) rfl ⟨rfl, rfl⟩
theorem impl_high (a b c d : Int) (w : World) : Calls Try.prog 65 #[.agg #[.int .i64 a, .int .i64 b, .int .i64 c, .int .i64 d]] w fun e w' => e = .returned (.agg #[.int .i64 c, .int .i64 d]) ∧ w' = (w.alloc (.cells #[.int .i64 a, .int .i64 b, .int .i64 c, .int .i64 d] 30)).alloc (.cells #[.int .i64 c, .int .i64 d] 86) := by
  go_enter Try.func65, Try.ntmps65
  go_wp2_with fail
  exact bodyPost_ret (v := .agg #[.int .i64 c, .int .i64 d]) (by simp [results, Try.results65, go_sem]) rfl ⟨rfl, rfl⟩
/-- The cells of a row of points. -/
def PtsAt (w : World) (b off : Nat) (ps : List (Int × Int)) : Prop :=
  ∀ k, k < ps.length → w.cell? ⟨b, off + k * 2, none⟩ = some (.int .i64 (ps.getD k (0, 0)).1) ∧ w.cell? ⟨b, off + k * 2 + 1, none⟩ = some (.int .i64 (ps.getD k (0, 0)).2)
def Pts (w : World) (a : Option Addr) (ps : List (Int × Int)) : Prop :=
  ps = [] ∨ ∃ b off, a = some ⟨b, off, none⟩ ∧ b < w.heap.size ∧ PtsAt w b off ps
theorem PtsAt.below {w w' : World} {b off : Nat} {ps : List (Int × Int)} (h : PtsAt w b off ps) (hb : b < w.heap.size) (H : Below w.heap.size w w') : PtsAt w' b off ps := by
  intro k hk
  obtain ⟨h1, h2⟩ := h k hk
  exact ⟨by rw [H.cell hb]; exact h1, by rw [H.cell hb]; exact h2⟩
theorem Pts.below {w w' : World} {a : Option Addr} {ps : List (Int × Int)} (h : Pts w a ps) (H : Below w.heap.size w w') : Pts w' a ps := by
  rcases h with h | ⟨b, off, rfl, hb, h⟩
  · exact .inl h
  · exact .inr ⟨b, off, rfl, Nat.lt_of_lt_of_le hb H.size, h.below hb H⟩
def allok (ps : List (Int × Int)) : Bool := ps.all fun p => pok p.1 p.2
theorem allok_no (ps : List (Int × Int)) (k : Nat) (hk : k < ps.length) (h : pok (ps.getD k (0, 0)).1 (ps.getD k (0, 0)).2 = false) : allok ps = false := by
  rw [allok, List.all_eq_false]
  refine ⟨ps.getD k (0, 0), ?_, by rw [h]; decide⟩
  rw [List.getD_eq_getElem?_getD, List.getElem?_eq_getElem hk]
  exact List.getElem_mem hk
theorem allok_yes (ps : List (Int × Int)) (h : ∀ j, j < ps.length → pok (ps.getD j (0, 0)).1 (ps.getD j (0, 0)).2 = true) : allok ps = true := by
  rw [allok, List.all_eq_true]
  intro p hp
  obtain ⟨j, hj, rfl⟩ := List.mem_iff_getElem.1 hp
  have := h j hj
  rwa [List.getD_eq_getElem?_getD, List.getElem?_eq_getElem hj] at this
theorem bel2 {B : Nat} {a w : World} (h : Below B a w) (hB : B ≤ w.heap.size) (o p : Obj) : Below B a ((w.alloc o).alloc p) := (h.alloc hB o).alloc (by simp; omega) p
theorem bel3 {B : Nat} {a w : World} (h : Below B a w) (hB : B ≤ w.heap.size) (o p q : Obj) : Below B a (((w.alloc o).alloc p).alloc q) := (bel2 h hB o p).alloc (by simp; omega) q
theorem keepcell {w w' : World} (hb : Below w.heap.size w w') {p : Addr} {v : Value} (h : w.cell? p = some v) : w'.cell? p = some v := by
  rw [hb.cell (World.block_lt_of_cell? w p h)]; exact h
theorem keepalloc {w : World} {p : Addr} {v : Value} (h : w.cell? p = some v) (o : Obj) : (w.alloc o).cell? p = some v :=
  keepcell ((Below.refl _ _).alloc (Nat.le_refl _) o) h
theorem keepdrew {w : World} {p : Addr} {v : Value} (h : w.cell? p = some v) : w.drew.cell? p = some v := h
theorem newcell (w : World) (vs : Array Value) (t : TypeId) (n k : Nat) (v : Value) (hn : n = w.heap.size) (h : vs[k]? = some v) : (w.alloc (.cells vs t)).cell? ⟨n, k, none⟩ = some v := by
  rw [World.cell?_alloc_at vs t n k hn]; exact h
theorem pts1 {w : World} {n : Nat} {a b : Int} (h0 : w.cell? ⟨n, 0, none⟩ = some (.int .i64 a)) (h1 : w.cell? ⟨n, 1, none⟩ = some (.int .i64 b)) : Pts w (some ⟨n, 0, none⟩) [(a, b)] := by
  refine .inr ⟨n, 0, rfl, World.block_lt_of_cell? w _ h0, ?_⟩
  intro k hk
  match k, hk with
  | 0, _ => exact ⟨h0, h1⟩
theorem pts2 {w : World} {n : Nat} {a b c d : Int} (h0 : w.cell? ⟨n, 0, none⟩ = some (.int .i64 a)) (h1 : w.cell? ⟨n, 1, none⟩ = some (.int .i64 b)) (h2 : w.cell? ⟨n, 2, none⟩ = some (.int .i64 c)) (h3 : w.cell? ⟨n, 3, none⟩ = some (.int .i64 d)) : Pts w (some ⟨n, 0, none⟩) [(a, b), (c, d)] := by
  refine .inr ⟨n, 0, rfl, World.block_lt_of_cell? w _ h0, ?_⟩
  intro k hk
  match k, hk with
  | 0, _ => exact ⟨h0, h1⟩
  | 1, _ => exact ⟨h2, h3⟩
theorem pts3 {w : World} {n : Nat} {a b c d e f : Int} (h0 : w.cell? ⟨n, 0, none⟩ = some (.int .i64 a)) (h1 : w.cell? ⟨n, 1, none⟩ = some (.int .i64 b)) (h2 : w.cell? ⟨n, 2, none⟩ = some (.int .i64 c)) (h3 : w.cell? ⟨n, 3, none⟩ = some (.int .i64 d)) (h4 : w.cell? ⟨n, 4, none⟩ = some (.int .i64 e)) (h5 : w.cell? ⟨n, 5, none⟩ = some (.int .i64 f)) : Pts w (some ⟨n, 0, none⟩) [(a, b), (c, d), (e, f)] := by
  refine .inr ⟨n, 0, rfl, World.block_lt_of_cell? w _ h0, ?_⟩
  intro k hk
  match k, hk with
  | 0, _ => exact ⟨h0, h1⟩
  | 1, _ => exact ⟨h2, h3⟩
  | 2, _ => exact ⟨h4, h5⟩
theorem pts4 {w : World} {n : Nat} {a b c d e f g h : Int} (h0 : w.cell? ⟨n, 0, none⟩ = some (.int .i64 a)) (h1 : w.cell? ⟨n, 1, none⟩ = some (.int .i64 b)) (h2 : w.cell? ⟨n, 2, none⟩ = some (.int .i64 c)) (h3 : w.cell? ⟨n, 3, none⟩ = some (.int .i64 d)) (h4 : w.cell? ⟨n, 4, none⟩ = some (.int .i64 e)) (h5 : w.cell? ⟨n, 5, none⟩ = some (.int .i64 f)) (h6 : w.cell? ⟨n, 6, none⟩ = some (.int .i64 g)) (h7 : w.cell? ⟨n, 7, none⟩ = some (.int .i64 h)) : Pts w (some ⟨n, 0, none⟩) [(a, b), (c, d), (e, f), (g, h)] := by
  refine .inr ⟨n, 0, rfl, World.block_lt_of_cell? w _ h0, ?_⟩
  intro k hk
  match k, hk with
  | 0, _ => exact ⟨h0, h1⟩
  | 1, _ => exact ⟨h2, h3⟩
  | 2, _ => exact ⟨h4, h5⟩
  | 3, _ => exact ⟨h6, h7⟩
theorem btrans {w a b : World} (h : Below w.heap.size w a) (k : Below a.heap.size a b) : Below w.heap.size w b := h.trans (k.mono h.size)
theorem balloc {w a : World} (h : Below w.heap.size w a) (o : Obj) : Below w.heap.size w (a.alloc o) := h.alloc h.size o
theorem bdrew {w a : World} (h : Below w.heap.size w a) : Below w.heap.size w a.drew := h.drew
set_option maxHeartbeats 400000 in
theorem impl_all (a : Option Addr) (cap : Nat) (ps : List (Int × Int)) (w : World) (hm : ps.length ≤ 1099511627776) (hc : ps.length ≤ cap) (h : Pts w a ps) : Calls Try.prog 63 #[.slice a ps.length cap] w fun e w' => e = .returned (.bool (allok ps)) ∧ Below w.heap.size w w' := by
  go_enter Try.func63, Try.ntmps63
  go_wp2_with fail
  go_loopw [7] (fun ti wr => ∃ k : Nat, ti = .int .i64 k ∧ k ≤ ps.length ∧ Below w.heap.size w wr ∧ Hid (∀ j, j < k → pok (ps.getD j (0, 0)).1 (ps.getD j (0, 0)).2 = true)) (fun ti _ => ps.length - (intOf ti).toNat)
  case atStart => exact ⟨0, rfl, Nat.zero_le _, Below.refl _ _, fun j hj => absurd hj (by omega)⟩
  case round =>
    obtain ⟨k, rfl, hk, hb, H⟩ := hrel
    by_cases hlt : k < ps.length
    · rcases h with rfl | ⟨b, off, rfl, hbs, hp⟩
      · simp at hlt
      obtain ⟨c0, c1⟩ := hp.below hbs hb k hlt
      generalize hx : (ps.getD k (0, 0)).1 = x at c0
      generalize hy : (ps.getD k (0, 0)).2 = y at c1
      have Hx := hid hx
      have Hy := hid hy
      have Hp := hid hp
      clear hx hy hp
      go_wp2_with fail
      refine (impl_ok _ _ _).mono ?_
      rintro e w' ⟨rfl, rfl⟩
      cases h : pok x y
      · go_wp2_with fail
        go_ret
        exact ⟨by rw [allok_no ps k hlt (by rw [Hx.out, Hy.out]; exact h)]; rfl, bel2 hb hb.size _ _⟩
      · go_wp2_with fail
        go_roundw
        case rel =>
          refine ⟨k + 1, by go_num, by omega, bel2 hb hb.size _ _, hid fun j hj => ?_⟩
          by_cases e : j = k
          · subst e; rw [Hx.out, Hy.out]; exact h
          · exact H.out j (by omega)
        case measure => simp [intOf]; omega
    · have hk' : k = ps.length := by omega
      go_wp2_with fail
      go_ret
      exact ⟨by rw [allok_yes ps fun j hj => H.out j (by omega)]; rfl, hb⟩
end Go.Proofs.Ytmdnelgnpponpaa
