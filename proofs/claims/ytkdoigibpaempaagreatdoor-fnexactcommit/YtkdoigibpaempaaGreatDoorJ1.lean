/- Texts of stores, joined: Geo, Pts, Pts2. -/
import Derived.Test.YtkdoigibpaempaaGreatDoorRows
import Derived.WalkKit
import Derived.ProofKit
import Derived.Handy
import Derived.Below
import Derived.WalkSpells
import Derived.Deep.RegionHeld3
import Derived.Laws.MakeOwn
import Derived.Deep.MidRow
set_option linter.unusedSimpArgs false
set_option linter.unusedVariables false
namespace Go.Proofs.YtkdoigibpaempaaGreatDoor
open Go.RowKit
def cok (x : Int) : Bool := decide (-30000 ≤ x) && decide (x ≤ 30000)
def pok (x y : Int) : Bool := cok x && cok y
def bok (a b c d : Int) : Bool := cok a && cok b && cok c && cok d && decide (a ≤ c) && decide (b ≤ d)
theorem hid {p : Prop} (h : p) : Hid p := h
theorem sq : (∀ (a : Act) (d : Tmp) (v : Value), a.put (some d) v = { a with tmps := a.tmps.setIfInBounds d v }) ∧ (∀ (a : Act) (v : Value), a.put none v = a) ∧ (∀ (α : Type) (l : List α) (i : Nat) (h : i < l.toArray.size), l.toArray[i]'h = l[i]'(by simpa using h)) ∧ (∀ (α : Type) (x : α) (l : List α) (h : 0 < (x :: l).length), (x :: l)[0]'h = x) ∧ (∀ (α : Type) (x : α) (l : List α) (i : Nat) (h : i + 1 < (x :: l).length), (x :: l)[i + 1]'h = l[i]'(by simpa using h)) ∧ (∀ (α : Type) (l : List α) (i : Nat) (x : α), l.toArray.setIfInBounds i x = (l.set i x).toArray) ∧ (∀ (α : Type) (x y : α) (l : List α), (x :: l).set 0 y = y :: l) ∧ (∀ (α : Type) (x y : α) (l : List α) (i : Nat), (x :: l).set (i + 1) y = x :: l.set i y) :=
  ⟨fun _ _ _ => rfl, fun _ _ => rfl, fun _ _ _ _ => rfl, fun _ _ _ _ => rfl, fun _ _ _ _ _ => rfl, fun _ _ _ _ => List.setIfInBounds_toArray _ _ _, fun _ _ _ _ => rfl, fun _ _ _ _ _ => rfl⟩
theorem inn_calls (x a b : Int) (w : World) : Calls Tryz.prog 32 #[.int .i64 x, .int .i64 a, .int .i64 b] w fun e w' => e = .returned (.bool (decide (a ≤ x) && decide (x ≤ b))) ∧ w' = w := by
  by_cases h : a ≤ x
  · go_enter Tryz.func32, Tryz.ntmps32
    go_wp2
    go_ret
    exact ⟨by simp [h], rfl⟩
  · have hd : decide (a ≤ x) = false := by simpa using h
    go_enter Tryz.func32, Tryz.ntmps32
    go_wp2
    go_ret
    exact ⟨by simp, rfl⟩
theorem spec_coord (x : Int) (w : World) : Calls Tryz.prog 126 #[.int .i64 x] w fun e w' => e = .returned (.bool (cok x)) ∧ w' = w := by
  go_enter Tryz.func126, Tryz.ntmps126
  go_wp2_with fail
  refine (inn_calls _ _ _ _).mono ?_
  rintro e w' ⟨rfl, hw⟩
  replace hw := hw.symm
  subst hw
  go_wp2_with fail
  go_ret
  exact ⟨rfl, rfl⟩
theorem impl_coord (x : Int) (w : World) : Calls Tryz.prog 221 #[.int .i64 x] w fun e w' => e = .returned (.bool (cok x)) ∧ w' = w := by
  by_cases h : -30000 ≤ x
  · go_enter Tryz.func221, Tryz.ntmps221
    go_wp2
    go_ret
    exact ⟨by simp [cok, h], rfl⟩
  · have hd : decide (-30000 ≤ x) = false := by simpa using h
    go_enter Tryz.func221, Tryz.ntmps221
    go_wp2
    go_ret
    exact ⟨by simp [cok, hd], rfl⟩
theorem impl_ok (x y : Int) (w : World) : Calls Tryz.prog 203 #[.agg #[.int .i64 x, .int .i64 y]] w fun e w' => e = .returned (.bool (pok x y)) ∧ w' = w.alloc (.cells #[.int .i64 x, .int .i64 y] 137) := by
  go_enter Tryz.func203, Tryz.ntmps203
  go_wp2_with fail
  refine (impl_coord _ _).mono ?_
  rintro e w' ⟨rfl, hw⟩
  replace hw := hw.symm
  subst hw
  cases h : cok x
  · go_wp2_with fail
    go_ret
    exact ⟨by simp [pok, h], rfl⟩
  · go_wp2_with fail
    refine (impl_coord _ _).mono ?_
    rintro e w' ⟨rfl, hw⟩
    replace hw := hw.symm
    subst hw
    go_wp2_with fail
    go_ret
    exact ⟨by simp [pok, h], rfl⟩
theorem spec_pointok (x y : Int) (w : World) : Calls Tryz.prog 106 #[.agg #[.int .i64 x, .int .i64 y]] w fun e w' => e = .returned (.bool (pok x y)) ∧ w' = w.alloc (.cells #[.int .i64 x, .int .i64 y] 137) := by
  go_enter Tryz.func106, Tryz.ntmps106
  go_wp2_with fail
  refine (spec_coord _ _).mono ?_
  rintro e w' ⟨rfl, hw⟩
  replace hw := hw.symm
  subst hw
  cases h : cok x
  · go_wp2_with fail
    go_ret
    exact ⟨by simp [pok, h], rfl⟩
  · go_wp2_with fail
    refine (spec_coord _ _).mono ?_
    rintro e w' ⟨rfl, hw⟩
    replace hw := hw.symm
    subst hw
    go_wp2_with fail
    go_ret
    exact ⟨by simp [pok, h], rfl⟩
theorem to_point (x y : Int) (w : World) : Calls Tryz.prog 131 #[.agg #[.int .i64 x, .int .i64 y]] w fun e w' => e = .returned (.agg #[.int .i64 x, .int .i64 y]) ∧ w' = ((w.alloc (.cells #[.int .i64 x, .int .i64 y] 205)).alloc (.cells #[.int .i64 x, .int .i64 y] 137)).alloc (.cells #[.int .i64 x, .int .i64 y] 137) := by
  go_enter Tryz.func131, Tryz.ntmps131
  go_wp2_with fail
  exact bodyPost_ret (v := .agg #[.int .i64 x, .int .i64 y]) (by simp [results, Tryz.results131, go_sem]) rfl ⟨rfl, rfl⟩
theorem impl_low (a b c d : Int) (w : World) : Calls Tryz.prog 229 #[.agg #[.int .i64 a, .int .i64 b, .int .i64 c, .int .i64 d]] w fun e w' => e = .returned (.agg #[.int .i64 a, .int .i64 b]) ∧ w' = (w.alloc (.cells #[.int .i64 a, .int .i64 b, .int .i64 c, .int .i64 d] 282)).alloc (.cells #[.int .i64 a, .int .i64 b] 137) := by
  go_enter Tryz.func229, Tryz.ntmps229
  go_wp2_with fail
  exact bodyPost_ret (v := .agg #[.int .i64 a, .int .i64 b]) (by simp [results, Tryz.results229, go_sem]) rfl ⟨rfl, rfl⟩
theorem impl_high (a b c d : Int) (w : World) : Calls Tryz.prog 230 #[.agg #[.int .i64 a, .int .i64 b, .int .i64 c, .int .i64 d]] w fun e w' => e = .returned (.agg #[.int .i64 c, .int .i64 d]) ∧ w' = (w.alloc (.cells #[.int .i64 a, .int .i64 b, .int .i64 c, .int .i64 d] 282)).alloc (.cells #[.int .i64 c, .int .i64 d] 137) := by
  go_enter Tryz.func230, Tryz.ntmps230
  go_wp2_with fail
  exact bodyPost_ret (v := .agg #[.int .i64 c, .int .i64 d]) (by simp [results, Tryz.results230, go_sem]) rfl ⟨rfl, rfl⟩
def PtsAt (w : World) (b off : Nat) (ps : List (Int × Int)) : Prop :=
  ∀ k, k < ps.length → w.cell? ⟨b, off + k * 2, none⟩ = some (.int .i64 (ps.getD k (0, 0)).1) ∧ w.cell? ⟨b, off + k * 2 + 1, none⟩ = some (.int .i64 (ps.getD k (0, 0)).2)
def Pts (w : World) (a : Option Addr) (ps : List (Int × Int)) : Prop :=
  ps = [] ∨ ∃ b off, a = some ⟨b, off, none⟩ ∧ b < w.heap.size ∧ PtsAt w b off ps
theorem PtsAt.below {w w' : World} {b off : Nat} {ps : List (Int × Int)} (h : PtsAt w b off ps) (hb : b < w.heap.size) (H : Below w.heap.size w w') : PtsAt w' b off ps := by
  intro k hk
  obtain ⟨h1, h2⟩ := h k hk
  exact ⟨by rw [H.cell hb]; exact h1, by rw [H.cell hb]; exact h2⟩
theorem Pts.below {w w' : World} {a : Option Addr} {ps : List (Int × Int)} (h : Pts w a ps) (H : Below w.heap.size w w') : Pts w' a ps := by
  rcases h with h | ⟨b, off, rfl, hb, h⟩
  · exact .inl h
  · exact .inr ⟨b, off, rfl, Nat.lt_of_lt_of_le hb H.size, h.below hb H⟩
def allok (ps : List (Int × Int)) : Bool := ps.all fun p => pok p.1 p.2
theorem allok_no (ps : List (Int × Int)) (k : Nat) (hk : k < ps.length) (h : pok (ps.getD k (0, 0)).1 (ps.getD k (0, 0)).2 = false) : allok ps = false := by
  rw [allok, List.all_eq_false]
  refine ⟨ps.getD k (0, 0), ?_, by rw [h]; decide⟩
  rw [List.getD_eq_getElem?_getD, List.getElem?_eq_getElem hk]
  exact List.getElem_mem hk
theorem allok_yes (ps : List (Int × Int)) (h : ∀ j, j < ps.length → pok (ps.getD j (0, 0)).1 (ps.getD j (0, 0)).2 = true) : allok ps = true := by
  rw [allok, List.all_eq_true]
  intro p hp
  obtain ⟨j, hj, rfl⟩ := List.mem_iff_getElem.1 hp
  have := h j hj
  rwa [List.getD_eq_getElem?_getD, List.getElem?_eq_getElem hj] at this
theorem bel2 {B : Nat} {a w : World} (h : Below B a w) (hB : B ≤ w.heap.size) (o p : Obj) : Below B a ((w.alloc o).alloc p) := (h.alloc hB o).alloc (by simp; omega) p
theorem keepcell {w w' : World} (hb : Below w.heap.size w w') {p : Addr} {v : Value} (h : w.cell? p = some v) : w'.cell? p = some v := by
  rw [hb.cell (World.block_lt_of_cell? w p h)]; exact h
theorem keepalloc {w : World} {p : Addr} {v : Value} (h : w.cell? p = some v) (o : Obj) : (w.alloc o).cell? p = some v :=
  keepcell ((Below.refl _ _).alloc (Nat.le_refl _) o) h
theorem keepdrew {w : World} {p : Addr} {v : Value} (h : w.cell? p = some v) : w.drew.cell? p = some v := h
theorem newcell (w : World) (vs : Array Value) (t : TypeId) (n k : Nat) (v : Value) (hn : n = w.heap.size) (h : vs[k]? = some v) : (w.alloc (.cells vs t)).cell? ⟨n, k, none⟩ = some v := by
  rw [World.cell?_alloc_at vs t n k hn]; exact h
theorem pts1 {w : World} {n : Nat} {a b : Int} (h0 : w.cell? ⟨n, 0, none⟩ = some (.int .i64 a)) (h1 : w.cell? ⟨n, 1, none⟩ = some (.int .i64 b)) : Pts w (some ⟨n, 0, none⟩) [(a, b)] := by
  refine .inr ⟨n, 0, rfl, World.block_lt_of_cell? w _ h0, ?_⟩
  intro k hk
  match k, hk with
  | 0, _ => exact ⟨h0, h1⟩
theorem pts2 {w : World} {n : Nat} {a b c d : Int} (h0 : w.cell? ⟨n, 0, none⟩ = some (.int .i64 a)) (h1 : w.cell? ⟨n, 1, none⟩ = some (.int .i64 b)) (h2 : w.cell? ⟨n, 2, none⟩ = some (.int .i64 c)) (h3 : w.cell? ⟨n, 3, none⟩ = some (.int .i64 d)) : Pts w (some ⟨n, 0, none⟩) [(a, b), (c, d)] := by
  refine .inr ⟨n, 0, rfl, World.block_lt_of_cell? w _ h0, ?_⟩
  intro k hk
  match k, hk with
  | 0, _ => exact ⟨h0, h1⟩
  | 1, _ => exact ⟨h2, h3⟩
theorem pts3 {w : World} {n : Nat} {a b c d e f : Int} (h0 : w.cell? ⟨n, 0, none⟩ = some (.int .i64 a)) (h1 : w.cell? ⟨n, 1, none⟩ = some (.int .i64 b)) (h2 : w.cell? ⟨n, 2, none⟩ = some (.int .i64 c)) (h3 : w.cell? ⟨n, 3, none⟩ = some (.int .i64 d)) (h4 : w.cell? ⟨n, 4, none⟩ = some (.int .i64 e)) (h5 : w.cell? ⟨n, 5, none⟩ = some (.int .i64 f)) : Pts w (some ⟨n, 0, none⟩) [(a, b), (c, d), (e, f)] := by
  refine .inr ⟨n, 0, rfl, World.block_lt_of_cell? w _ h0, ?_⟩
  intro k hk
  match k, hk with
  | 0, _ => exact ⟨h0, h1⟩
  | 1, _ => exact ⟨h2, h3⟩
  | 2, _ => exact ⟨h4, h5⟩
theorem pts4 {w : World} {n : Nat} {a b c d e f g h : Int} (h0 : w.cell? ⟨n, 0, none⟩ = some (.int .i64 a)) (h1 : w.cell? ⟨n, 1, none⟩ = some (.int .i64 b)) (h2 : w.cell? ⟨n, 2, none⟩ = some (.int .i64 c)) (h3 : w.cell? ⟨n, 3, none⟩ = some (.int .i64 d)) (h4 : w.cell? ⟨n, 4, none⟩ = some (.int .i64 e)) (h5 : w.cell? ⟨n, 5, none⟩ = some (.int .i64 f)) (h6 : w.cell? ⟨n, 6, none⟩ = some (.int .i64 g)) (h7 : w.cell? ⟨n, 7, none⟩ = some (.int .i64 h)) : Pts w (some ⟨n, 0, none⟩) [(a, b), (c, d), (e, f), (g, h)] := by
  refine .inr ⟨n, 0, rfl, World.block_lt_of_cell? w _ h0, ?_⟩
  intro k hk
  match k, hk with
  | 0, _ => exact ⟨h0, h1⟩
  | 1, _ => exact ⟨h2, h3⟩
  | 2, _ => exact ⟨h4, h5⟩
  | 3, _ => exact ⟨h6, h7⟩
theorem btrans {w a b : World} (h : Below w.heap.size w a) (k : Below a.heap.size a b) : Below w.heap.size w b := h.trans (k.mono h.size)
theorem balloc {w a : World} (h : Below w.heap.size w a) (o : Obj) : Below w.heap.size w (a.alloc o) := h.alloc h.size o
theorem bdrew {w a : World} (h : Below w.heap.size w a) : Below w.heap.size w a.drew := h.drew
set_option maxHeartbeats 400000 in
theorem impl_all (a : Option Addr) (cap : Nat) (ps : List (Int × Int)) (w : World) (hm : ps.length ≤ 1099511627776) (hc : ps.length ≤ cap) (h : Pts w a ps) : Calls Tryz.prog 224 #[.slice a ps.length cap] w fun e w' => e = .returned (.bool (allok ps)) ∧ Below w.heap.size w w' := by
  go_enter Tryz.func224, Tryz.ntmps224
  go_wp2_with fail
  go_loopw [7] (fun ti wr => ∃ k : Nat, ti = .int .i64 k ∧ k ≤ ps.length ∧ Below w.heap.size w wr ∧ Hid (∀ j, j < k → pok (ps.getD j (0, 0)).1 (ps.getD j (0, 0)).2 = true)) (fun ti _ => ps.length - (intOf ti).toNat)
  case atStart => exact ⟨0, rfl, Nat.zero_le _, Below.refl _ _, fun j hj => absurd hj (by omega)⟩
  case round =>
    obtain ⟨k, rfl, hk, hb, H⟩ := hrel
    by_cases hlt : k < ps.length
    · rcases h with rfl | ⟨b, off, rfl, hbs, hp⟩
      · simp at hlt
      obtain ⟨c0, c1⟩ := hp.below hbs hb k hlt
      generalize hx : (ps.getD k (0, 0)).1 = x at c0
      generalize hy : (ps.getD k (0, 0)).2 = y at c1
      have Hx := hid hx
      have Hy := hid hy
      have Hp := hid hp
      clear hx hy hp
      go_wp2_with fail
      refine (impl_ok _ _ _).mono ?_
      rintro e w' ⟨rfl, rfl⟩
      cases h : pok x y
      · go_wp2_with fail
        go_ret
        exact ⟨by rw [allok_no ps k hlt (by rw [Hx.out, Hy.out]; exact h)]; rfl, bel2 hb hb.size _ _⟩
      · go_wp2_with fail
        go_roundw
        case rel =>
          refine ⟨k + 1, by go_num, by omega, bel2 hb hb.size _ _, hid fun j hj => ?_⟩
          by_cases e : j = k
          · subst e; rw [Hx.out, Hy.out]; exact h
          · exact H.out j (by omega)
        case measure => simp [intOf]; omega
    · have hk' : k = ps.length := by omega
      go_wp2_with fail
      go_ret
      exact ⟨by rw [allok_yes ps fun j hj => H.out j (by omega)]; rfl, hb⟩
set_option maxHeartbeats 400000 in
theorem spec_all (a : Option Addr) (cap : Nat) (ps : List (Int × Int)) (w : World) (hm : ps.length ≤ 1099511627776) (hc : ps.length ≤ cap) (h : Pts w a ps) : Calls Tryz.prog 79 #[.slice a ps.length cap] w fun e w' => e = .returned (.bool (allok ps)) ∧ Below w.heap.size w w' := by
  go_enter Tryz.func79, Tryz.ntmps79
  go_wp2_with fail
  go_loopw [3] (fun ti wr => ∃ k : Nat, ti = .int .i64 k ∧ k ≤ ps.length ∧ Below w.heap.size w wr ∧ Hid (∀ j, j < k → pok (ps.getD j (0, 0)).1 (ps.getD j (0, 0)).2 = true)) (fun ti _ => ps.length - (intOf ti).toNat)
  case atStart => exact ⟨0, rfl, Nat.zero_le _, Below.refl _ _, fun j hj => absurd hj (by omega)⟩
  case round =>
    obtain ⟨k, rfl, hk, hb, H⟩ := hrel
    by_cases hlt : k < ps.length
    · rcases h with rfl | ⟨b, off, rfl, hbs, hp⟩
      · simp at hlt
      obtain ⟨c0, c1⟩ := hp.below hbs hb k hlt
      generalize hx : (ps.getD k (0, 0)).1 = x at c0
      generalize hy : (ps.getD k (0, 0)).2 = y at c1
      have Hx := hid hx
      have Hy := hid hy
      have Hp := hid hp
      clear hx hy hp
      go_wp2_with fail
      refine (spec_pointok _ _ _).mono ?_
      rintro e w' ⟨rfl, rfl⟩
      cases h : pok x y
      · go_wp2_with fail
        go_ret
        exact ⟨by rw [allok_no ps k hlt (by rw [Hx.out, Hy.out]; exact h)]; rfl, hb.alloc hb.size _⟩
      · go_wp2_with fail
        go_roundw
        case rel =>
          refine ⟨k + 1, by go_num, by omega, hb.alloc hb.size _, hid fun j hj => ?_⟩
          by_cases e : j = k
          · subst e; rw [Hx.out, Hy.out]; exact h
          · exact H.out j (by omega)
        case measure => simp [intOf]; omega
    · have hk' : k = ps.length := by omega
      go_wp2_with fail
      go_ret
      exact ⟨by rw [allok_yes ps fun j hj => H.out j (by omega)]; rfl, hb⟩
end Go.Proofs.YtkdoigibpaempaaGreatDoor
namespace Go.Proofs.YtkdoigibpaempaaGreatDoor
open Go.RowKit
theorem to_point_b (x y : Int) (w : World) : Calls Tryz.prog 131 #[.agg #[.int .i64 x, .int .i64 y]] w fun e w' => e = .returned (.agg #[.int .i64 x, .int .i64 y]) ∧ Below w.heap.size w w' :=
  (to_point x y w).mono fun e w' ⟨h1, h2⟩ => ⟨h1, by subst h2; exact balloc (balloc (balloc (Below.refl _ _) _) _) _⟩
def PtsOwn (w : World) (b : Nat) (ps : List (Int × Int)) : Prop := b < w.heap.size ∧ PtsAt w b 0 ps ∧ w.there b 0 (ps.length * 2)
theorem PtsOwn.pts {w : World} {b : Nat} {ps : List (Int × Int)} (h : PtsOwn w b ps) : Pts w (some ⟨b, 0, none⟩) ps := .inr ⟨b, 0, rfl, h.1, h.2.1⟩
theorem there_below {w w' : World} {b n : Nat} (h : w.there b 0 n) (hb : b < w.heap.size) (H : Below w.heap.size w w') : w'.there b 0 n := by
  intro j hj
  obtain ⟨h1, h2⟩ := h j hj
  exact ⟨by rw [H.cell hb]; exact h1, by rw [H.frozen hb]; exact h2⟩
theorem PtsOwn.below {w w' : World} {b : Nat} {ps : List (Int × Int)} (h : PtsOwn w b ps) (H : Below w.heap.size w w') : PtsOwn w' b ps :=
  ⟨Nat.lt_of_lt_of_le h.1 H.size, h.2.1.below h.1 H, there_below h.2.2 h.1 H⟩
def PtsIn (w : World) (a : Option Addr) (cap : Nat) (ps : List (Int × Int)) : Prop := Pts w a ps ∧ ps.length ≤ cap ∧ cap ≤ 9223372036854775807
theorem ptsIn_nil (w : World) (a : Option Addr) : PtsIn w a 0 [] := ⟨.inl rfl, Nat.le_refl _, by omega⟩
theorem ptsIn_of {W : World} {a : Addr} {len cap : Nat} (hl : len ≤ cap) (hm : cap ≤ maxLen)
    (hall : ∀ j, j < len → ∃ z0 z1, W.cell? (a.add (j * 2)) = some (.int .i64 z0) ∧ W.cell? (a.add (j * 2 + 1)) = some (.int .i64 z1) ∧ (Lit.int .i64 z0).wf = true ∧ (Lit.int .i64 z1).wf = true) :
    ∃ ps : List (Int × Int), len = ps.length ∧ PtsIn W (some a) cap ps := by
  have hm' : cap ≤ 9223372036854775807 := by simpa [maxLen] using hm
  have hex : ∀ j, ∃ z : Int × Int, j < len → W.cell? (a.add (j * 2)) = some (.int .i64 z.1) ∧ W.cell? (a.add (j * 2 + 1)) = some (.int .i64 z.2) := by
    intro j
    by_cases hj : j < len
    · obtain ⟨z0, z1, h1, h2, _, _⟩ := hall j hj
      exact ⟨(z0, z1), fun _ => ⟨h1, h2⟩⟩
    · exact ⟨(0, 0), fun h => absurd h hj⟩
  obtain ⟨f, hf⟩ := Classical.axiomOfChoice hex
  refine ⟨(List.range len).map f, by simp, ?_, by simpa using hl, hm'⟩
  rcases Nat.eq_zero_or_pos len with h0 | h0
  · subst h0; exact .inl rfl
  have h00 := (hf 0 h0).1
  have hspot : a.spot = none := by
    simp only [Nat.zero_mul, Addr.add, if_true] at h00
    unfold World.cell? at h00
    split at h00
    · split at h00
      · cases h00
      · rename_i q; simpa using q
    · cases h00
  have ha : ∀ j, a.add j = ⟨a.block, a.off + j, none⟩ := by
    intro j
    obtain ⟨b, o, s⟩ := a
    simp only at hspot
    subst hspot
    exact Addr.add_mid b o j
  refine .inr ⟨a.block, a.off, by rw [← hspot], ?_, ?_⟩
  · have := World.block_lt_of_cell? W _ h00
    rw [ha] at this
    exact this
  · intro k hk
    simp only [List.length_map, List.length_range] at hk
    obtain ⟨h1, h2⟩ := hf k hk
    rw [ha] at h1 h2
    have g : ((List.range len).map f).getD k (0, 0) = f k := by
      simp [List.getD_eq_getElem?_getD, List.getElem?_map, List.getElem?_range hk]
    rw [g]
    exact ⟨h1, by rw [Nat.add_assoc]; exact h2⟩
theorem made_at (n j : Nat) (h : j < n * 2) : (madeCells #[.int .i64 0, .int .i64 0] (n * 2))[j]? = some (.int .i64 0) := by
  unfold madeCells
  rw [Array.getElem?_map, Array.getElem?_range, if_pos h]
  rcases Nat.mod_two_eq_zero_or_one j with e | e <;> simp [e]
theorem put_point {w : World} {b k n : Nat} {ps : List (Int × Int)} (hb : b < w.heap.size) (hk : k < ps.length) (hn : n = ps.length * 2) (h : PtsAt w b 0 (ps.take k)) (ht : w.there b 0 n) (x y : Int) (hx : (ps.getD k (0, 0)).1 = x) (hy : (ps.getD k (0, 0)).2 = y) :
    PtsAt ((w.setCell ⟨b, k * 2, none⟩ (.int .i64 x)).setCell ⟨b, k * 2 + 1, none⟩ (.int .i64 y)) b 0 (ps.take (k + 1)) ∧ ((w.setCell ⟨b, k * 2, none⟩ (.int .i64 x)).setCell ⟨b, k * 2 + 1, none⟩ (.int .i64 y)).there b 0 n := by
  subst hn
  have c0 := (ht (k * 2) (by omega)).1
  have c1 := (ht (k * 2 + 1) (by omega)).1
  obtain ⟨u0, hu0⟩ := Option.isSome_iff_exists.1 c0
  obtain ⟨u1, hu1⟩ := Option.isSome_iff_exists.1 c1
  simp only [Nat.zero_add] at hu0 hu1
  have hu1' : (w.setCell ⟨b, k * 2, none⟩ (.int .i64 x)).cell? ⟨b, k * 2 + 1, none⟩ = some u1 := by
    rw [World.cell?_setCell_other _ _ _ _ (by simp)]; exact hu1
  constructor
  · intro j hj
    simp only [List.length_take] at hj
    simp only [Nat.zero_add]
    by_cases e : j = k
    · subst e
      have g : (ps.take (j + 1)).getD j (0, 0) = ps.getD j (0, 0) := by
        simp [List.getD_eq_getElem?_getD, List.getElem?_take]
      rw [g, hx, hy]
      refine ⟨?_, World.cell?_setCell_same _ _ _ hu1'⟩
      rw [World.cell?_setCell_other _ _ _ _ (by simp)]
      exact World.cell?_setCell_same _ _ _ hu0
    · have hj' : j < k := by omega
      have g : (ps.take (k + 1)).getD j (0, 0) = (ps.take k).getD j (0, 0) := by
        simp only [List.getD_eq_getElem?_getD, List.getElem?_take]
        rw [if_pos (by omega), if_pos (by omega)]
      rw [g]
      obtain ⟨h1, h2⟩ := h j (by simp; omega)
      simp only [Nat.zero_add] at h1 h2
      constructor
      · rw [World.cell?_setCell_other _ _ _ _ (by intro q; injection q; omega), World.cell?_setCell_other _ _ _ _ (by intro q; injection q; omega)]; exact h1
      · rw [World.cell?_setCell_other _ _ _ _ (by intro q; injection q; omega), World.cell?_setCell_other _ _ _ _ (by intro q; injection q; omega)]; exact h2
  · intro j hj
    obtain ⟨h1, h2⟩ := ht j hj
    refine ⟨?_, by rw [World.frozen?_setCell, World.frozen?_setCell]; exact h2⟩
    obtain ⟨u, hu⟩ := Option.isSome_iff_exists.1 h1
    obtain ⟨u', hu'⟩ := cell?_setCell_some (p := ⟨b, k * 2, none⟩) (x := .int .i64 x) hu
    obtain ⟨u'', hu''⟩ := cell?_setCell_some (p := ⟨b, k * 2 + 1, none⟩) (x := .int .i64 y) hu'
    rw [hu'']; rfl
theorem Tryz.infoPt : (Tryz.prog.info? 137).map (fun i => (i.zero, i.size, i.bytes)) = some (some (.agg #[.int .i64 0, .int .i64 0]), 2, 16) := by kernel_rfl
theorem make_points (n : Nat) (hn : n ≤ 1099511627776) (w : World) : (Instr.makeSlice 50 (.int .i64 n) (.int .i64 n)).run Tryz.prog w = .ok (.slice (some ⟨w.heap.size, 0, none⟩) n n) (w.alloc (.cells (madeCells #[.int .i64 0, .int .i64 0] (n * 2)) 137)) := by
  obtain ⟨i0, hi, hz0, hz1, hz2⟩ := info_parts Tryz.infoPt
  have := run_make (P := Tryz.prog) w 50 137 i0 _ Tryz.underlying50 hi hz0 .i64 .i64 n n (by omega) (by omega) (by rw [hz2]; omega) (by omega)
  rw [hz1] at this
  exact this
theorem made_own (w : World) (n : Nat) : (w.alloc (.cells (madeCells #[.int .i64 0, .int .i64 0] (n * 2)) 137)).there w.heap.size 0 (n * 2) := by
  intro j hj
  simp only [Nat.zero_add]
  refine ⟨?_, World.frozen?_alloc_new w _ _ j⟩
  rw [World.cell?_alloc_new, made_at n j hj]; rfl
set_option maxHeartbeats 400000 in
theorem to_points (a : Option Addr) (cap : Nat) (ps : List (Int × Int)) (w : World) (hm : ps.length ≤ 1099511627776) (hc : ps.length ≤ cap) (h : Pts w a ps) : Calls Tryz.prog 110 #[.slice a ps.length cap] w fun e w' => ∃ b, e = .returned (.slice (some ⟨b, 0, none⟩) ps.length ps.length) ∧ w.heap.size ≤ b ∧ PtsOwn w' b ps ∧ Below w.heap.size w w' := by
  have hmk := make_points ps.length hm
  go_enter Tryz.func110, Tryz.ntmps110
  go_wp2_with fail
  go_loopw [4] (fun ti wr => ∃ k : Nat, ti = .int .i64 k ∧ k ≤ ps.length ∧ Below w.heap.size w wr ∧ w.heap.size < wr.heap.size ∧ PtsAt wr w.heap.size 0 (ps.take k) ∧ wr.there w.heap.size 0 (ps.length * 2)) (fun ti _ => ps.length - (intOf ti).toNat)
  case atStart => exact ⟨0, rfl, Nat.zero_le _, (Below.refl _ _).alloc (Nat.le_refl _) _, by simp, fun j hj => by simp at hj, made_own w ps.length⟩
  case round =>
    clear hmk
    obtain ⟨k, rfl, hk, hb, hB, hp, ht⟩ := hrel
    by_cases hlt : k < ps.length
    · rcases h with rfl | ⟨b, off, rfl, hbs, hq⟩
      · simp at hlt
      obtain ⟨c0, c1⟩ := hq.below hbs hb k hlt
      generalize hx : (ps.getD k (0, 0)).1 = x at c0
      generalize hy : (ps.getD k (0, 0)).2 = y at c1
      have Hx := hid hx
      have Hy := hid hy
      have Hq := hid hq
      have Hp := hid hp
      have Ht := hid ht
      clear hx hy hq hp ht
      go_wp2_with fail
      refine (to_point_b _ _ _).mono ?_
      rintro e w1 ⟨rfl, hb1⟩
      have ht1 := there_below Ht.out hB hb1
      obtain ⟨g0, g0'⟩ := ht1 (k * 2) (by omega)
      obtain ⟨g1, g1'⟩ := ht1 (k * 2 + 1) (by omega)
      obtain ⟨u0, hu0⟩ := Option.isSome_iff_exists.1 g0
      obtain ⟨u1, hu1⟩ := Option.isSome_iff_exists.1 g1
      simp only [Nat.zero_add, ← Nat.add_assoc] at hu0 hu1 g0' g1'
      have hp1 := hid (Hp.out.below hB hb1)
      have Ht1 := hid ht1
      clear ht1 g0 g1
      go_wp2_with fail
      go_roundw
      case rel =>
        obtain ⟨r1, r2⟩ := put_point (Nat.lt_of_lt_of_le hB hb1.size) hlt rfl hp1.out Ht1.out x y Hx.out Hy.out
        exact ⟨k + 1, by go_num, by omega, ((hb.trans (hb1.mono hb.size)).setCell (Nat.le_refl _) _).setCell (Nat.le_refl _) _, by simp; exact Nat.lt_of_lt_of_le hB hb1.size, r1, r2⟩
      case measure => simp [intOf]; omega
    · have hk' : k = ps.length := by omega
      subst hk'
      have Hp := hid hp
      clear hp
      go_wp2_with fail
      go_ret
      exact ⟨w.heap.size, rfl, Nat.le_refl _, ⟨hB, by simpa using Hp.out, ht⟩, hb⟩
theorem sz_big (a : Option Addr) (n cap : Nat) (left : Int) (w : World) (hn : n ≤ 9223372036854775807) (h0 : 0 ≤ left) (h1 : left ≤ 1048576) (h : left < n) : Calls Tryz.prog 105 #[.slice a n cap, .int .i64 left] w fun e w' => e = .returned (.int .i64 (-1)) ∧ w' = w := by
  go_enter Tryz.func105, Tryz.ntmps105
  go_wp2_with fail
  go_ret
  exact ⟨rfl, rfl⟩
theorem sz_ok (a : Option Addr) (n cap : Nat) (left : Int) (w : World) (h0 : 0 ≤ left) (h1 : left ≤ 1048576) (h : ¬ left < n) : Calls Tryz.prog 105 #[.slice a n cap, .int .i64 left] w fun e w' => e = .returned (.int .i64 (left - n)) ∧ w' = w := by
  go_enter Tryz.func105, Tryz.ntmps105
  go_wp2_with fail
  go_ret
  exact ⟨rfl, rfl⟩
theorem eq_point (a b c d : Int) (w : World) : Calls Tryz.prog 141 #[.agg #[.int .i64 a, .int .i64 b], .agg #[.int .i64 c, .int .i64 d]] w fun e w' => e = .returned (.bool (a == c && b == d)) ∧ Below w.heap.size w w' := by
  by_cases h1 : a = c
  · subst h1
    by_cases h2 : b = d
    · subst h2
      go_enter Tryz.func141, Tryz.ntmps141
      go_wp2_with fail
      go_ret
      exact ⟨by simp, balloc (balloc (Below.refl _ _) _) _⟩
    · have h2' : (b != d) = true := by rw [bne_iff_ne]; exact h2
      go_enter Tryz.func141, Tryz.ntmps141
      go_wp2_with fail
      go_ret
      exact ⟨by simp [h2], balloc (balloc (Below.refl _ _) _) _⟩
  · have h1' : (a != c) = true := by rw [bne_iff_ne]; exact h1
    go_enter Tryz.func141, Tryz.ntmps141
    go_wp2_with fail
    go_ret
    exact ⟨by simp [h1], balloc (balloc (Below.refl _ _) _) _⟩
end Go.Proofs.YtkdoigibpaempaaGreatDoor
namespace Go.Proofs.YtkdoigibpaempaaGreatDoor
open Go.RowKit
theorem eq_point_same (a b : Int) (w : World) : Calls Tryz.prog 141 #[.agg #[.int .i64 a, .int .i64 b], .agg #[.int .i64 a, .int .i64 b]] w fun e w' => e = .returned (.bool true) ∧ Below w.heap.size w w' :=
  (eq_point a b a b w).mono fun e w' ⟨h1, h2⟩ => ⟨by rw [h1]; simp, h2⟩
set_option maxHeartbeats 1000000 in
theorem eq_points (a b : Option Addr) (cap cap' : Nat) (ps : List (Int × Int)) (w : World) (hm : ps.length ≤ 1099511627776) (hc : ps.length ≤ cap) (hc' : ps.length ≤ cap') (h : Pts w a ps) (h' : Pts w b ps) : Calls Tryz.prog 125 #[.slice a ps.length cap, .slice b ps.length cap'] w fun e w' => e = .returned (.bool true) ∧ Below w.heap.size w w' := by
  go_enter Tryz.func125, Tryz.ntmps125
  go_wp2_with fail
  go_loopw [5] (fun ti wr => ∃ k : Nat, ti = .int .i64 k ∧ k ≤ ps.length ∧ Below w.heap.size w wr) (fun ti _ => ps.length - (intOf ti).toNat)
  case atStart => exact ⟨0, rfl, Nat.zero_le _, Below.refl _ _⟩
  case round =>
    obtain ⟨k, rfl, hk, hb⟩ := hrel
    by_cases hlt : k < ps.length
    · rcases h with rfl | ⟨p, off, rfl, hps, hp⟩
      · simp at hlt
      rcases h' with rfl | ⟨q, off', rfl, hqs, hq⟩
      · simp at hlt
      obtain ⟨c0, c1⟩ := hp.below hps hb k hlt
      obtain ⟨d0, d1⟩ := hq.below hqs hb k hlt
      generalize hx : (ps.getD k (0, 0)).1 = x at c0 d0
      generalize hy : (ps.getD k (0, 0)).2 = y at c1 d1
      have Hp := hid hp
      have Hq := hid hq
      clear hx hy hp hq
      have hk0 : (0 : Int) ≤ (k : Int) := by omega
      have hk1 : (k : Int) < (ps.length : Int) := by omega
      go_wp2_with fail
      go_region_held3 (fun w' => w'.cell? ⟨p, off + k * 2, none⟩ = some (.int .i64 x) ∧ w'.cell? ⟨p, off + k * 2 + 1, none⟩ = some (.int .i64 y) ∧ w'.cell? ⟨q, off' + k * 2, none⟩ = some (.int .i64 x) ∧ w'.cell? ⟨q, off' + k * 2 + 1, none⟩ = some (.int .i64 y)) (first | (obtain ⟨zz0, zz1, zz2, zz3⟩ := (by with_reducible assumption : _ ∧ _); (repeat' apply And.intro) <;> (repeat (first | with_reducible assumption | refine keepcell (by with_reducible assumption) ?_ | refine keepdrew ?_ | refine keepalloc ?_ _)); done) | ((repeat' apply And.intro) <;> (repeat (first | with_reducible assumption | (refine newcell _ _ _ _ _ _ ?_ rfl; simp; done) | refine keepcell (by with_reducible assumption) ?_ | refine keepdrew ?_ | refine keepalloc ?_ _))))
        (first
          | (go_at_call 141; refine (eq_point_same _ _ _).mono ?_; rintro e w1 ⟨rfl, hb1⟩))
      go_wp2_with fail
      go_roundw
      case rel => exact ⟨k + 1, by go_num, by omega, by (repeat (first | exact Below.refl _ _ | (refine btrans ?_ (by with_reducible assumption)) | refine bdrew ?_ | refine balloc ?_ _))⟩
      case measure => simp [intOf]; omega
    · have hk' : k = ps.length := by omega
      go_wp2_with fail
      go_ret
      exact ⟨rfl, hb⟩
set_option maxHeartbeats 400000 in
theorem impl_behind (a : Option Addr) (cap : Nat) (ps : List (Int × Int)) (k : Nat) (w : World) (hm : ps.length ≤ 1099511627776) (hc : ps.length ≤ cap) (hk : k < ps.length) (h : Pts w a ps) : Calls Tryz.prog 237 #[.slice a ps.length cap, .int .i64 k] w fun e w' => e = .returned (.agg #[.int .i64 (ps.getD ((k + 1) % ps.length) (0, 0)).1, .int .i64 (ps.getD ((k + 1) % ps.length) (0, 0)).2]) ∧ Below w.heap.size w w' := by
  rcases h with rfl | ⟨b, off, rfl, hbs, hp⟩
  · simp at hk
  have hj : (k + 1) % ps.length < ps.length := Nat.mod_lt _ (by omega)
  obtain ⟨c0, c1⟩ := hp ((k + 1) % ps.length) hj
  have e1 : ((k : Int) + 1).tmod (ps.length : Int) = (((k + 1) % ps.length : Nat) : Int) := by
    rw [show ((k : Int) + 1) = ((k + 1 : Nat) : Int) by omega]; rfl
  have hz : ¬ ((ps.length : Int) = 0) := by omega
  generalize hx : (ps.getD ((k + 1) % ps.length) (0, 0)).1 = x at c0
  generalize hy : (ps.getD ((k + 1) % ps.length) (0, 0)).2 = y at c1
  generalize hjj : (k + 1) % ps.length = j at *
  have Hp := hid hp
  clear hp hx hy hjj
  go_enter Tryz.func237, Tryz.ntmps237
  go_wp2_with fail
  exact bodyPost_ret (v := .agg #[.int .i64 x, .int .i64 y]) (by simp [results, Tryz.results237, go_sem]) rfl ⟨rfl, (Below.refl _ _).alloc (Nat.le_refl _) _⟩
end Go.Proofs.YtkdoigibpaempaaGreatDoor
