/- SiteStart: a site without rows, transactions and counts, both sides. -/
import Derived.Test.YtdhdfgobefapiaaDa
namespace Go.Proofs.Ytdhdfgobefapiaa
open Go.RowKit
set_option linter.unusedSimpArgs false
set_option linter.unusedVariables false
theorem cellz7 {w : World} {p : Nat} {a b c d e f g : Value} {t : TypeId} (h : w.heap[p]? = some (.cells #[a, b, c, d, e, f, g] t (0, 0))) : (w.cell? ⟨p, 0, none⟩ = some a ∧ w.cell? ⟨p, 1, none⟩ = some b ∧ w.cell? ⟨p, 2, none⟩ = some c ∧ w.cell? ⟨p, 3, none⟩ = some d ∧ w.cell? ⟨p, 4, none⟩ = some e ∧ w.cell? ⟨p, 5, none⟩ = some f ∧ w.cell? ⟨p, 6, none⟩ = some g) ∧ w.frozen? ⟨p, 0, none⟩ = false ∧ w.frozen? ⟨p, 1, none⟩ = false ∧ w.frozen? ⟨p, 2, none⟩ = false ∧ w.frozen? ⟨p, 3, none⟩ = false ∧ w.frozen? ⟨p, 4, none⟩ = false ∧ w.frozen? ⟨p, 5, none⟩ = false ∧ w.frozen? ⟨p, 6, none⟩ = false := by
  refine ⟨⟨?_, ?_, ?_, ?_, ?_, ?_, ?_⟩, ?_, ?_, ?_, ?_, ?_, ?_, ?_⟩ <;> simp [World.cell?, World.frozen?, h]
def set7 (w : World) (p : Nat) (a b c d e f g : Value) : World := ((((((w.setCell ⟨p, 0, none⟩ a).setCell ⟨p, 1, none⟩ b).setCell ⟨p, 2, none⟩ c).setCell ⟨p, 3, none⟩ d).setCell ⟨p, 4, none⟩ e).setCell ⟨p, 5, none⟩ f).setCell ⟨p, 6, none⟩ g
theorem setz7 {w : World} {p : Nat} {o0 o1 o2 o3 o4 o5 o6 : Value} {t : TypeId} (h : w.heap[p]? = some (.cells #[o0, o1, o2, o3, o4, o5, o6] t (0, 0))) (a b c d e f g : Value) : (set7 w p a b c d e f g).heap[p]? = some (.cells #[a, b, c, d, e, f, g] t (0, 0)) := by
  have st : ∀ (W : World) (cs : Array Value) (k : Nat) (u : Value), W.heap[p]? = some (.cells cs t (0, 0)) → (W.setCell ⟨p, k, none⟩ u).heap[p]? = some (.cells (cs.setIfInBounds k u) t (0, 0)) := by
    intro W cs k u h
    have hlt := lt_of_block h
    have h' : W.heap[p] = .cells cs t (0, 0) := by simpa [Array.getElem?_eq_getElem hlt] using h
    show (W.heap.modify p _)[p]? = _
    rw [Array.getElem?_eq_getElem (by simpa using hlt), Array.getElem_modify_self, h']
    rfl
  have e4 := st _ _ 6 g (st _ _ 5 f (st _ _ 4 e (st _ _ 3 d (st _ _ 2 c (st _ _ 1 b (st _ _ 0 a h))))))
  unfold set7
  simpa using e4
theorem bset7 {w W : World} {p : Nat} (hB : Below w.heap.size w W) (hp : w.heap.size ≤ p) (a b c d e f g : Value) : Below w.heap.size w (set7 W p a b c d e f g) := by
  unfold set7
  exact bset (bset (bset (bset (bset (bset (bset hB (q := p) (k := 0) hp a) (q := p) (k := 1) hp b) (q := p) (k := 2) hp c) (q := p) (k := 3) hp d) (q := p) (k := 4) hp e) (q := p) (k := 5) hp f) (q := p) (k := 6) hp g
theorem far7 {W : World} {p : Nat} (a b c d e f g : Value) : ∀ k, k ≠ p → (set7 W p a b c d e f g).heap[k]? = W.heap[k]? := fun k hb => by
  unfold set7
  rw [Below.heap_setCell _ _ _ _ (by dsimp only; omega), Below.heap_setCell _ _ _ _ (by dsimp only; omega), Below.heap_setCell _ _ _ _ (by dsimp only; omega), Below.heap_setCell _ _ _ _ (by dsimp only; omega), Below.heap_setCell _ _ _ _ (by dsimp only; omega), Below.heap_setCell _ _ _ _ (by dsimp only; omega), Below.heap_setCell _ _ _ _ (by dsimp only; omega)]
theorem size7 {W : World} {p : Nat} (a b c d e f g : Value) : W.heap.size ≤ (set7 W p a b c d e f g).heap.size := by unfold set7; simp
set_option maxHeartbeats 1000000 in
theorem eq_Count0 (w : World) : Calls Try.prog 12 #[.slice none 0 0, .slice none 0 0] w fun e w' => e = .returned (.bool true) ∧ Below w.heap.size w w' := by
  go_enter Try.func12, Try.ntmps12
  go_wp2_with fail
  go_loopw [5] (fun ti wr => ti = .int .i64 0 ∧ wr = w) (fun _ _ => 0)
  case atStart => exact ⟨rfl, rfl⟩
  case round =>
    obtain ⟨rfl, rfl⟩ := hrel
    go_wp2_with fail
    go_ret
    exact ⟨rfl, Below.refl _ _⟩
set_option maxHeartbeats 1000000 in
theorem mark_Count0 (k : Int) (w : World) : Calls Try.prog 14 #[.slice none 0 0, .int .i64 k] w fun e w' => e = .returned (.int .i64 k) ∧ Below w.heap.size w w' := by
  go_enter Try.func14, Try.ntmps14
  go_wp2_with fail
  go_loopw [1, 5] (fun tk' ti wr => tk' = .int .i64 k ∧ ti = .int .i64 0 ∧ wr = w) (fun _ _ _ => 0)
  case atStart => exact ⟨rfl, rfl, rfl⟩
  case round =>
    obtain ⟨rfl, rfl, rfl⟩ := hrel
    go_wp2_with fail
    go_ret
    exact ⟨rfl, Below.refl _ _⟩
set_option maxHeartbeats 1000000 in
theorem held_Count0 (k : Int) (w : World) : Calls Try.prog 16 #[.slice none 0 0, .int .i64 k] w fun e w' => e = .returned (.int .i64 k) ∧ Below w.heap.size w w' := by
  go_enter Try.func16, Try.ntmps16
  go_wp2_with fail
  go_loopw [1, 5] (fun tk' ti wr => tk' = .int .i64 k ∧ ti = .int .i64 0 ∧ wr = w) (fun _ _ _ => 0)
  case atStart => exact ⟨rfl, rfl, rfl⟩
  case round =>
    obtain ⟨rfl, rfl, rfl⟩ := hrel
    go_wp2_with fail
    go_ret
    exact ⟨rfl, Below.refl _ _⟩
set_option maxHeartbeats 4000000 in
theorem eq_site0 (a a' : Option Addr) (c c' n : Nat) (zs : List Int) (w : World) (hn : zs.length = n) (hm : n ≤ 1099511627776) (p1 : OwnI w a zs) (p2 : OwnI w a' zs) : Calls Try.prog 6 #[.agg #[.int .i64 0, .slice none 0 0, .slice none 0 0, .slice a n c, .string ⟨#[]⟩, .int .i64 0, .slice none 0 0], .agg #[.int .i64 0, .slice none 0 0, .slice none 0 0, .slice a' n c', .string ⟨#[]⟩, .int .i64 0, .slice none 0 0]] w fun e w' => e = .returned (.bool true) ∧ Below w.heap.size w w' := by
  have HI : Hid (∀ W, Below w.heap.size w W → Calls Try.prog 11 #[.agg #[.int .i64 0, .slice none 0 0, .slice none 0 0, .slice a n c], .agg #[.int .i64 0, .slice none 0 0, .slice none 0 0, .slice a' n c']] W fun e w' => e = .returned (.bool true) ∧ Below W.heap.size W w') := hid (fun W hb => eq_db0 a a' c c' n zs W hn hm (p1.below hb) (p2.below hb))
  clear p1 p2 hn
  have hB0 : Below w.heap.size w ((w.alloc (.cells #[.int .i64 0, .slice none 0 0, .slice none 0 0, .slice a n c, .string ⟨#[]⟩, .int .i64 0, .slice none 0 0] 33)).alloc (.cells #[.int .i64 0, .slice none 0 0, .slice none 0 0, .slice a' n c', .string ⟨#[]⟩, .int .i64 0, .slice none 0 0] 33)) := balloc (balloc (Below.refl _ _) _) _
  have g0 := old_alloc (o' := .cells #[.int .i64 0, .slice none 0 0, .slice none 0 0, .slice a' n c', .string ⟨#[]⟩, .int .i64 0, .slice none 0 0] 33) (new_alloc w w.heap.size (.cells #[.int .i64 0, .slice none 0 0, .slice none 0 0, .slice a n c, .string ⟨#[]⟩, .int .i64 0, .slice none 0 0] 33) rfl)
  have g1 := new_alloc (w.alloc (.cells #[.int .i64 0, .slice none 0 0, .slice none 0 0, .slice a n c, .string ⟨#[]⟩, .int .i64 0, .slice none 0 0] 33)) (w.heap.size + 1) (.cells #[.int .i64 0, .slice none 0 0, .slice none 0 0, .slice a' n c', .string ⟨#[]⟩, .int .i64 0, .slice none 0 0] 33) (by simp)
  go_enter Try.func6, Try.ntmps6
  go_upto_region 1 with fail
  generalize (w.alloc (.cells #[.int .i64 0, .slice none 0 0, .slice none 0 0, .slice a n c, .string ⟨#[]⟩, .int .i64 0, .slice none 0 0] 33)).alloc (.cells #[.int .i64 0, .slice none 0 0, .slice none 0 0, .slice a' n c', .string ⟨#[]⟩, .int .i64 0, .slice none 0 0] 33) = W0 at *
  obtain ⟨⟨d0, d1, d2, d3, d4, d5, d6⟩, _⟩ := cellz7 g0
  obtain ⟨⟨f0, f1, f2, f3, f4, f5, f6⟩, _⟩ := cellz7 g1
  go_wp2_with fail
  refine (HI.out _ hB0).mono ?_
  rintro e w1 ⟨rfl, hb⟩
  replace g0 := keepz hb g0
  replace g1 := keepz hb g1
  replace hB0 := btrans hB0 hb
  clear hb d0 d1 d2 d3 d4 d5 d6 f0 f1 f2 f3 f4 f5 f6
  obtain ⟨⟨d0, d1, d2, d3, d4, d5, d6⟩, _⟩ := cellz7 g0
  obtain ⟨⟨f0, f1, f2, f3, f4, f5, f6⟩, _⟩ := cellz7 g1
  go_wp2_with fail
  refine (eq_Count0 _).mono ?_
  rintro e w1 ⟨rfl, hb⟩
  replace g0 := keepz hb g0
  replace g1 := keepz hb g1
  replace hB0 := btrans hB0 hb
  clear hb d0 d1 d2 d3 d4 d5 d6 f0 f1 f2 f3 f4 f5 f6
  go_wp2_with fail
  go_ret
  exact ⟨rfl, hB0⟩
theorem grown_below {a b c : World} {r : Option Nat} (h : a.grownBy b r) (hb : Below b.heap.size b c) : a.grownBy c r := grown_trans h ⟨hb.os, hb.tape, hb.output, hb.size, fun k hk _ => hb.block k hk⟩
set_option maxHeartbeats 4000000 in
theorem mark_site0 (a : Option Addr) (c n : Nat) (zs : List Int) (w : World) (hn : zs.length = n) (hm : n ≤ 1099511627776) (p1 : OwnI w a zs) : Calls Try.prog 7 #[.agg #[.int .i64 0, .slice none 0 0, .slice none 0 0, .slice a n c, .string ⟨#[]⟩, .int .i64 0, .slice none 0 0], .int .i64 1] w fun e w' => e = .returned (.int .i64 (1 + (n : Int))) ∧ OwnI w' a (mki n) ∧ w.grownBy w' (a.map (·.block)) := by
  have HI : Hid (∀ W, Below w.heap.size w W → Calls Try.prog 13 #[.agg #[.int .i64 0, .slice none 0 0, .slice none 0 0, .slice a n c], .int .i64 1] W fun e w' => e = .returned (.int .i64 (1 + (n : Int))) ∧ OwnI w' a (mki n) ∧ W.grownBy w' (a.map (·.block))) := hid (fun W hb => mark_db0 a c n zs W hn hm (p1.below hb))
  have hlt := p1.lt
  have HNE : Hid (∀ b, a.map (·.block) = some b → b < w.heap.size) := hid (fun b e => by have e2 := OwnI.map_blk p1 e; exact hlt b 0 e2)
  clear p1 hn hlt
  have hB0 : Below w.heap.size w (w.alloc (.cells #[.int .i64 0, .slice none 0 0, .slice none 0 0, .slice a n c, .string ⟨#[]⟩, .int .i64 0, .slice none 0 0] 33)) := balloc (Below.refl _ _) _
  have g0 := new_alloc w w.heap.size (.cells #[.int .i64 0, .slice none 0 0, .slice none 0 0, .slice a n c, .string ⟨#[]⟩, .int .i64 0, .slice none 0 0] 33) rfl
  go_enter Try.func7, Try.ntmps7
  go_upto_region 1 with fail
  generalize w.alloc (.cells #[.int .i64 0, .slice none 0 0, .slice none 0 0, .slice a n c, .string ⟨#[]⟩, .int .i64 0, .slice none 0 0] 33) = W0 at *
  obtain ⟨⟨d0, d1, d2, d3, d4, d5, d6⟩, _⟩ := cellz7 g0
  go_wp2_with fail
  refine (HI.out _ hB0).mono ?_
  rintro e w2 ⟨rfl, ho, hg⟩
  have HO := hid ho
  have HG := hid (grown_trans ⟨hB0.os, hB0.tape, hB0.output, hB0.size, fun k hk _ => hB0.block k hk⟩ hg)
  replace g0 : w2.heap[w.heap.size]? = some (.cells #[.int .i64 0, .slice none 0 0, .slice none 0 0, .slice a n c, .string ⟨#[]⟩, .int .i64 0, .slice none 0 0] 33 (0, 0)) := (hg.block _ (lt_of_block g0) (fun e => by have := HNE.out _ e.symm; omega)).trans g0
  clear ho hg hB0 d0 d1 d2 d3 d4 d5 d6
  obtain ⟨⟨d0, d1, d2, d3, d4, d5, d6⟩, _⟩ := cellz7 g0
  go_wp2_with fail
  refine (mark_Count0 _ _).mono ?_
  rintro e w3 ⟨rfl, hb⟩
  replace HO := hid (HO.out.below hb)
  replace HG := hid (grown_below HG.out hb)
  clear hb d0 d1 d2 d3 d4 d5 d6
  go_wp2_with fail
  go_ret
  exact ⟨rfl, HO.out, HG.out⟩
set_option maxHeartbeats 4000000 in
theorem held_site0 (a : Option Addr) (c n : Nat) (w : World) (hm : n ≤ 1099511627776) (p1 : OwnI w a (mki n)) : Calls Try.prog 8 #[.agg #[.int .i64 0, .slice none 0 0, .slice none 0 0, .slice a n c, .string ⟨#[]⟩, .int .i64 0, .slice none 0 0], .int .i64 1] w fun e w' => e = .returned (.int .i64 (1 + (n : Int))) ∧ Below w.heap.size w w' := by
  have HI : Hid (∀ W, Below w.heap.size w W → Calls Try.prog 15 #[.agg #[.int .i64 0, .slice none 0 0, .slice none 0 0, .slice a n c], .int .i64 1] W fun e w' => e = .returned (.int .i64 (1 + (n : Int))) ∧ Below W.heap.size W w') := hid (fun W hb => held_db0 a c n W hm (p1.below hb))
  clear p1
  have hB0 : Below w.heap.size w (w.alloc (.cells #[.int .i64 0, .slice none 0 0, .slice none 0 0, .slice a n c, .string ⟨#[]⟩, .int .i64 0, .slice none 0 0] 33)) := balloc (Below.refl _ _) _
  have g0 := new_alloc w w.heap.size (.cells #[.int .i64 0, .slice none 0 0, .slice none 0 0, .slice a n c, .string ⟨#[]⟩, .int .i64 0, .slice none 0 0] 33) rfl
  have n1 : ¬ (1 + (n : Int) < 0) := by omega
  go_enter Try.func8, Try.ntmps8
  go_upto_region 1 with fail
  generalize w.alloc (.cells #[.int .i64 0, .slice none 0 0, .slice none 0 0, .slice a n c, .string ⟨#[]⟩, .int .i64 0, .slice none 0 0] 33) = W0 at *
  obtain ⟨⟨d0, d1, d2, d3, d4, d5, d6⟩, _⟩ := cellz7 g0
  go_wp2_with fail
  refine (HI.out _ hB0).mono ?_
  rintro e w1 ⟨rfl, hb⟩
  replace g0 := keepz hb g0
  replace hB0 := btrans hB0 hb
  clear hb d0 d1 d2 d3 d4 d5 d6
  obtain ⟨⟨d0, d1, d2, d3, d4, d5, d6⟩, _⟩ := cellz7 g0
  go_wp2_with fail
  refine (held_Count0 _ _).mono ?_
  rintro e w1 ⟨rfl, hb⟩
  replace g0 := keepz hb g0
  replace hB0 := btrans hB0 hb
  clear hb d0 d1 d2 d3 d4 d5 d6
  go_wp2_with fail
  go_ret
  exact ⟨rfl, hB0⟩
end Go.Proofs.Ytdhdfgobefapiaa
