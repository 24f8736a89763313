/- DbStart: a database without rows and transactions, both sides. -/
import Derived.Test.YtaceibffgoaflaaRwH
namespace Go.Proofs.Ytaceibffgoaflaa
open Go.RowKit
set_option linter.unusedSimpArgs false
set_option linter.unusedVariables false
theorem keepz {w w' : World} (hb : Below w.heap.size w w') {b : Nat} {o : Obj} (h : w.heap[b]? = some o) : w'.heap[b]? = some o := (hb.block b (lt_of_block h)).trans h
theorem cellz2 {w : World} {p : Nat} {a b : Value} {t : TypeId} (h : w.heap[p]? = some (.cells #[a, b] t (0, 0))) : (w.cell? ⟨p, 0, none⟩ = some a ∧ w.cell? ⟨p, 1, none⟩ = some b) ∧ w.frozen? ⟨p, 0, none⟩ = false ∧ w.frozen? ⟨p, 1, none⟩ = false := by
  refine ⟨⟨?_, ?_⟩, ?_, ?_⟩ <;> simp [World.cell?, World.frozen?, h]
theorem cellz3 {w : World} {p : Nat} {a b c : Value} {t : TypeId} (h : w.heap[p]? = some (.cells #[a, b, c] t (0, 0))) : (w.cell? ⟨p, 0, none⟩ = some a ∧ w.cell? ⟨p, 1, none⟩ = some b ∧ w.cell? ⟨p, 2, none⟩ = some c) ∧ w.frozen? ⟨p, 0, none⟩ = false ∧ w.frozen? ⟨p, 1, none⟩ = false ∧ w.frozen? ⟨p, 2, none⟩ = false := by
  refine ⟨⟨?_, ?_, ?_⟩, ?_, ?_, ?_⟩ <;> simp [World.cell?, World.frozen?, h]
theorem cellz4 {w : World} {p : Nat} {a b c d : Value} {t : TypeId} (h : w.heap[p]? = some (.cells #[a, b, c, d] t (0, 0))) : (w.cell? ⟨p, 0, none⟩ = some a ∧ w.cell? ⟨p, 1, none⟩ = some b ∧ w.cell? ⟨p, 2, none⟩ = some c ∧ w.cell? ⟨p, 3, none⟩ = some d) ∧ w.frozen? ⟨p, 0, none⟩ = false ∧ w.frozen? ⟨p, 1, none⟩ = false ∧ w.frozen? ⟨p, 2, none⟩ = false ∧ w.frozen? ⟨p, 3, none⟩ = false := by
  refine ⟨⟨?_, ?_, ?_, ?_⟩, ?_, ?_, ?_, ?_⟩ <;> simp [World.cell?, World.frozen?, h]
theorem setz4 {w : World} {p : Nat} {o0 o1 o2 o3 : Value} {t : TypeId} (h : w.heap[p]? = some (.cells #[o0, o1, o2, o3] t (0, 0))) (a b c d : Value) : ((((w.setCell ⟨p, 0, none⟩ a).setCell ⟨p, 1, none⟩ b).setCell ⟨p, 2, none⟩ c).setCell ⟨p, 3, none⟩ d).heap[p]? = some (.cells #[a, b, c, d] t (0, 0)) := by
  have st : ∀ (W : World) (cs : Array Value) (k : Nat) (u : Value), W.heap[p]? = some (.cells cs t (0, 0)) → (W.setCell ⟨p, k, none⟩ u).heap[p]? = some (.cells (cs.setIfInBounds k u) t (0, 0)) := by
    intro W cs k u h
    have hlt := lt_of_block h
    have h' : W.heap[p] = .cells cs t (0, 0) := by simpa [Array.getElem?_eq_getElem hlt] using h
    show (W.heap.modify p _)[p]? = _
    rw [Array.getElem?_eq_getElem (by simpa using hlt), Array.getElem_modify_self, h']
    rfl
  have e4 := (st _ _ 3 d (st _ _ 2 c (st _ _ 1 b (st _ _ 0 a h))))
  simpa using e4
/-- So many sessions without a transaction. -/
def none1 (n : Nat) : List Int := List.replicate n (-1)
theorem none1_len (n : Nat) : (none1 n).length = n := by simp [none1]
theorem none1_succ (n : Nat) : none1 n ++ [-1] = none1 (n + 1) := by simp [none1, List.replicate_succ']
theorem none1_at {n k : Nat} (h : k < n) : (none1 n).getD k 0 = -1 := by simp [none1, h]
set_option maxHeartbeats 1000000 in
theorem eq_Row0 (w : World) : Calls Try.prog 25 #[.slice none 0 0, .slice none 0 0] w fun e w' => e = .returned (.bool true) ∧ Below w.heap.size w w' := by
  go_enter Try.func25, Try.ntmps25
  go_wp2_with fail
  go_loopw [5] (fun ti wr => ti = .int .i64 0 ∧ wr = w) (fun _ _ => 0)
  case atStart => exact ⟨rfl, rfl⟩
  case round =>
    obtain ⟨rfl, rfl⟩ := hrel
    go_wp2_with fail
    go_ret
    exact ⟨rfl, Below.refl _ _⟩
set_option maxHeartbeats 1000000 in
theorem mark_Row0 (w : World) : Calls Try.prog 27 #[.slice none 0 0, .int .i64 1] w fun e w' => e = .returned (.int .i64 1) ∧ Below w.heap.size w w' := by
  go_enter Try.func27, Try.ntmps27
  go_wp2_with fail
  go_loopw [1, 5] (fun tk' ti wr => tk' = .int .i64 1 ∧ ti = .int .i64 0 ∧ wr = w) (fun _ _ _ => 0)
  case atStart => exact ⟨rfl, rfl, rfl⟩
  case round =>
    obtain ⟨rfl, rfl, rfl⟩ := hrel
    go_wp2_with fail
    go_ret
    exact ⟨rfl, Below.refl _ _⟩
set_option maxHeartbeats 1000000 in
theorem held_Row0 (w : World) : Calls Try.prog 29 #[.slice none 0 0, .int .i64 1] w fun e w' => e = .returned (.int .i64 1) ∧ Below w.heap.size w w' := by
  go_enter Try.func29, Try.ntmps29
  go_wp2_with fail
  go_loopw [1, 5] (fun tk' ti wr => tk' = .int .i64 1 ∧ ti = .int .i64 0 ∧ wr = w) (fun _ _ _ => 0)
  case atStart => exact ⟨rfl, rfl, rfl⟩
  case round =>
    obtain ⟨rfl, rfl, rfl⟩ := hrel
    go_wp2_with fail
    go_ret
    exact ⟨rfl, Below.refl _ _⟩
set_option maxHeartbeats 1000000 in
theorem eq_Txn0 (w : World) : Calls Try.prog 19 #[.slice none 0 0, .slice none 0 0] w fun e w' => e = .returned (.bool true) ∧ Below w.heap.size w w' := by
  go_enter Try.func19, Try.ntmps19
  go_wp2_with fail
  go_loopw [5] (fun ti wr => ti = .int .i64 0 ∧ wr = w) (fun _ _ => 0)
  case atStart => exact ⟨rfl, rfl⟩
  case round =>
    obtain ⟨rfl, rfl⟩ := hrel
    go_wp2_with fail
    go_ret
    exact ⟨rfl, Below.refl _ _⟩
set_option maxHeartbeats 1000000 in
theorem mark_Txn0 (w : World) : Calls Try.prog 21 #[.slice none 0 0, .int .i64 1] w fun e w' => e = .returned (.int .i64 1) ∧ Below w.heap.size w w' := by
  go_enter Try.func21, Try.ntmps21
  go_wp2_with fail
  go_loopw [1, 5] (fun tk' ti wr => tk' = .int .i64 1 ∧ ti = .int .i64 0 ∧ wr = w) (fun _ _ _ => 0)
  case atStart => exact ⟨rfl, rfl, rfl⟩
  case round =>
    obtain ⟨rfl, rfl, rfl⟩ := hrel
    go_wp2_with fail
    go_ret
    exact ⟨rfl, Below.refl _ _⟩
set_option maxHeartbeats 1000000 in
theorem held_Txn0 (w : World) : Calls Try.prog 23 #[.slice none 0 0, .int .i64 1] w fun e w' => e = .returned (.int .i64 1) ∧ Below w.heap.size w w' := by
  go_enter Try.func23, Try.ntmps23
  go_wp2_with fail
  go_loopw [1, 5] (fun tk' ti wr => tk' = .int .i64 1 ∧ ti = .int .i64 0 ∧ wr = w) (fun _ _ _ => 0)
  case atStart => exact ⟨rfl, rfl, rfl⟩
  case round =>
    obtain ⟨rfl, rfl, rfl⟩ := hrel
    go_wp2_with fail
    go_ret
    exact ⟨rfl, Below.refl _ _⟩
set_option maxHeartbeats 2000000 in
theorem eq_rows0 (w : World) : Calls Try.prog 18 #[.agg #[.int .i64 0, .slice none 0 0], .agg #[.int .i64 0, .slice none 0 0]] w fun e w' => e = .returned (.bool true) ∧ Below w.heap.size w w' := by
  have hB0 : Below w.heap.size w ((w.alloc (.cells #[.int .i64 0, .slice none 0 0] 24)).alloc (.cells #[.int .i64 0, .slice none 0 0] 24)) := balloc (balloc (Below.refl _ _) _) _
  have g0 := old_alloc (o' := .cells #[.int .i64 0, .slice none 0 0] 24) (new_alloc w w.heap.size (.cells #[.int .i64 0, .slice none 0 0] 24) rfl)
  have g1 := new_alloc (w.alloc (.cells #[.int .i64 0, .slice none 0 0] 24)) (w.heap.size + 1) (.cells #[.int .i64 0, .slice none 0 0] 24) (by simp)
  go_enter Try.func18, Try.ntmps18
  go_upto_region 1 with fail
  generalize (w.alloc (.cells #[.int .i64 0, .slice none 0 0] 24)).alloc (.cells #[.int .i64 0, .slice none 0 0] 24) = W0 at *
  obtain ⟨⟨d0, d1⟩, _⟩ := cellz2 g0
  obtain ⟨⟨f0, f1⟩, _⟩ := cellz2 g1
  go_wp2_with fail
  refine (eq_Row0 _).mono ?_
  rintro e w1 ⟨rfl, hb⟩
  skip
  replace g0 := keepz hb g0
  replace g1 := keepz hb g1
  replace hB0 := btrans hB0 hb
  clear hb d0 d1 f0 f1
  go_wp2_with fail
  go_ret
  exact ⟨rfl, hB0⟩
set_option maxHeartbeats 2000000 in
theorem eq_store0 (w : World) : Calls Try.prog 11 #[.agg #[.int .i64 0, .slice none 0 0, .slice none 0 0], .agg #[.int .i64 0, .slice none 0 0, .slice none 0 0]] w fun e w' => e = .returned (.bool true) ∧ Below w.heap.size w w' := by
  have hB0 : Below w.heap.size w ((w.alloc (.cells #[.int .i64 0, .slice none 0 0, .slice none 0 0] 27)).alloc (.cells #[.int .i64 0, .slice none 0 0, .slice none 0 0] 27)) := balloc (balloc (Below.refl _ _) _) _
  have g0 := old_alloc (o' := .cells #[.int .i64 0, .slice none 0 0, .slice none 0 0] 27) (new_alloc w w.heap.size (.cells #[.int .i64 0, .slice none 0 0, .slice none 0 0] 27) rfl)
  have g1 := new_alloc (w.alloc (.cells #[.int .i64 0, .slice none 0 0, .slice none 0 0] 27)) (w.heap.size + 1) (.cells #[.int .i64 0, .slice none 0 0, .slice none 0 0] 27) (by simp)
  go_enter Try.func11, Try.ntmps11
  go_upto_region 1 with fail
  generalize (w.alloc (.cells #[.int .i64 0, .slice none 0 0, .slice none 0 0] 27)).alloc (.cells #[.int .i64 0, .slice none 0 0, .slice none 0 0] 27) = W0 at *
  obtain ⟨⟨d0, d1, d2⟩, _⟩ := cellz3 g0
  obtain ⟨⟨f0, f1, f2⟩, _⟩ := cellz3 g1
  go_wp2_with fail
  refine (eq_rows0 _).mono ?_
  rintro e w1 ⟨rfl, hb⟩
  skip
  replace g0 := keepz hb g0
  replace g1 := keepz hb g1
  replace hB0 := btrans hB0 hb
  clear hb d0 d1 d2 f0 f1 f2
  obtain ⟨⟨d0, d1, d2⟩, _⟩ := cellz3 g0
  obtain ⟨⟨f0, f1, f2⟩, _⟩ := cellz3 g1
  go_wp2_with fail
  refine (eq_Txn0 _).mono ?_
  rintro e w1 ⟨rfl, hb⟩
  skip
  replace g0 := keepz hb g0
  replace g1 := keepz hb g1
  replace hB0 := btrans hB0 hb
  clear hb d0 d1 d2 f0 f1 f2
  go_wp2_with fail
  go_ret
  exact ⟨rfl, hB0⟩
set_option maxHeartbeats 2000000 in
theorem eq_db0 (a a' : Option Addr) (c c' n : Nat) (zs : List Int) (w : World) (hn : zs.length = n) (hm : n ≤ 1099511627776) (p1 : OwnI w a zs) (p2 : OwnI w a' zs) : Calls Try.prog 6 #[.agg #[.int .i64 0, .slice none 0 0, .slice none 0 0, .slice a n c], .agg #[.int .i64 0, .slice none 0 0, .slice none 0 0, .slice a' n c']] w fun e w' => e = .returned (.bool true) ∧ Below w.heap.size w w' := by
  have HI : Hid (∀ W, Below w.heap.size w W → Calls Try.prog 12 #[.slice a n c, .slice a' n c'] W fun e w' => e = .returned (.bool true) ∧ Below W.heap.size W w') := hid (fun W hb => by subst hn; exact eq_ints a a' c c' zs W hm (p1.below hb) (p2.below hb))
  clear p1 p2 hn
  have hB0 : Below w.heap.size w ((w.alloc (.cells #[.int .i64 0, .slice none 0 0, .slice none 0 0, .slice a n c] 30)).alloc (.cells #[.int .i64 0, .slice none 0 0, .slice none 0 0, .slice a' n c'] 30)) := balloc (balloc (Below.refl _ _) _) _
  have g0 := old_alloc (o' := .cells #[.int .i64 0, .slice none 0 0, .slice none 0 0, .slice a' n c'] 30) (new_alloc w w.heap.size (.cells #[.int .i64 0, .slice none 0 0, .slice none 0 0, .slice a n c] 30) rfl)
  have g1 := new_alloc (w.alloc (.cells #[.int .i64 0, .slice none 0 0, .slice none 0 0, .slice a n c] 30)) (w.heap.size + 1) (.cells #[.int .i64 0, .slice none 0 0, .slice none 0 0, .slice a' n c'] 30) (by simp)
  go_enter Try.func6, Try.ntmps6
  go_upto_region 1 with fail
  generalize (w.alloc (.cells #[.int .i64 0, .slice none 0 0, .slice none 0 0, .slice a n c] 30)).alloc (.cells #[.int .i64 0, .slice none 0 0, .slice none 0 0, .slice a' n c'] 30) = W0 at *
  obtain ⟨⟨d0, d1, d2, d3⟩, _⟩ := cellz4 g0
  obtain ⟨⟨f0, f1, f2, f3⟩, _⟩ := cellz4 g1
  go_wp2_with fail
  refine (eq_store0 _).mono ?_
  rintro e w1 ⟨rfl, hb⟩
  skip
  replace g0 := keepz hb g0
  replace g1 := keepz hb g1
  replace hB0 := btrans hB0 hb
  clear hb d0 d1 d2 d3 f0 f1 f2 f3
  obtain ⟨⟨d0, d1, d2, d3⟩, _⟩ := cellz4 g0
  obtain ⟨⟨f0, f1, f2, f3⟩, _⟩ := cellz4 g1
  go_wp2_with fail
  refine (HI.out _ hB0).mono ?_
  rintro e w1 ⟨rfl, hb⟩
  skip
  replace g0 := keepz hb g0
  replace g1 := keepz hb g1
  replace hB0 := btrans hB0 hb
  clear hb d0 d1 d2 d3 f0 f1 f2 f3
  go_wp2_with fail
  go_ret
  exact ⟨rfl, hB0⟩
set_option maxHeartbeats 2000000 in
theorem mark_rows0 (w : World) : Calls Try.prog 20 #[.agg #[.int .i64 0, .slice none 0 0], .int .i64 1] w fun e w' => e = .returned (.int .i64 1) ∧ Below w.heap.size w w' := by
  have hB0 : Below w.heap.size w (w.alloc (.cells #[.int .i64 0, .slice none 0 0] 24)) := balloc (Below.refl _ _) _
  have g0 := new_alloc w w.heap.size (.cells #[.int .i64 0, .slice none 0 0] 24) rfl
  go_enter Try.func20, Try.ntmps20
  go_upto_region 1 with fail
  generalize w.alloc (.cells #[.int .i64 0, .slice none 0 0] 24) = W0 at *
  obtain ⟨⟨d0, d1⟩, _⟩ := cellz2 g0
  go_wp2_with fail
  refine (mark_Row0 _).mono ?_
  rintro e w1 ⟨rfl, hb⟩
  skip
  replace g0 := keepz hb g0
  replace hB0 := btrans hB0 hb
  clear hb d0 d1
  go_wp2_with fail
  go_ret
  exact ⟨rfl, hB0⟩
set_option maxHeartbeats 2000000 in
theorem mark_store0 (w : World) : Calls Try.prog 13 #[.agg #[.int .i64 0, .slice none 0 0, .slice none 0 0], .int .i64 1] w fun e w' => e = .returned (.int .i64 1) ∧ Below w.heap.size w w' := by
  have hB0 : Below w.heap.size w (w.alloc (.cells #[.int .i64 0, .slice none 0 0, .slice none 0 0] 27)) := balloc (Below.refl _ _) _
  have g0 := new_alloc w w.heap.size (.cells #[.int .i64 0, .slice none 0 0, .slice none 0 0] 27) rfl
  go_enter Try.func13, Try.ntmps13
  go_upto_region 1 with fail
  generalize w.alloc (.cells #[.int .i64 0, .slice none 0 0, .slice none 0 0] 27) = W0 at *
  obtain ⟨⟨d0, d1, d2⟩, _⟩ := cellz3 g0
  go_wp2_with fail
  refine (mark_rows0 _).mono ?_
  rintro e w1 ⟨rfl, hb⟩
  skip
  replace g0 := keepz hb g0
  replace hB0 := btrans hB0 hb
  clear hb d0 d1 d2
  obtain ⟨⟨d0, d1, d2⟩, _⟩ := cellz3 g0
  go_wp2_with fail
  refine (mark_Txn0 _).mono ?_
  rintro e w1 ⟨rfl, hb⟩
  skip
  replace g0 := keepz hb g0
  replace hB0 := btrans hB0 hb
  clear hb d0 d1 d2
  go_wp2_with fail
  go_ret
  exact ⟨rfl, hB0⟩
set_option maxHeartbeats 2000000 in
theorem held_rows0 (w : World) : Calls Try.prog 22 #[.agg #[.int .i64 0, .slice none 0 0], .int .i64 1] w fun e w' => e = .returned (.int .i64 1) ∧ Below w.heap.size w w' := by
  have hB0 : Below w.heap.size w (w.alloc (.cells #[.int .i64 0, .slice none 0 0] 24)) := balloc (Below.refl _ _) _
  have g0 := new_alloc w w.heap.size (.cells #[.int .i64 0, .slice none 0 0] 24) rfl
  go_enter Try.func22, Try.ntmps22
  go_upto_region 1 with fail
  generalize w.alloc (.cells #[.int .i64 0, .slice none 0 0] 24) = W0 at *
  obtain ⟨⟨d0, d1⟩, _⟩ := cellz2 g0
  go_wp2_with fail
  refine (held_Row0 _).mono ?_
  rintro e w1 ⟨rfl, hb⟩
  skip
  replace g0 := keepz hb g0
  replace hB0 := btrans hB0 hb
  clear hb d0 d1
  go_wp2_with fail
  go_ret
  exact ⟨rfl, hB0⟩
set_option maxHeartbeats 2000000 in
theorem held_store0 (w : World) : Calls Try.prog 15 #[.agg #[.int .i64 0, .slice none 0 0, .slice none 0 0], .int .i64 1] w fun e w' => e = .returned (.int .i64 1) ∧ Below w.heap.size w w' := by
  have hB0 : Below w.heap.size w (w.alloc (.cells #[.int .i64 0, .slice none 0 0, .slice none 0 0] 27)) := balloc (Below.refl _ _) _
  have g0 := new_alloc w w.heap.size (.cells #[.int .i64 0, .slice none 0 0, .slice none 0 0] 27) rfl
  go_enter Try.func15, Try.ntmps15
  go_upto_region 1 with fail
  generalize w.alloc (.cells #[.int .i64 0, .slice none 0 0, .slice none 0 0] 27) = W0 at *
  obtain ⟨⟨d0, d1, d2⟩, _⟩ := cellz3 g0
  go_wp2_with fail
  refine (held_rows0 _).mono ?_
  rintro e w1 ⟨rfl, hb⟩
  skip
  replace g0 := keepz hb g0
  replace hB0 := btrans hB0 hb
  clear hb d0 d1 d2
  obtain ⟨⟨d0, d1, d2⟩, _⟩ := cellz3 g0
  go_wp2_with fail
  refine (held_Txn0 _).mono ?_
  rintro e w1 ⟨rfl, hb⟩
  skip
  replace g0 := keepz hb g0
  replace hB0 := btrans hB0 hb
  clear hb d0 d1 d2
  go_wp2_with fail
  go_ret
  exact ⟨rfl, hB0⟩
set_option maxHeartbeats 2000000 in
theorem mark_db0 (a : Option Addr) (c n : Nat) (zs : List Int) (w : World) (hn : zs.length = n) (hm : n ≤ 1099511627776) (p1 : OwnI w a zs) : Calls Try.prog 7 #[.agg #[.int .i64 0, .slice none 0 0, .slice none 0 0, .slice a n c], .int .i64 1] w fun e w' => e = .returned (.int .i64 (1 + (n : Int))) ∧ OwnI w' a (mki n) ∧ w.grownBy w' (a.map (·.block)) := by
  have HI : Hid (∀ W, Below w.heap.size w W → Calls Try.prog 14 #[.slice a n c, .int .i64 1] W fun e w' => e = .returned (.int .i64 (1 + (n : Int))) ∧ OwnI w' a (mki n) ∧ W.grownBy w' (a.map (·.block))) := hid (fun W hb => by subst hn; exact mark_ints W a c zs hm (p1.below hb))
  clear p1 hn
  have hB0 : Below w.heap.size w (w.alloc (.cells #[.int .i64 0, .slice none 0 0, .slice none 0 0, .slice a n c] 30)) := balloc (Below.refl _ _) _
  have g0 := new_alloc w w.heap.size (.cells #[.int .i64 0, .slice none 0 0, .slice none 0 0, .slice a n c] 30) rfl
  go_enter Try.func7, Try.ntmps7
  go_upto_region 1 with fail
  generalize w.alloc (.cells #[.int .i64 0, .slice none 0 0, .slice none 0 0, .slice a n c] 30) = W0 at *
  obtain ⟨⟨d0, d1, d2, d3⟩, _⟩ := cellz4 g0
  go_wp2_with fail
  refine (mark_store0 _).mono ?_
  rintro e w1 ⟨rfl, hb⟩
  replace g0 := keepz hb g0
  replace hB0 := btrans hB0 hb
  clear hb d0 d1 d2 d3
  obtain ⟨⟨d0, d1, d2, d3⟩, _⟩ := cellz4 g0
  go_wp2_with fail
  refine (HI.out _ hB0).mono ?_
  rintro e w2 ⟨rfl, ho, hg⟩
  have HO := hid ho
  have HG := hid hg
  clear ho hg
  go_wp2_with fail
  go_ret
  exact ⟨rfl, HO.out, grown_trans ⟨hB0.os, hB0.tape, hB0.output, hB0.size, fun k hk _ => hB0.block k hk⟩ HG.out⟩
set_option maxHeartbeats 2000000 in
theorem held_db0 (a : Option Addr) (c n : Nat) (w : World) (hm : n ≤ 1099511627776) (p1 : OwnI w a (mki n)) : Calls Try.prog 8 #[.agg #[.int .i64 0, .slice none 0 0, .slice none 0 0, .slice a n c], .int .i64 1] w fun e w' => e = .returned (.int .i64 (1 + (n : Int))) ∧ Below w.heap.size w w' := by
  have HI : Hid (∀ W, Below w.heap.size w W → Calls Try.prog 16 #[.slice a n c, .int .i64 1] W fun e w' => e = .returned (.int .i64 (1 + (n : Int))) ∧ Below W.heap.size W w') := hid (fun W hb => held_ints W a c n hm (p1.below hb))
  clear p1
  have hB0 : Below w.heap.size w (w.alloc (.cells #[.int .i64 0, .slice none 0 0, .slice none 0 0, .slice a n c] 30)) := balloc (Below.refl _ _) _
  have g0 := new_alloc w w.heap.size (.cells #[.int .i64 0, .slice none 0 0, .slice none 0 0, .slice a n c] 30) rfl
  have n1 : ¬ (1 + (n : Int) < 0) := by omega
  go_enter Try.func8, Try.ntmps8
  go_upto_region 1 with fail
  generalize w.alloc (.cells #[.int .i64 0, .slice none 0 0, .slice none 0 0, .slice a n c] 30) = W0 at *
  obtain ⟨⟨d0, d1, d2, d3⟩, _⟩ := cellz4 g0
  go_wp2_with fail
  refine (held_store0 _).mono ?_
  rintro e w1 ⟨rfl, hb⟩
  replace g0 := keepz hb g0
  replace hB0 := btrans hB0 hb
  clear hb d0 d1 d2 d3
  obtain ⟨⟨d0, d1, d2, d3⟩, _⟩ := cellz4 g0
  go_wp2_with fail
  refine (HI.out _ hB0).mono ?_
  rintro e w2 ⟨rfl, hb⟩
  replace hB0 := btrans hB0 hb
  clear hb
  go_wp2_with fail
  go_ret
  exact ⟨rfl, hB0⟩
end Go.Proofs.Ytaceibffgoaflaa
