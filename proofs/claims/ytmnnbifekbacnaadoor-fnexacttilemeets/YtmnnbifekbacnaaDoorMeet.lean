/- The sides of a figure: the landed ones. -/
import Derived.Test.YtmnnbifekbacnaaDoorSides5
namespace Go.Proofs.YtmnnbifekbacnaaDoor
open Go.RowKit
set_option linter.unusedSimpArgs false
set_option linter.unusedVariables false
theorem ta_dot_dot (v : Value) (w : World) : (Instr.typeAssert (.iface 69 v) 44 69 true).run Tryd.prog w = .ok (.tuple #[v, .bool true]) w := by kernel_rfl
theorem ta_path_dot (v : Value) (w : World) : (Instr.typeAssert (.iface 70 v) 44 69 true).run Tryd.prog w = .ok (.tuple #[.slice none 0 0, .bool false]) w := by kernel_rfl
theorem ta_path_path (v : Value) (w : World) : (Instr.typeAssert (.iface 70 v) 44 70 true).run Tryd.prog w = .ok (.tuple #[v, .bool true]) w := by kernel_rfl
theorem ta_block_dot (v : Value) (w : World) : (Instr.typeAssert (.iface 71 v) 44 69 true).run Tryd.prog w = .ok (.tuple #[.slice none 0 0, .bool false]) w := by kernel_rfl
theorem ta_block_path (v : Value) (w : World) : (Instr.typeAssert (.iface 71 v) 44 70 true).run Tryd.prog w = .ok (.tuple #[.slice none 0 0, .bool false]) w := by kernel_rfl
theorem ta_block_block (v : Value) (w : World) : (Instr.typeAssert (.iface 71 v) 44 71 true).run Tryd.prog w = .ok (.tuple #[v, .bool true]) w := by kernel_rfl
theorem ta_ring_dot (v : Value) (w : World) : (Instr.typeAssert (.iface 72 v) 44 69 true).run Tryd.prog w = .ok (.tuple #[.slice none 0 0, .bool false]) w := by kernel_rfl
theorem ta_ring_path (v : Value) (w : World) : (Instr.typeAssert (.iface 72 v) 44 70 true).run Tryd.prog w = .ok (.tuple #[.slice none 0 0, .bool false]) w := by kernel_rfl
theorem ta_ring_block (v : Value) (w : World) : (Instr.typeAssert (.iface 72 v) 44 71 true).run Tryd.prog w = .ok (.tuple #[.slice none 0 0, .bool false]) w := by kernel_rfl
theorem ta_ring_ring (v : Value) (w : World) : (Instr.typeAssert (.iface 72 v) 44 72 true).run Tryd.prog w = .ok (.tuple #[v, .bool true]) w := by kernel_rfl
set_option maxHeartbeats 1000000 in
theorem block_corners (x y u v : Int) (a : Option Addr) (cap : Nat) (w : World) (hc : 2 ≤ cap) (h : Pts w a [(x, y), (u, v)]) : Calls Tryd.prog 42 #[.slice a 2 cap] w fun e w' => ∃ b, e = .returned (.slice (some ⟨b, 0, none⟩) 4 4) ∧ w.heap.size ≤ b ∧ Pts w' (some ⟨b, 0, none⟩) (corners x y u v) ∧ Below w.heap.size w w' := by
  obtain ⟨b, off, rfl, hbs, hp⟩ : ∃ b off, a = some ⟨b, off, none⟩ ∧ b < w.heap.size ∧ PtsAt w b off [(x, y), (u, v)] := by
    rcases h with h | h
    · cases h
    · exact h
  obtain ⟨c0, c1⟩ := hp 0 (by simp)
  obtain ⟨d0, d1⟩ := hp 1 (by simp)
  simp only [Nat.zero_mul, Nat.add_zero, List.getD_cons_zero, List.getD_cons_succ, Nat.one_mul] at c0 c1 d0 d1
  have Hp := hid hp
  clear hp h
  go_enter Tryd.func42, Tryd.ntmps42
  go_wp2_with fail
  go_region_held3 (fun w' => w'.cell? ⟨b, off, none⟩ = some (.int .i64 x) ∧ w'.cell? ⟨b, off + 1, none⟩ = some (.int .i64 y) ∧ w'.cell? ⟨b, off + 2, none⟩ = some (.int .i64 u) ∧ w'.cell? ⟨b, off + 2 + 1, none⟩ = some (.int .i64 v)) ((go_split_ands; (repeat' apply And.intro) <;> (repeat (first | with_reducible assumption | with_reducible refine keepset ?_ (by dsimp only; omega) | with_reducible refine keepdrew ?_ | with_reducible refine keepcell (by with_reducible assumption) ?_ | with_reducible refine keepalloc ?_ _))))
    (first
      | (fail))
  go_wp2_with fail
  go_ret
  refine ⟨w.heap.size, rfl, Nat.le_refl _, .inr ⟨w.heap.size, 0, rfl, by simp, ?_⟩, by (repeat (first | with_reducible exact Below.refl _ _ | with_reducible assumption | (with_reducible refine btrans ?_ (by with_reducible assumption)) | with_reducible refine bdrew ?_ | with_reducible refine balloc ?_ _))⟩
  intro k hk
  simp only [Nat.zero_add]
  match k, hk with
  | 0, _ => exact ⟨newcell _ _ _ _ _ _ rfl rfl, newcell _ _ _ _ _ _ rfl rfl⟩
  | 1, _ => exact ⟨newcell _ _ _ _ _ _ rfl rfl, newcell _ _ _ _ _ _ rfl rfl⟩
  | 2, _ => exact ⟨newcell _ _ _ _ _ _ rfl rfl, newcell _ _ _ _ _ _ rfl rfl⟩
  | 3, _ => exact ⟨newcell _ _ _ _ _ _ rfl rfl, newcell _ _ _ _ _ _ rfl rfl⟩
set_option maxRecDepth 100000 in
set_option maxHeartbeats 1000000 in
theorem of_dot (x y : Int) (a : Option Addr) (cap : Nat) (w : World) (h : Pts w a [(x, y)]) : Calls Tryd.prog 20 #[.iface 69 (.slice a 1 cap)] w fun e w' => ∃ b, e = .returned (.slice (some ⟨b, 0, none⟩) 1 1) ∧ w.heap.size ≤ b ∧ b < w'.heap.size ∧ SdAt w' b 0 [(x, y, x, y)] ∧ Below w.heap.size w w' := by
  obtain ⟨b, off, rfl, hbs, hp⟩ : ∃ b off, a = some ⟨b, off, none⟩ ∧ b < w.heap.size ∧ PtsAt w b off [(x, y)] := by
    rcases h with h | h
    · cases h
    · exact h
  obtain ⟨c0, c1⟩ := hp 0 (by simp)
  simp only [Nat.zero_mul, Nat.add_zero, List.getD_cons_zero] at c0 c1
  have Hp := hid hp
  clear hp h
  have tdot := ta_dot_dot
  go_enter Tryd.func20, Tryd.ntmps20
  go_wp2_with fail
  go_region_held3 (fun w' => w'.cell? ⟨b, off, none⟩ = some (.int .i64 x) ∧ w'.cell? ⟨b, off + 1, none⟩ = some (.int .i64 y)) ((go_split_ands; (repeat' apply And.intro) <;> (repeat (first | with_reducible assumption | with_reducible refine keepset ?_ (by dsimp only; omega) | with_reducible refine keepdrew ?_ | with_reducible refine keepcell (by with_reducible assumption) ?_ | with_reducible refine keepalloc ?_ _))))
    (first
      | (fail))
  go_wp2_with fail
  go_ret
  refine ⟨w.heap.size, rfl, Nat.le_refl _, by simp, ?_, by (repeat (first | with_reducible exact Below.refl _ _ | with_reducible assumption | (with_reducible refine btrans ?_ (by with_reducible assumption)) | with_reducible refine bdrew ?_ | with_reducible refine balloc ?_ _))⟩
  intro k hk
  obtain rfl : k = 0 := by simp at hk; exact hk
  exact ⟨newcell _ _ _ _ _ _ rfl rfl, newcell _ _ _ _ _ _ rfl rfl, newcell _ _ _ _ _ _ rfl rfl, newcell _ _ _ _ _ _ rfl rfl⟩
set_option maxRecDepth 100000 in
set_option maxHeartbeats 1000000 in
theorem of_path (a : Option Addr) (cap : Nat) (ps : List (Int × Int)) (w : World) (hm : ps.length ≤ 1099511627776) (hc : ps.length ≤ cap) (h : Pts w a ps) (h1 : 1 ≤ ps.length) : Calls Tryd.prog 20 #[.iface 70 (.slice a ps.length cap)] w fun e w' => ∃ b, e = .returned (.slice (some ⟨b, 0, none⟩) (alongSides ps).length (alongSides ps).length) ∧ w.heap.size ≤ b ∧ b < w'.heap.size ∧ SdAt w' b 0 (alongSides ps) ∧ Below w.heap.size w w' := by
  have hs := fun w' (hw : Pts w' a ps) => sides_along a cap ps w' hm hc hw h1
  have Hs := hid hs
  have Hh := hid h
  clear hs h
  have tdot := ta_path_dot
  have tpath := ta_path_path
  go_enter Tryd.func20, Tryd.ntmps20
  go_wp2_with fail
  refine (Hs.out _ Hh.out).mono ?_
  rintro e w1 ⟨b1, rfl, h1', h2', h3', h4'⟩
  have H3 := hid h3'
  clear h3'
  go_wp2_with fail
  go_ret
  exact ⟨b1, rfl, h1', h2', H3.out, h4'⟩
set_option maxRecDepth 100000 in
set_option maxHeartbeats 1000000 in
theorem of_ring (a : Option Addr) (cap : Nat) (ps : List (Int × Int)) (w : World) (hm : ps.length ≤ 1099511627776) (hc : ps.length ≤ cap) (h : Pts w a ps) : Calls Tryd.prog 20 #[.iface 72 (.slice a ps.length cap)] w fun e w' => ∃ b, e = .returned (.slice (some ⟨b, 0, none⟩) ps.length ps.length) ∧ w.heap.size ≤ b ∧ b < w'.heap.size ∧ SdAt w' b 0 (ringSides ps) ∧ Below w.heap.size w w' := by
  have hs := fun w' (hw : Pts w' a ps) => sides_around a cap ps w' hm hc hw
  have Hs := hid hs
  have Hh := hid h
  clear hs h
  have tdot := ta_ring_dot
  have tpath := ta_ring_path
  have tblock := ta_ring_block
  have tring := ta_ring_ring
  go_enter Tryd.func20, Tryd.ntmps20
  go_wp2_with fail
  refine (Hs.out _ Hh.out).mono ?_
  rintro e w1 ⟨b1, rfl, h1', h2', h3', h4'⟩
  have H3 := hid h3'
  clear h3'
  go_wp2_with fail
  go_ret
  exact ⟨b1, rfl, h1', h2', H3.out, h4'⟩
set_option maxRecDepth 100000 in
set_option maxHeartbeats 1000000 in
theorem of_block (x y u v : Int) (a : Option Addr) (cap : Nat) (w : World) (hc : 2 ≤ cap) (h : Pts w a [(x, y), (u, v)]) : Calls Tryd.prog 20 #[.iface 71 (.slice a 2 cap)] w fun e w' => ∃ b, e = .returned (.slice (some ⟨b, 0, none⟩) 4 4) ∧ w.heap.size ≤ b ∧ b < w'.heap.size ∧ SdAt w' b 0 (ringSides (corners x y u v)) ∧ Below w.heap.size w w' := by
  have hs := fun b w' (hw : Pts w' (some ⟨b, 0, none⟩) (corners x y u v)) => sides_around (some ⟨b, 0, none⟩) 4 (corners x y u v) w' (by simp [corners]) (by simp [corners]) hw
  have hl : (corners x y u v).length = 4 := rfl
  rw [hl] at hs
  have Hs := hid hs
  have Hh := hid h
  clear hs h
  have tdot := ta_block_dot
  have tpath := ta_block_path
  have tblock := ta_block_block
  go_enter Tryd.func20, Tryd.ntmps20
  go_wp2_with fail
  refine (block_corners x y u v a cap _ hc Hh.out).mono ?_
  rintro e w1 ⟨b1, rfl, h1', h2', h3'⟩
  have H2 := hid h2'
  clear h2'
  go_wp2_with fail
  refine (Hs.out _ _ H2.out).mono ?_
  rintro e w2 ⟨b2, rfl, g1', g2', g3', g4'⟩
  have H3 := hid g3'
  clear g3'
  go_wp2_with fail
  go_ret
  exact ⟨b2, rfl, Nat.le_trans h3'.size g1', g2', H3.out, btrans h3' g4'⟩
end Go.Proofs.YtmnnbifekbacnaaDoor
