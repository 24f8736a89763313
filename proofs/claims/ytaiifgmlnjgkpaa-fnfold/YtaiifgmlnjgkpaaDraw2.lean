/- The numbers and words of a draw: each comes to some number of its kind, and nothing but the cursor is turned. -/
import Derived.Test.YtaiifgmlnjgkpaaDraw
namespace Go.Proofs.Ytaiifgmlnjgkpaa
open Go.RowKit
def I64 (z : Int) : Prop := -9223372036854775808 ≤ z ∧ z ≤ 9223372036854775807
def Ints (w : World) (q m : Nat) : Prop := ∀ k, k < m → ∃ z : Int, I64 z ∧ w.cell? ⟨q, k, none⟩ = some (.int .i64 z)
theorem ints_new (w : World) (zs : List Int) (t : TypeId) (hz : ∀ z ∈ zs, I64 z) : Ints (w.alloc (.cells (zs.map (Value.int .i64)).toArray t)) w.heap.size zs.length := by
  intro k hk
  refine ⟨zs[k], hz _ (List.getElem_mem hk), ?_⟩
  have h := heap_alloc_new w (.cells (zs.map (Value.int .i64)).toArray t)
  rw [cell_of_row _ w.heap.size k _ t (0, 0) h]
  simp [hk]
theorem grown_alloc (w : World) (o : Obj) (r : Option Nat) : w.grownBy (w.alloc o) r := World.grownBy_alloc w o r
set_option maxHeartbeats 400000 in
theorem pick_r (w : World) (p : Nat) (a : Option Addr) (len cap : Nat) (q m : Nat) (h0 : 0 < m) (h1 : m ≤ 1000) (hq : q ≠ p) (hi : Ints w q m) (h : Ready w p a len cap) : Calls Try.prog 29 #[.pointer (some ⟨p, 0, none⟩), .slice (some ⟨q, 0, none⟩) m m] w fun e w' => ∃ z : Int, e = .returned (.int .i64 z) ∧ I64 z ∧ Ready w' p a len cap ∧ w.grownBy w' (some p) := by
  go_enter Try.func29, Try.ntmps29
  go_wp2_with fail
  refine (below_r _ p a len cap (m : Int) (by omega) (by omega) h).mono ?_
  rintro e w1 ⟨x, rfl, x0, x1, hr, hg⟩
  obtain ⟨k, rfl⟩ := Int.eq_ofNat_of_zero_le x0
  obtain ⟨z, hz, hc⟩ := hi k (by omega)
  have hc1 := hg.cell hc (fun e => by simp at e; exact hq e)
  clear hc hi h
  go_wp2_with fail
  go_ret
  exact ⟨z, rfl, hz, hr, hg⟩
set_option maxRecDepth 100000 in
set_option maxHeartbeats 1000000 in
theorem word_r (w : World) (p : Nat) (a : Option Addr) (len cap : Nat) (h : Ready w p a len cap) : Calls Try.prog 32 #[.pointer (some ⟨p, 0, none⟩)] w fun e w' => ∃ z : Int, e = .returned (.int .u32 z) ∧ (0 ≤ z ∧ z ≤ 4294967295) ∧ Ready w' p a len cap ∧ w.grownBy w' (some p) := by
  go_enter Try.func32, Try.ntmps32
  go_wp2_with fail
  refine (below_r _ p a len cap 4 (by omega) (by omega) h).mono ?_
  rintro e w1 ⟨x, rfl, x0, x1, hr, hg⟩
  clear h
  by_cases e0 : x = 0
  · subst e0
    go_wp2_with fail
    refine (pick_r _ p a len cap _ 11 (by omega) (by omega) ?_ (ints_new w1 [0, 1, 2, 31, 32, 255, 256, 2147483647, 2147483648, 4294967295, 4294967294] 3 (by unfold I64; decide)) (hr.alloc _)).mono ?_
    · have := hr.lt; omega
    · rintro e w2 ⟨z, rfl, hz, hr2, hg2⟩
      replace hg := grown_trans (grown_trans hg (grown_alloc _ _ _)) hg2
      clear hg2 hr
      go_wp2_with fail
      go_ret
      exact ⟨_, rfl, by omega, hr2, hg⟩
  · have n0 : (x == 0) = false := by rw [beq_eq_false_iff_ne]; exact e0
    by_cases e1 : x = 1
    · subst e1
      go_wp2_with fail
      refine (below_r _ p a len cap 300 (by omega) (by omega) hr).mono ?_
      rintro e w2 ⟨z, rfl, z0, z1, hr2, hg2⟩
      replace hg := grown_trans hg hg2
      clear hg2 hr
      go_wp2_with fail
      go_ret
      exact ⟨_, rfl, by omega, hr2, hg⟩
    · have n1 : (x == 1) = false := by rw [beq_eq_false_iff_ne]; exact e1
      clear e0 e1
      go_wp2_with fail
      refine (below_r _ p a len cap 65536 (by omega) (by omega) hr).mono ?_
      rintro e w2 ⟨z, rfl, z0, z1, hr2, hg2⟩
      replace hg := grown_trans hg hg2
      clear hg2 hr
      go_wp2_with fail
      refine (below_r _ p a len cap 65536 (by omega) (by omega) hr2).mono ?_
      rintro e w3 ⟨u, rfl, u0, u1, hr3, hg3⟩
      replace hg := grown_trans hg hg3
      clear hg3 hr2
      go_wp2_with fail
      go_ret
      exact ⟨_, rfl, by omega, hr3, hg⟩
set_option maxRecDepth 100000 in
set_option maxHeartbeats 1000000 in
theorem num_r (w : World) (p : Nat) (a : Option Addr) (len cap : Nat) (h : Ready w p a len cap) : Calls Try.prog 27 #[.pointer (some ⟨p, 0, none⟩)] w fun e w' => ∃ z : Int, e = .returned (.int .i64 z) ∧ I64 z ∧ Ready w' p a len cap ∧ w.grownBy w' (some p) := by
  go_enter Try.func27, Try.ntmps27
  go_wp2_with fail
  refine (below_r _ p a len cap 5 (by omega) (by omega) h).mono ?_
  rintro e w1 ⟨x, rfl, x0, x1, hr, hg⟩
  clear h
  by_cases e0 : x = 0
  · subst e0
    go_wp2_with fail
    refine (pick_r _ p a len cap _ 22 (by omega) (by omega) ?_ (ints_new w1 [0, 1, -1, 127, 128, 16383, 16384, 65535, 65536, 30000, 30001, -30000, -30001, 1000000000, 1000000001, -1000000000, 4000000000, 4000000001, 4294967295, 4294967296, 9223372036854775807, -9223372036854775808] 3 (by unfold I64; decide)) (hr.alloc _)).mono ?_
    · have := hr.lt; omega
    · rintro e w2 ⟨z, rfl, hz, hr2, hg2⟩
      replace hg := grown_trans (grown_trans hg (grown_alloc _ _ _)) hg2
      clear hg2 hr
      go_wp2_with fail
      go_ret
      exact ⟨_, rfl, hz, hr2, hg⟩
  · have n0 : (x == 0) = false := by rw [beq_eq_false_iff_ne]; exact e0
    by_cases e1 : x = 1
    · subst e1
      go_wp2_with fail
      refine (word_r _ p a len cap hr).mono ?_
      rintro e w2 ⟨z, rfl, ⟨z0, z1⟩, hr2, hg2⟩
      replace hg := grown_trans hg hg2
      clear hg2 hr
      go_wp2_with fail
      go_ret
      exact ⟨_, rfl, by unfold I64; omega, hr2, hg⟩
    · have n1 : (x == 1) = false := by rw [beq_eq_false_iff_ne]; exact e1
      clear e0 e1
      go_wp2_with fail
      refine (below_r _ p a len cap 70000 (by omega) (by omega) hr).mono ?_
      rintro e w2 ⟨z, rfl, z0, z1, hr2, hg2⟩
      replace hg := grown_trans hg hg2
      clear hg2 hr
      go_wp2_with fail
      go_ret
      exact ⟨_, rfl, by unfold I64; omega, hr2, hg⟩
/-- A cursor that was just made. -/
theorem ready_new (w : World) (a : Option Addr) (len cap : Nat) (h : Int) (hc : CodeAt w a len w.heap.size) : Ready (w.alloc (.cells #[.slice a len cap, .int .i64 0, .int .i64 h] 49)) w.heap.size a len cap :=
  ⟨⟨0, h, Nat.zero_le _, heap_alloc_new w _⟩, hc.below ((Below.refl _ _).alloc (Nat.le_refl _) _)⟩
theorem below_new {w w' : World} {o : Obj} (hg : (w.alloc o).grownBy w' (some w.heap.size)) : Below w.heap.size w w' :=
  ((Below.refl _ w).alloc (Nat.le_refl _) o).grown hg (by simp) (fun k hk => by simp at hk; omega)
theorem draw_putnum (w : World) (a : Option Addr) (len cap : Nat) (hc : CodeAt w a len w.heap.size) : Calls Try.prog 8 #[.slice a len cap] w fun e w' => ∃ z : Int, e = .returned (.int .i64 z) ∧ I64 z ∧ Below w.heap.size w w' := by
  go_enter Try.func8, Try.ntmps8
  go_wp2_with fail
  refine (new_c _ a len cap hc).mono ?_
  rintro e w1 ⟨h, rfl, rfl⟩
  go_wp2_with fail
  refine (num_r _ _ a len cap (ready_new w a len cap h hc)).mono ?_
  rintro e w2 ⟨z, rfl, hz, hr2, hg2⟩
  go_wp2_with fail
  go_ret
  exact ⟨z, rfl, hz, below_new hg2⟩
theorem draw_unfold (w : World) (a : Option Addr) (len cap : Nat) (hc : CodeAt w a len w.heap.size) : Calls Try.prog 13 #[.slice a len cap] w fun e w' => ∃ z : Int, e = .returned (.int .i64 z) ∧ I64 z ∧ Below w.heap.size w w' := by
  go_enter Try.func13, Try.ntmps13
  go_wp2_with fail
  refine (new_c _ a len cap hc).mono ?_
  rintro e w1 ⟨h, rfl, rfl⟩
  go_wp2_with fail
  refine (num_r _ _ a len cap (ready_new w a len cap h hc)).mono ?_
  rintro e w2 ⟨z, rfl, hz, hr2, hg2⟩
  go_wp2_with fail
  go_ret
  exact ⟨z, rfl, hz, below_new hg2⟩
theorem draw_fold (w : World) (a : Option Addr) (len cap : Nat) (hc : CodeAt w a len w.heap.size) : Calls Try.prog 6 #[.slice a len cap] w fun e w' => ∃ z : Int, e = .returned (.int .i64 z) ∧ I64 z ∧ Below w.heap.size w w' := by
  go_enter Try.func6, Try.ntmps6
  go_wp2_with fail
  refine (new_c _ a len cap hc).mono ?_
  rintro e w1 ⟨h, rfl, rfl⟩
  go_wp2_with fail
  refine (once_r _ _ a len cap 2 (by omega) (by omega) (ready_new w a len cap h hc)).mono ?_
  rintro e w2 ⟨b, rfl, hr2, hg⟩
  cases b
  · go_wp2_with fail
    refine (num_r _ _ a len cap hr2).mono ?_
    rintro e w3 ⟨z, rfl, hz, hr3, hg2⟩
    replace hg := grown_trans hg hg2
    go_wp2_with fail
    go_ret
    exact ⟨z, rfl, hz, below_new hg⟩
  · go_wp2_with fail
    refine (below_r _ _ a len cap 100000 (by omega) (by omega) hr2).mono ?_
    rintro e w3 ⟨z, rfl, z0, z1, hr3, hg2⟩
    replace hg := grown_trans hg hg2
    go_wp2_with fail
    go_ret
    exact ⟨_, rfl, by unfold I64; omega, below_new hg⟩
end Go.Proofs.Ytaiifgmlnjgkpaa
