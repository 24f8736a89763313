/- Texts of stores, joined: Catch, GetI. -/
import Derived.Test.YtfjmbbjcghopgaaGreatDoorJ38
import Derived.Test.YtfjmbbjcghopgaaGreatDoorJ23
import Derived.Tactics
import Derived.Tactics2
import Derived.Defers
import Derived.Recover
import Derived.Test.YtfjmbbjcghopgaaGreatDoorJ37
namespace Go.Proofs.YtfjmbbjcghopgaaGreatDoor
open Go.RowKit Go.Extern.Stop Go.Stop Go.Extern
theorem ta_err (v : Value) (w : World) : (Instr.typeAssert (.iface 103 v) 20 100 true).run Tryz.prog w = .ok (.tuple #[.iface 103 v, .bool true]) w := by kernel_rfl
theorem ta_nil (w : World) : (Instr.typeAssert .nilIface 20 100 true).run Tryz.prog w = .ok (.tuple #[.nilIface, .bool false]) w := by kernel_rfl
set_option maxHeartbeats 1000000 in
theorem catch_panicking (t : ByteArray) (older : List PanicEntry) (w : World) (hg : w.cell? ⟨0, 0, none⟩ = some (.iface 143 (.agg #[.pointer (some ⟨1, 100, none⟩)]))) :
    CallsD Tryz.prog 66 #[] (.panicking ({ v := .iface 103 (.agg #[.string t]), recovered := false } :: older)) w fun e u' w' =>
      e = .returned (.tuple #[]) ∧ u' = .panicking ({ v := .iface 103 (.agg #[.string t]), recovered := true } :: older) ∧ Below w.heap.size w w' := by
  have hta := ta_err (.agg #[.string t])
  refine callsD_of_wpS Tryz.func66 rfl fun c₀ cs hu => ?_
  apply wpS_seq
  apply wpS_region
  simp [wpOpsS, go_sem, recoverD, hu, Tryz.ntmps66, Exit.thenS, hta]
  refine wpS_of_wp ?_
  refine (show Code.wp Tryz.prog _ _ { tmps := #[(.iface 103 (.agg #[.string t])), .bool true, undef, .tuple #[(.iface 103 (.agg #[.string t])), .bool true], (.iface 103 (.agg #[.string t])), .tuple #[(.iface 103 (.agg #[.string t])), .bool true], (.iface 103 (.agg #[.string t])), .bool true, undef, undef, undef, undef, undef, undef], defers := [] } w from ?_)
  have hgA : (w.alloc (.cells #[.string ⟨#[]⟩] 103)).cell? ⟨0, 0, none⟩ = some (.iface 143 (.agg #[.pointer (some ⟨1, 100, none⟩)])) := by
    rw [World.cell?_alloc_lt _ _ ⟨0, 0, none⟩ (World.block_lt_of_cell? w ⟨0, 0, none⟩ hg)]; exact hg
  have htA : (w.alloc (.cells #[.string ⟨#[]⟩] 103)).cell? ⟨w.heap.size, 0, none⟩ = some (.string ⟨#[]⟩) := by simp
  have hfA : (w.alloc (.cells #[.string ⟨#[]⟩] 103)).frozen? ⟨w.heap.size, 0, none⟩ = false := by simp
  go_wp2_with (go_at_call 67; refine (as_hit t _ _ _ hgA htA hfA).mono ?_; rintro e w' ⟨rfl, rfl⟩)
  have hb : Below w.heap.size w (((((w.alloc (.cells #[.string t] 103)).alloc (.cells #[.pointer (some ⟨w.heap.size, 0, none⟩)] 105)).alloc (.cells #[.pointer (some ⟨1, 105, none⟩), .pointer (some ⟨w.heap.size + 1, 0, none⟩), .int .u64 150] 123)).alloc (.cells #[.pointer (some ⟨1, 105, none⟩), .pointer (some ⟨w.heap.size + 1, 0, none⟩), .int .u64 150] 123)).alloc (.cells #[.string t] 103)) := balloc (balloc (balloc (balloc (balloc (Below.refl _ _) _) _) _) _) _
  simp [bodyPostS, results, Tryz.results66, hb]
theorem catch_idle (w : World) :
    CallsD Tryz.prog 66 #[] .returning w fun e u' w' => e = .returned (.tuple #[]) ∧ u' = .returning ∧ w' = w := by
  have hta := ta_nil
  refine callsD_of_wpS Tryz.func66 rfl fun c₀ cs hu => ?_
  apply wpS_seq
  apply wpS_region
  simp [wpOpsS, go_sem, recoverD, hu, Tryz.ntmps66, Exit.thenS, hta]
  refine wpS_of_wp ?_
  go_simp
  go_wp2_with fail
  cases c₀
  simp_all [bodyPostS, results, Tryz.results66]
end Go.Proofs.YtfjmbbjcghopgaaGreatDoor
namespace Go.Proofs.YtfjmbbjcghopgaaGreatDoor
open Go.RowKit
set_option linter.unusedVariables false
theorem sob_all (s : ByteArray) (i : Int) (hs : s.size ≤ 1048576) (w : World) : Calls Tryz.prog 86 #[.string s, .int .i64 i] w fun e w' => SOB w (gso s 2000000000 i) e w' := by
  by_cases hi : 0 ≤ i ∧ i < (s.size : Int)
  · obtain ⟨k, rfl⟩ := Int.eq_ofNat_of_zero_le hi.1
    have hk : k < s.size := by omega
    cases h : rd s ((k : Int) + 1) with
    | none => exact (sob_no s k hs hk (.inl h) w).mono fun e w' hh => sob_refused (by rw [gso_in s _ k hk, h]) hh.1 hh.2
    | some r =>
      obtain ⟨n, p⟩ := r
      by_cases hn : 60 < n
      · exact (sob_no s k hs hk (.inr ⟨n, p, h, hn⟩) w).mono fun e w' hh => sob_refused (by rw [gso_in s _ k hk, h]; simp only; rw [if_pos hn]) hh.1 hh.2
      · exact sob_ok s k hs hk n p h (by omega) w
  · exact (sob_out s i hs hi w).mono fun e w' hh => sob_refused (by unfold gso; rw [if_neg hi]) hh.1 hh.2
/-- The closure's five blocks, and all below them as it was. -/
def GB (w0 w : World) (s : ByteArray) (i : Int) (k q : Int) (v : Value) : Prop :=
  w.heap[w0.heap.size]? = some (.cells #[.string s] 9 (0, 0)) ∧ w.heap[w0.heap.size + 1]? = some (.cells #[.int .i64 i] 3 (0, 0)) ∧ w.heap[w0.heap.size + 2]? = some (.cells #[.int .i64 0, .slice none 0 0] 52 (0, 0)) ∧ w.heap[w0.heap.size + 3]? = some (.cells #[.int .i64 k, v] 52 (0, 0)) ∧ w.heap[w0.heap.size + 4]? = some (.cells #[.int .i64 q] 3 (0, 0)) ∧ Below w0.heap.size w0 w
theorem GB.below {w0 w w' : World} {s : ByteArray} {i k q : Int} {v : Value} (h : GB w0 w s i k q v) (hb : Below w.heap.size w w') : GB w0 w' s i k q v := by
  obtain ⟨h0, h1, h2, h3, h4, h5⟩ := h
  exact ⟨keepheap hb h0, keepheap hb h1, keepheap hb h2, keepheap hb h3, keepheap hb h4, btrans h5 hb⟩
end Go.Proofs.YtfjmbbjcghopgaaGreatDoor
