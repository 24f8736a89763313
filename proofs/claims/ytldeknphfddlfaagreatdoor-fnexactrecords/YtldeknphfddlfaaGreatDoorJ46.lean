/- Texts of stores, joined: Catch. -/
import Derived.Test.YtldeknphfddlfaaGreatDoorJ45
import Derived.Test.YtldeknphfddlfaaGreatDoorJ9
import Derived.Tactics
import Derived.Tactics2
import Derived.Defers
import Derived.Recover
set_option linter.unusedSimpArgs false
set_option linter.unusedVariables false
namespace Go.Proofs.YtldeknphfddlfaaGreatDoor
open Go.RowKit Go.Extern.Stop Go.Stop Go.Extern
theorem ta_err (v : Value) (w : World) : (Instr.typeAssert (.iface 65 v) 20 62 true).run Tryz.prog w = .ok (.tuple #[.iface 65 v, .bool true]) w := by kernel_rfl
theorem ta_nil (w : World) : (Instr.typeAssert .nilIface 20 62 true).run Tryz.prog w = .ok (.tuple #[.nilIface, .bool false]) w := by kernel_rfl
set_option maxHeartbeats 1000000 in
theorem catch_panicking (t : ByteArray) (older : List PanicEntry) (w : World) (hg : w.cell? ⟨0, 0, none⟩ = some (.iface 112 (.agg #[.pointer (some ⟨1, 62, none⟩)]))) :
    CallsD Tryz.prog 34 #[] (.panicking ({ v := .iface 65 (.agg #[.string t]), recovered := false } :: older)) w fun e u' w' =>
      e = .returned (.tuple #[]) ∧ u' = .panicking ({ v := .iface 65 (.agg #[.string t]), recovered := true } :: older) ∧ Below w.heap.size w w' := by
  have hta := ta_err (.agg #[.string t])
  refine callsD_of_wpS Tryz.func34 rfl fun c₀ cs hu => ?_
  apply wpS_seq
  apply wpS_region
  simp [wpOpsS, go_sem, recoverD, hu, Tryz.ntmps34, Exit.thenS, hta]
  refine wpS_of_wp ?_
  refine (show Code.wp Tryz.prog _ _ { tmps := #[(.iface 65 (.agg #[.string t])), .bool true, undef, .tuple #[(.iface 65 (.agg #[.string t])), .bool true], (.iface 65 (.agg #[.string t])), .tuple #[(.iface 65 (.agg #[.string t])), .bool true], (.iface 65 (.agg #[.string t])), .bool true, undef, undef, undef, undef, undef, undef], defers := [] } w from ?_)
  have hgA : (w.alloc (.cells #[.string ⟨#[]⟩] 65)).cell? ⟨0, 0, none⟩ = some (.iface 112 (.agg #[.pointer (some ⟨1, 62, none⟩)])) := by
    rw [World.cell?_alloc_lt _ _ ⟨0, 0, none⟩ (World.block_lt_of_cell? w ⟨0, 0, none⟩ hg)]; exact hg
  have htA : (w.alloc (.cells #[.string ⟨#[]⟩] 65)).cell? ⟨w.heap.size, 0, none⟩ = some (.string ⟨#[]⟩) := by simp
  have hfA : (w.alloc (.cells #[.string ⟨#[]⟩] 65)).frozen? ⟨w.heap.size, 0, none⟩ = false := by simp
  go_wp2_with (go_at_call 35; refine (as_hit t _ _ _ hgA htA hfA).mono ?_; rintro e w' ⟨rfl, rfl⟩)
  have hb : Below w.heap.size w (((((w.alloc (.cells #[.string t] 65)).alloc (.cells #[.pointer (some ⟨w.heap.size, 0, none⟩)] 67)).alloc (.cells #[.pointer (some ⟨1, 67, none⟩), .pointer (some ⟨w.heap.size + 1, 0, none⟩), .int .u64 150] 86)).alloc (.cells #[.pointer (some ⟨1, 67, none⟩), .pointer (some ⟨w.heap.size + 1, 0, none⟩), .int .u64 150] 86)).alloc (.cells #[.string t] 65)) := balloc (balloc (balloc (balloc (balloc (Below.refl _ _) _) _) _) _) _
  simp [bodyPostS, results, Tryz.results34, hb]
theorem catch_idle (w : World) :
    CallsD Tryz.prog 34 #[] .returning w fun e u' w' => e = .returned (.tuple #[]) ∧ u' = .returning ∧ w' = w := by
  have hta := ta_nil
  refine callsD_of_wpS Tryz.func34 rfl fun c₀ cs hu => ?_
  apply wpS_seq
  apply wpS_region
  simp [wpOpsS, go_sem, recoverD, hu, Tryz.ntmps34, Exit.thenS, hta]
  refine wpS_of_wp ?_
  go_simp
  go_wp2_with fail
  cases c₀
  simp_all [bodyPostS, results, Tryz.results34]
end Go.Proofs.YtldeknphfddlfaaGreatDoor
