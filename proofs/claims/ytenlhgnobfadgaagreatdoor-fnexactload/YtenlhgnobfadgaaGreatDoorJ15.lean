/- Texts of stores, joined: Catch. -/
import Derived.Test.YtenlhgnobfadgaaGreatDoorJ7
import Derived.Test.YtenlhgnobfadgaaGreatDoorJ14
import Derived.Tactics
import Derived.Tactics2
import Derived.Defers
import Derived.Recover
set_option linter.unusedSimpArgs false
set_option linter.unusedVariables false
namespace Go.Proofs.YtenlhgnobfadgaaGreatDoor
open Go.RowKit Go.Extern.Stop Go.Stop Go.Extern
theorem ta_err (v : Value) (w : World) : (Instr.typeAssert (.iface 167 v) 20 67 true).run Tryz.prog w = .ok (.tuple #[.iface 167 v, .bool true]) w := by kernel_rfl
theorem ta_nil (w : World) : (Instr.typeAssert .nilIface 20 67 true).run Tryz.prog w = .ok (.tuple #[.nilIface, .bool false]) w := by kernel_rfl
set_option maxHeartbeats 1000000 in
theorem catch_panicking (t : ByteArray) (older : List PanicEntry) (w : World) (hg : w.cell? ⟨2, 0, none⟩ = some (.iface 235 (.agg #[.pointer (some ⟨10, 67, none⟩)]))) :
    CallsD Tryz.prog 135 #[] (.panicking ({ v := .iface 167 (.agg #[.string t]), recovered := false } :: older)) w fun e u' w' =>
      e = .returned (.tuple #[]) ∧ u' = .panicking ({ v := .iface 167 (.agg #[.string t]), recovered := true } :: older) ∧ Below w.heap.size w w' := by
  have hta := ta_err (.agg #[.string t])
  refine callsD_of_wpS Tryz.func135 rfl fun c₀ cs hu => ?_
  apply wpS_seq
  apply wpS_region
  simp [wpOpsS, go_sem, recoverD, hu, Tryz.ntmps135, Exit.thenS, hta]
  refine wpS_of_wp ?_
  refine (show Code.wp Tryz.prog _ _ { tmps := #[(.iface 167 (.agg #[.string t])), .bool true, undef, .tuple #[(.iface 167 (.agg #[.string t])), .bool true], (.iface 167 (.agg #[.string t])), .tuple #[(.iface 167 (.agg #[.string t])), .bool true], (.iface 167 (.agg #[.string t])), .bool true, undef, undef, undef, undef, undef, undef], defers := [] } w from ?_)
  have hgA : (w.alloc (.cells #[.string ⟨#[]⟩] 167)).cell? ⟨2, 0, none⟩ = some (.iface 235 (.agg #[.pointer (some ⟨10, 67, none⟩)])) := by
    rw [World.cell?_alloc_lt _ _ ⟨2, 0, none⟩ (World.block_lt_of_cell? w ⟨2, 0, none⟩ hg)]; exact hg
  have htA : (w.alloc (.cells #[.string ⟨#[]⟩] 167)).cell? ⟨w.heap.size, 0, none⟩ = some (.string ⟨#[]⟩) := by simp
  have hfA : (w.alloc (.cells #[.string ⟨#[]⟩] 167)).frozen? ⟨w.heap.size, 0, none⟩ = false := by simp
  go_wp2_with (go_at_call 136; refine (as_hit t _ _ _ hgA htA hfA).mono ?_; rintro e w' ⟨rfl, rfl⟩)
  have hb : Below w.heap.size w (((((w.alloc (.cells #[.string t] 167)).alloc (.cells #[.pointer (some ⟨w.heap.size, 0, none⟩)] 169)).alloc (.cells #[.pointer (some ⟨10, 169, none⟩), .pointer (some ⟨w.heap.size + 1, 0, none⟩), .int .u64 150] 205)).alloc (.cells #[.pointer (some ⟨10, 169, none⟩), .pointer (some ⟨w.heap.size + 1, 0, none⟩), .int .u64 150] 205)).alloc (.cells #[.string t] 167)) := balloc (balloc (balloc (balloc (balloc (Below.refl _ _) _) _) _) _) _
  simp [bodyPostS, results, Tryz.results135, hb]
theorem catch_idle (w : World) :
    CallsD Tryz.prog 135 #[] .returning w fun e u' w' => e = .returned (.tuple #[]) ∧ u' = .returning ∧ w' = w := by
  have hta := ta_nil
  refine callsD_of_wpS Tryz.func135 rfl fun c₀ cs hu => ?_
  apply wpS_seq
  apply wpS_region
  simp [wpOpsS, go_sem, recoverD, hu, Tryz.ntmps135, Exit.thenS, hta]
  refine wpS_of_wp ?_
  go_simp
  go_wp2_with fail
  cases c₀
  simp_all [bodyPostS, results, Tryz.results135]
set_option maxHeartbeats 1000000 in
theorem whole_ok_r (cb : Array Value) (w : World) (R : World → Prop) (h : Calls Tryz.prog 98 cb w fun e w' => e = .returned (.tuple #[]) ∧ R w') : Calls Tryz.prog 97 #[.func (.func 98) #[] cb] w fun e w' => e = .returned (.bool true) ∧ R w' := by
  have hmf : ∀ (fn : Fn) (first cap : Array Value) (w : World), (Instr.makeFunc fn first cap).run Tryz.prog w = .ok (.func fn first cap) w := fun _ _ _ _ => rfl
  have H := hid h
  clear h
  go_enter_defers Tryz.func97, Tryz.ntmps97
  go_wp2_with fail
  refine H.out.mono ?_
  rintro e w1 ⟨rfl, hR⟩
  go_wp2_with fail
  refine leaves_cons (f := 135) (args := #[]) (by simp) (by simp [go_sem]) ?_
  refine (catch_idle _).mono ?_
  rintro e u' w'' ⟨rfl, rfl, rfl⟩
  simp [Leaves, settle, results, Tryz.results97, go_sem, hR]
set_option maxHeartbeats 1000000 in
theorem whole_no_r (cb : Array Value) (w : World) (R : World → Prop) (h : Calls Tryz.prog 98 cb w fun e w' => Refused e ∧ R w') (hR : ∀ w', R w' → w'.cell? ⟨2, 0, none⟩ = some (.iface 235 (.agg #[.pointer (some ⟨10, 67, none⟩)]))) : Calls Tryz.prog 97 #[.func (.func 98) #[] cb] w fun e w' => e = .returned (.bool false) ∧ ∃ w1, R w1 ∧ Below w1.heap.size w1 w' := by
  have hmf : ∀ (fn : Fn) (first cap : Array Value) (w : World), (Instr.makeFunc fn first cap).run Tryz.prog w = .ok (.func fn first cap) w := fun _ _ _ _ => rfl
  have H := hid h
  clear h
  go_enter_defers Tryz.func97, Tryz.ntmps97
  go_wp2_with fail
  refine H.out.mono ?_
  rintro e w1 ⟨⟨t, rfl⟩, h1⟩
  go_wp2_with fail
  refine leaves_cons (f := 135) (args := #[]) (by simp) (by simp [go_sem]) ?_
  refine (catch_panicking t [] _ (hR _ h1)).mono ?_
  rintro e u' w'' ⟨rfl, rfl, hb⟩
  simp [Leaves, settle, results, Tryz.results97, go_sem]
  exact ⟨_, h1, hb⟩
end Go.Proofs.YtenlhgnobfadgaaGreatDoor
