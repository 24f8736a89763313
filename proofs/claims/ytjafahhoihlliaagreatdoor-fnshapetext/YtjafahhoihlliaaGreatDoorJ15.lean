/- Texts of stores, joined: Catch. -/
import Derived.Test.YtjafahhoihlliaaGreatDoorJ7
import Derived.Test.YtjafahhoihlliaaGreatDoorJ14
import Derived.Tactics
import Derived.Tactics2
import Derived.Defers
import Derived.Recover
set_option linter.unusedSimpArgs false
set_option linter.unusedVariables false
namespace Go.Proofs.YtjafahhoihlliaaGreatDoor
open Go.RowKit Go.Extern.Stop Go.Stop Go.Extern
theorem ta_err (v : Value) (w : World) : (Instr.typeAssert (.iface 96 v) 20 51 true).run Tryz.prog w = .ok (.tuple #[.iface 96 v, .bool true]) w := by kernel_rfl
theorem ta_nil (w : World) : (Instr.typeAssert .nilIface 20 51 true).run Tryz.prog w = .ok (.tuple #[.nilIface, .bool false]) w := by kernel_rfl
set_option maxHeartbeats 1000000 in
theorem catch_panicking (t : ByteArray) (older : List PanicEntry) (w : World) (hg : w.cell? ⟨1, 0, none⟩ = some (.iface 133 (.agg #[.pointer (some ⟨10, 51, none⟩)]))) :
    CallsD Tryz.prog 61 #[] (.panicking ({ v := .iface 96 (.agg #[.string t]), recovered := false } :: older)) w fun e u' w' =>
      e = .returned (.tuple #[]) ∧ u' = .panicking ({ v := .iface 96 (.agg #[.string t]), recovered := true } :: older) ∧ Below w.heap.size w w' := by
  have hta := ta_err (.agg #[.string t])
  refine callsD_of_wpS Tryz.func61 rfl fun c₀ cs hu => ?_
  apply wpS_seq
  apply wpS_region
  simp [wpOpsS, go_sem, recoverD, hu, Tryz.ntmps61, Exit.thenS, hta]
  refine wpS_of_wp ?_
  refine (show Code.wp Tryz.prog _ _ { tmps := #[(.iface 96 (.agg #[.string t])), .bool true, undef, .tuple #[(.iface 96 (.agg #[.string t])), .bool true], (.iface 96 (.agg #[.string t])), .tuple #[(.iface 96 (.agg #[.string t])), .bool true], (.iface 96 (.agg #[.string t])), .bool true, undef, undef, undef, undef, undef, undef], defers := [] } w from ?_)
  have hgA : (w.alloc (.cells #[.string ⟨#[]⟩] 96)).cell? ⟨1, 0, none⟩ = some (.iface 133 (.agg #[.pointer (some ⟨10, 51, none⟩)])) := by
    rw [World.cell?_alloc_lt _ _ ⟨1, 0, none⟩ (World.block_lt_of_cell? w ⟨1, 0, none⟩ hg)]; exact hg
  have htA : (w.alloc (.cells #[.string ⟨#[]⟩] 96)).cell? ⟨w.heap.size, 0, none⟩ = some (.string ⟨#[]⟩) := by simp
  have hfA : (w.alloc (.cells #[.string ⟨#[]⟩] 96)).frozen? ⟨w.heap.size, 0, none⟩ = false := by simp
  go_wp2_with (go_at_call 62; refine (as_hit t _ _ _ hgA htA hfA).mono ?_; rintro e w' ⟨rfl, rfl⟩)
  have hb : Below w.heap.size w (((((w.alloc (.cells #[.string t] 96)).alloc (.cells #[.pointer (some ⟨w.heap.size, 0, none⟩)] 98)).alloc (.cells #[.pointer (some ⟨10, 98, none⟩), .pointer (some ⟨w.heap.size + 1, 0, none⟩), .int .u64 150] 117)).alloc (.cells #[.pointer (some ⟨10, 98, none⟩), .pointer (some ⟨w.heap.size + 1, 0, none⟩), .int .u64 150] 117)).alloc (.cells #[.string t] 96)) := balloc (balloc (balloc (balloc (balloc (Below.refl _ _) _) _) _) _) _
  simp [bodyPostS, results, Tryz.results61, hb]
theorem catch_idle (w : World) :
    CallsD Tryz.prog 61 #[] .returning w fun e u' w' => e = .returned (.tuple #[]) ∧ u' = .returning ∧ w' = w := by
  have hta := ta_nil
  refine callsD_of_wpS Tryz.func61 rfl fun c₀ cs hu => ?_
  apply wpS_seq
  apply wpS_region
  simp [wpOpsS, go_sem, recoverD, hu, Tryz.ntmps61, Exit.thenS, hta]
  refine wpS_of_wp ?_
  go_simp
  go_wp2_with fail
  cases c₀
  simp_all [bodyPostS, results, Tryz.results61]
set_option maxHeartbeats 1000000 in
theorem whole_ok_g (cb : Array Value) (w : World) (R : World → Prop) (h : Calls Tryz.prog 40 cb w fun e w' => e = .returned (.tuple #[]) ∧ R w') : Calls Tryz.prog 37 #[.func (.func 40) #[] cb] w fun e w' => e = .returned (.bool true) ∧ R w' := by
  have hmf : ∀ (fn : Fn) (first cap : Array Value) (w : World), (Instr.makeFunc fn first cap).run Tryz.prog w = .ok (.func fn first cap) w := fun _ _ _ _ => rfl
  have H := hid h
  clear h
  go_enter_defers Tryz.func37, Tryz.ntmps37
  go_wp2_with fail
  refine H.out.mono ?_
  rintro e w1 ⟨rfl, hR⟩
  go_wp2_with fail
  refine leaves_cons (f := 61) (args := #[]) (by simp) (by simp [go_sem]) ?_
  refine (catch_idle _).mono ?_
  rintro e u' w'' ⟨rfl, rfl, rfl⟩
  simp [Leaves, settle, results, Tryz.results37, go_sem, hR]
set_option maxHeartbeats 1000000 in
theorem whole_no_g (cb : Array Value) (w : World) (R : World → Prop) (h : Calls Tryz.prog 40 cb w fun e w' => Refused e ∧ R w') (hR : ∀ w', R w' → w'.cell? ⟨1, 0, none⟩ = some (.iface 133 (.agg #[.pointer (some ⟨10, 51, none⟩)]))) : Calls Tryz.prog 37 #[.func (.func 40) #[] cb] w fun e w' => e = .returned (.bool false) ∧ ∃ w1, R w1 ∧ Below w1.heap.size w1 w' := by
  have hmf : ∀ (fn : Fn) (first cap : Array Value) (w : World), (Instr.makeFunc fn first cap).run Tryz.prog w = .ok (.func fn first cap) w := fun _ _ _ _ => rfl
  have H := hid h
  clear h
  go_enter_defers Tryz.func37, Tryz.ntmps37
  go_wp2_with fail
  refine H.out.mono ?_
  rintro e w1 ⟨⟨t, rfl⟩, h1⟩
  go_wp2_with fail
  refine leaves_cons (f := 61) (args := #[]) (by simp) (by simp [go_sem]) ?_
  refine (catch_panicking t [] _ (hR _ h1)).mono ?_
  rintro e u' w'' ⟨rfl, rfl, hb⟩
  simp [Leaves, settle, results, Tryz.results37, go_sem]
  exact ⟨_, h1, hb⟩
set_option maxHeartbeats 1000000 in
theorem whole_ok_r (cb : Array Value) (w : World) (R : World → Prop) (h : Calls Tryz.prog 38 cb w fun e w' => e = .returned (.tuple #[]) ∧ R w') : Calls Tryz.prog 37 #[.func (.func 38) #[] cb] w fun e w' => e = .returned (.bool true) ∧ R w' := by
  have hmf : ∀ (fn : Fn) (first cap : Array Value) (w : World), (Instr.makeFunc fn first cap).run Tryz.prog w = .ok (.func fn first cap) w := fun _ _ _ _ => rfl
  have H := hid h
  clear h
  go_enter_defers Tryz.func37, Tryz.ntmps37
  go_wp2_with fail
  refine H.out.mono ?_
  rintro e w1 ⟨rfl, hR⟩
  go_wp2_with fail
  refine leaves_cons (f := 61) (args := #[]) (by simp) (by simp [go_sem]) ?_
  refine (catch_idle _).mono ?_
  rintro e u' w'' ⟨rfl, rfl, rfl⟩
  simp [Leaves, settle, results, Tryz.results37, go_sem, hR]
set_option maxHeartbeats 1000000 in
theorem whole_no_r (cb : Array Value) (w : World) (R : World → Prop) (h : Calls Tryz.prog 38 cb w fun e w' => Refused e ∧ R w') (hR : ∀ w', R w' → w'.cell? ⟨1, 0, none⟩ = some (.iface 133 (.agg #[.pointer (some ⟨10, 51, none⟩)]))) : Calls Tryz.prog 37 #[.func (.func 38) #[] cb] w fun e w' => e = .returned (.bool false) ∧ ∃ w1, R w1 ∧ Below w1.heap.size w1 w' := by
  have hmf : ∀ (fn : Fn) (first cap : Array Value) (w : World), (Instr.makeFunc fn first cap).run Tryz.prog w = .ok (.func fn first cap) w := fun _ _ _ _ => rfl
  have H := hid h
  clear h
  go_enter_defers Tryz.func37, Tryz.ntmps37
  go_wp2_with fail
  refine H.out.mono ?_
  rintro e w1 ⟨⟨t, rfl⟩, h1⟩
  go_wp2_with fail
  refine leaves_cons (f := 61) (args := #[]) (by simp) (by simp [go_sem]) ?_
  refine (catch_panicking t [] _ (hR _ h1)).mono ?_
  rintro e u' w'' ⟨rfl, rfl, hb⟩
  simp [Leaves, settle, results, Tryz.results37, go_sem]
  exact ⟨_, h1, hb⟩
end Go.Proofs.YtjafahhoihlliaaGreatDoor
