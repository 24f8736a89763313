/- The landed TreeDepth, over what the landed TreeOk is. -/
import Derived.Test.YtmdnelgnpponpaaFj
namespace Go.Proofs.Ytmdnelgnpponpaa
open Go.RowKit
set_option linter.unusedSimpArgs false
set_option linter.unusedVariables false
set_option maxRecDepth 100000 in
set_option maxHeartbeats 2000000 in
theorem impl_TreeDepth_of (m lo : Nat) (t : KT) (ia ka : Option Addr) (w : World) (h : Kn lo m w ia ka t) (ok : Bool) (C1 : Hid (∀ W, Below w.heap.size w W → Calls Try.prog 11 #[kvo t ia ka] W fun e w' => e = .returned (.bool ok) ∧ Below W.heap.size W w')) : Calls Try.prog 28 #[kvo t ia ka] w fun e w' => e = .returned (.int .i64 (if ok = true then (dpt 7 t 1 : Int) else 0)) ∧ Below w.heap.size w w' := by
  have C2 := hid (fun (W : World) (hb : Below w.heap.size w W) => impl_depth m lo t ia ka W (h.below hb))
  obtain ⟨b0, b1, b2, b3, b4, ni, nk, hf⟩ := kf t
  rw [kvo_of hf] at C1 C2 ⊢
  have gT := hid (new_alloc w w.heap.size (.cells #[.int .i64 b0, .int .i64 b1, .int .i64 b2, .int .i64 b3, .bool b4, .slice ia ni ni, .slice ka nk nk] 34) rfl)
  have B0 := hid (balloc (Below.refl w.heap.size w) (.cells #[.int .i64 b0, .int .i64 b1, .int .i64 b2, .int .i64 b3, .bool b4, .slice ia ni ni, .slice ka nk nk] 34))
  clear h hf
  generalize dpt 7 t 1 = dd at *
  go_enter Try.func28, Try.ntmps28
  go_wp2_with fail
  generalize w.alloc (.cells #[.int .i64 b0, .int .i64 b1, .int .i64 b2, .int .i64 b3, .bool b4, .slice ia ni ni, .slice ka nk nk] 34) = v0 at *
  refine (C1.out _ B0.out).mono ?_
  rintro e v1 ⟨rfl, hb⟩
  replace gT := hid (keepheap hb gT.out)
  replace B0 := hid (btrans B0.out hb)
  clear hb C1
  obtain ⟨a0, a1, a2, a3, a4, a5, a6, _, _, _, _, _, _, _⟩ := cell7k gT.out
  cases ok
  · go_wp2_with fail
    go_ret
    exact ⟨rfl, B0.out⟩
  · go_wp2_with fail
    refine (C2.out _ B0.out).mono ?_
    rintro e v2 ⟨rfl, hb⟩
    replace B0 := hid (btrans B0.out hb)
    clear hb
    go_wp2_with fail
    go_ret
    exact ⟨rfl, B0.out⟩
end Go.Proofs.Ytmdnelgnpponpaa
