/- The specification's TreeItems. -/
import Derived.Test.YtmdnelgnpponpaaFg
import Derived.Test.YtmdnelgnpponpaaFj
namespace Go.Proofs.Ytmdnelgnpponpaa
open Go.RowKit
set_option linter.unusedSimpArgs false
set_option linter.unusedVariables false
theorem ItG.base {w : World} {B B' g c : Nat} {l : List It} (h : ItG w B g c l) (hB : B' ≤ B) : ItG w B' g c l := by
  obtain ⟨h1, h2⟩ := h
  refine ⟨h1, ?_⟩
  rcases h2 with ⟨q, _⟩ | ⟨g', c', cur, e, q1, q2⟩
  · cases q
  · exact .inr ⟨g', c', cur, e, by omega, q2⟩
set_option maxRecDepth 100000 in
set_option maxHeartbeats 2000000 in
theorem spec_TreeItems (m lo : Nat) (t : KT) (ia ka : Option Addr) (w : World) (h : Kn lo m w ia ka t) (hz : ksz m t ≤ 1048576) : Calls Try.prog 13 #[kvo t ia ka] w fun e w' => ∃ g c, e = .returned (.slice (some ⟨g, 0, none⟩) (itm 20 t).length c) ∧ ItG w' w.heap.size g c (itm 20 t) ∧ Below w.heap.size w w' := by
  obtain ⟨b0, b1, b2, b3, b4, ni, nk, hf⟩ := kf t
  have C := hid (fun (W : World) (hb : Below w.heap.size w W) => spec_items 20 (by omega) m lo t ia ka W (h.below hb) hz)
  rw [kvo_of hf] at C ⊢
  have B0 := hid (balloc (Below.refl w.heap.size w) (.cells #[.int .i64 b0, .int .i64 b1, .int .i64 b2, .int .i64 b3, .bool b4, .slice ia ni ni, .slice ka nk nk] 34))
  clear h hf
  generalize itm 20 t = L at *
  go_enter Try.func13, Try.ntmps13
  go_wp2_with fail
  refine (C.out _ B0.out).mono ?_
  rintro e w1 ⟨g, c, rfl, hG, hb⟩
  have HG := hid (hG.base B0.out.size)
  have B1 := hid (btrans B0.out hb)
  clear hG hb
  go_wp2_with fail
  go_ret
  exact ⟨g, c, rfl, HG.out, B1.out⟩
end Go.Proofs.Ytmdnelgnpponpaa
