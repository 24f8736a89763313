/- Shapes out of bytes, the landed one's inner function: where it refuses ahead of its points. -/
import Derived.Test.YtfmchkagdaaeeaaDoorRight
namespace Go.Proofs.YtfmchkagdaaeeaaDoor
open Go.RowKit
set_option linter.unusedVariables false
set_option maxHeartbeats 1000000 in
theorem sob_out (s : ByteArray) (i : Int) (hs : s.size ≤ 1048576) (hi : ¬ (0 ≤ i ∧ i < (s.size : Int))) (w : World) : Calls Tryd.prog 15 #[.string s, .int .i64 i] w fun e w' => Refused e ∧ Below w.heap.size w w' := by
  by_cases h : i < 0
  · go_enter Tryd.func15, Tryd.ntmps15
    go_wp2_with fail
    exact ⟨rfl, ⟨_, rfl⟩, balloc (Below.refl _ _) _⟩
  · have h0 : 0 ≤ i := by omega
    have h1 : (s.size : Int) ≤ i := by omega
    go_enter Tryd.func15, Tryd.ntmps15
    go_wp2_with fail
    exact ⟨rfl, ⟨_, rfl⟩, balloc (Below.refl _ _) _⟩
set_option maxHeartbeats 1000000 in
theorem sob_no (s : ByteArray) (i : Nat) (hs : s.size ≤ 1048576) (hi : i < s.size) (h : rd s ((i : Int) + 1) = none ∨ ∃ n p, rd s ((i : Int) + 1) = some (n, p) ∧ 60 < n) (w : World) : Calls Tryd.prog 15 #[.string s, .int .i64 i] w fun e w' => Refused e ∧ Below w.heap.size w w' := by
  have hi' : (i : Int) < (s.size : Int) := by omega
  have hi0 : (0 : Int) ≤ (i : Int) := by omega
  have HC : Hid (∀ (W : World) (R : Nat), RdAt W R s ((i : Int) + 1) → Calls Tryd.prog 25 #[.pointer (some ⟨R, 0, none⟩)] W fun e w' => Refused e ∧ W.grownBy w' (some R)) := hid (fun W R hb => by
    rcases h with h | ⟨n, p, h, hn⟩
    · exact count_no W R s _ (by unfold maxLen; omega) hb h
    · exact count_great W R s _ n p (by unfold maxLen; omega) hb h hn)
  clear h
  go_enter Tryd.func15, Tryd.ntmps15
  go_wp2_with fail
  have g := new_alloc (w.alloc (.cells #[.int .i64 0, .slice none 0 0] 24)) (w.heap.size + 1) (.cells #[.string s, .int .i64 ((i : Int) + 1)] 50) (by simp)
  have hB : Below w.heap.size w ((w.alloc (.cells #[.int .i64 0, .slice none 0 0] 24)).alloc (.cells #[.string s, .int .i64 ((i : Int) + 1)] 50)) := balloc (balloc (Below.refl _ _) _) _
  generalize ((w.alloc (.cells #[.int .i64 0, .slice none 0 0] 24)).alloc (.cells #[.string s, .int .i64 ((i : Int) + 1)] 50)) = W at *
  refine (HC.out _ _ g).mono ?_
  rintro e W1 ⟨⟨v, rfl⟩, hg⟩
  go_wp2_with fail
  exact ⟨rfl, ⟨_, rfl⟩, bgrown hB hg (by omega)⟩
end Go.Proofs.YtfmchkagdaaeeaaDoor
