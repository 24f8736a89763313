/- A right shape out of its kind and points, or a refusal. -/
import Derived.Test.YtfmchkagdaaeeaaGreatDoorGetSp
import Derived.Test.YtfmchkagdaaeeaaGreatDoorShapeOk
namespace Go.Proofs.YtfmchkagdaaeeaaGreatDoor
open Go.RowKit
set_option maxHeartbeats 1000000 in
theorem right_no (w : World) (k : Int) (a : Option Addr) (cap : Nat) (ps : List (Int × Int)) (hm : ps.length ≤ 1099511627776) (hc : ps.length ≤ cap) (h : Pts w a ps) (hk : shok k ps = false) : Calls Tryz.prog 25 #[.int .i64 k, .slice a ps.length cap] w fun e w' => Refused e ∧ Below w.heap.size w w' := by
  have O1 := hid (fun w' (hw : Pts w' a ps) => impl_ShapeOk k a cap ps w' hm hc hw)
  rw [hk] at O1
  have HP := hid h
  clear h hk
  generalize ps.length = n at *
  go_enter Tryz.func25, Tryz.ntmps25
  go_wp2_with fail
  have hB : Below w.heap.size w ((w.alloc (.cells #[.int .i64 0, .slice none 0 0] 24)).alloc (.cells #[.int .i64 k, .slice a n cap] 24)) := balloc (balloc (Below.refl _ _) _) _
  have hP := HP.out.below hB
  generalize ((w.alloc (.cells #[.int .i64 0, .slice none 0 0] 24)).alloc (.cells #[.int .i64 k, .slice a n cap] 24)) = W at *
  refine (O1.out _ hP).mono ?_
  rintro e W1 ⟨rfl, hcl⟩
  go_wp2_with fail
  exact ⟨rfl, ⟨_, rfl⟩, btrans hB hcl⟩
set_option maxHeartbeats 1000000 in
theorem right_ok (w : World) (k : Int) (a : Option Addr) (cap : Nat) (ps : List (Int × Int)) (hm : ps.length ≤ 1099511627776) (hc : ps.length ≤ cap) (h : Pts w a ps) (hk : shok k ps = true) : Calls Tryz.prog 25 #[.int .i64 k, .slice a ps.length cap] w fun e w' => e = .returned (shv k a ps.length cap) ∧ Below w.heap.size w w' := by
  have O1 := hid (fun w' (hw : Pts w' a ps) => impl_ShapeOk k a cap ps w' hm hc hw)
  rw [hk] at O1
  have HP := hid h
  clear h hk
  generalize ps.length = n at *
  go_enter Tryz.func25, Tryz.ntmps25
  go_wp2_with fail
  have g5 := new_alloc (w.alloc (.cells #[.int .i64 0, .slice none 0 0] 24)) (w.heap.size + 1) (.cells #[.int .i64 k, .slice a n cap] 24) (by simp)
  have g4 := old_alloc (o' := .cells #[.int .i64 k, .slice a n cap] 24) (new_alloc w w.heap.size (.cells #[.int .i64 0, .slice none 0 0] 24) rfl)
  have hB : Below w.heap.size w ((w.alloc (.cells #[.int .i64 0, .slice none 0 0] 24)).alloc (.cells #[.int .i64 k, .slice a n cap] 24)) := balloc (balloc (Below.refl _ _) _) _
  have hP := HP.out.below hB
  generalize ((w.alloc (.cells #[.int .i64 0, .slice none 0 0] 24)).alloc (.cells #[.int .i64 k, .slice a n cap] 24)) = W at *
  refine (O1.out _ hP).mono ?_
  rintro e W1 ⟨rfl, hcl⟩
  replace g4 := keepheap hcl g4
  replace g5 := keepheap hcl g5
  replace hB := btrans hB hcl
  clear hcl
  obtain ⟨x0, x1, _, _⟩ := cell2g g5
  obtain ⟨y0, y1, y2, y3⟩ := cell2g g4
  go_wp2_with fail
  have gF := (set2 g4 (.int .i64 k) (.slice a n cap)).1
  have bF := bset (bset hB (q := w.heap.size) (k := 0) (by omega) (.int .i64 k)) (q := w.heap.size) (k := 1) (by omega) (.slice a n cap)
  generalize (W1.setCell ⟨w.heap.size, 0, none⟩ (.int .i64 k)).setCell ⟨w.heap.size, 1, none⟩ (.slice a n cap) = wf at *
  obtain ⟨z0, z1, _, _⟩ := cell2g gF
  exact bodyPost_ret (v := .agg #[(.int .i64 k), (.slice a n cap)]) (by simp [results, Tryz.results25, go_sem, z0, z1]) rfl ⟨rfl, bF⟩
end Go.Proofs.YtfmchkagdaaeeaaGreatDoor
