/- The landed PutNum answers the groups of seven bits of its number: its contract. -/
import Derived.Test.YtaiifgmlnjgkpaaRows
import Derived.Test.YtaiifgmlnjgkpaaWeave
import Derived.WalkKit
import Derived.Handy
import Derived.Laws.BitsAllLaws
import Derived.Laws.BytesArg
namespace Go.Proofs.Ytaiifgmlnjgkpaa
open Go.RowKit
def G : Nat → Nat → List Int
  | 0, _ => []
  | f + 1, r => if r ≤ 127 then [(r : Int)] else ((128 + r % 128 : Nat) : Int) :: G f (r / 128)
theorem G_last (f r : Nat) (h : r ≤ 127) : G (f + 1) r = [(r : Int)] := by simp [G, h]
theorem G_more (f r : Nat) (h : 127 < r) : G (f + 1) r = ((128 + r % 128 : Nat) : Int) :: G f (r / 128) := by simp [G, show ¬ r ≤ 127 by omega]
theorem conv5 (w : World) (k : Nat) (hk : k ≤ 5) (z0 z1 z2 z3 z4 : Int) :
    (convert 22 9 (.slice (some ⟨w.heap.size, 0, none⟩) k 5)).run Try.prog (w.alloc (.cells #[.int .u8 z0, .int .u8 z1, .int .u8 z2, .int .u8 z3, .int .u8 z4] 39)) =
      .ok (.string (strOfNums ([z0, z1, z2, z3, z4].take k))) (w.alloc (.cells #[.int .u8 z0, .int .u8 z1, .int .u8 z2, .int .u8 z3, .int .u8 z4] 39)) := by
  refine run_convert_bytes_arg _ 22 5 Try.underlying22 Try.underlying5 w.heap.size 0 k 5 _ (by simp; omega) (fun i hi => ?_) 9 Try.underlying9
  have : i = 0 ∨ i = 1 ∨ i = 2 ∨ i = 3 ∨ i = 4 := by omega
  rcases this with rfl | rfl | rfl | rfl | rfl <;> simp [go_sem, hi]
theorem or128 (r : Nat) (h : r ≤ 4000000000) : bits .or .u8 (bits .and .u32 (r : Int) 127 % 256) 128 = ((128 + r % 128 : Nat) : Int) := by
  have e1 : bits .and .u32 (r : Int) 127 = ((r % 128 : Nat) : Int) := by
    have := u32_and_nat r 127 (by omega) (by omega)
    rw [nat_mask7] at this; exact this
  have e2 : ((r % 128 : Nat) : Int) % 256 = ((r % 128 : Nat) : Int) := by omega
  have e3 := u8_or_nat (r % 128) 128 (by omega) (by omega)
  rw [Nat.or_comm, nat_join 7 128 (r % 128) (by omega) (by omega)] at e3
  rw [e1, e2]; exact e3
set_option maxHeartbeats 1000000 in
theorem impl_put (n : Nat) (hx : n ≤ 4000000000) (w : World) : Calls Try.prog 9 #[.int .i64 n] w fun e w' => e = .returned (.string (strOfNums (G 5 n))) ∧ Below w.heap.size w w' := by
  have d1 : (n:Int) ≤ 4000000000 := by omega
  have c1 := conv5 w 1 (by omega)
  have c2 := conv5 w 2 (by omega)
  have c3 := conv5 w 3 (by omega)
  have c4 := conv5 w 4 (by omega)
  have c5 := conv5 w 5 (by omega)
  go_enter Try.func9, Try.ntmps9
  go_wp2
  go_loopw [4, 5] (fun tr tm wr => ∃ r : Nat, ∃ m : Int, ∃ z0 z1 z2 z3 z4 : Int, tr = .int .u32 r ∧ tm = .int .i64 m ∧ wr = w.alloc (.cells #[.int .u8 z0, .int .u8 z1, .int .u8 z2, .int .u8 z3, .int .u8 z4] 39) ∧
     Hid ((m = 0 ∧ r ≤ 4000000000 ∧ G 5 n = G 5 r) ∨ (m = 1 ∧ r ≤ 31250000 ∧ G 5 n = [z0] ++ G 4 r) ∨ (m = 2 ∧ r ≤ 244140 ∧ G 5 n = [z0, z1] ++ G 3 r) ∨ (m = 3 ∧ r ≤ 1907 ∧ G 5 n = [z0, z1, z2] ++ G 2 r) ∨ (m = 4 ∧ r ≤ 14 ∧ G 5 n = [z0, z1, z2, z3] ++ G 1 r)))
     (fun tr _ _ => (intOf tr).toNat)
  case atStart => exact ⟨n, 0, 0, 0, 0, 0, 0, rfl, rfl, rfl, .inl ⟨rfl, hx, rfl⟩⟩
  case round =>
    obtain ⟨r, m, z0, z1, z2, z3, z4, rfl, rfl, rfl, H⟩ := hrel
    by_cases hr : r ≤ 127
    · have hr' : (r : Int) ≤ 127 := by omega
      rcases H.out with ⟨rfl, h1, h2⟩ | ⟨rfl, h1, h2⟩ | ⟨rfl, h1, h2⟩ | ⟨rfl, h1, h2⟩ | ⟨rfl, h1, h2⟩
      all_goals
        have H2 := hide h2
        clear H h2
        go_wp2
        go_ret
        rw [H2.out, G_last _ _ hr]
        exact ⟨rfl, (Below.refl _ _).alloc (Nat.le_refl _) _⟩
    · have hr' : 127 < (r : Int) := by omega
      have hc : (r : Int) / 128 = ((r / 128 : Nat) : Int) := by omega
      have Hc := hide hc
      clear hc
      have e := fun h => or128 r h
      have He := hide e
      clear e
      rcases H.out with ⟨rfl, h1, h2⟩ | ⟨rfl, h1, h2⟩ | ⟨rfl, h1, h2⟩ | ⟨rfl, h1, h2⟩ | ⟨rfl, h1, h2⟩
      · have H2 := hide h2
        clear H h2
        have h1' : (r : Int) ≤ 4000000000 := by omega
        go_wp2
        go_roundw
        case rel => exact ⟨r / 128, 1, _, z1, z2, z3, z4, by rw [Hc.out], rfl, rfl, .inr (.inl ⟨rfl, by omega, by rw [He.out (by omega), H2.out, G_more _ _ (by omega)]; rfl⟩)⟩
        case measure => simp [intOf]; omega
      · have H2 := hide h2
        clear H h2
        have h1' : (r : Int) ≤ 4000000000 := by omega
        go_wp2
        go_roundw
        case rel => exact ⟨r / 128, 2, z0, _, z2, z3, z4, by rw [Hc.out], rfl, rfl, .inr (.inr (.inl ⟨rfl, by omega, by rw [He.out (by omega), H2.out, G_more _ _ (by omega)]; rfl⟩))⟩
        case measure => simp [intOf]; omega
      · have H2 := hide h2
        clear H h2
        have h1' : (r : Int) ≤ 4000000000 := by omega
        go_wp2
        go_roundw
        case rel => exact ⟨r / 128, 3, z0, z1, _, z3, z4, by rw [Hc.out], rfl, rfl, .inr (.inr (.inr (.inl ⟨rfl, by omega, by rw [He.out (by omega), H2.out, G_more _ _ (by omega)]; rfl⟩)))⟩
        case measure => simp [intOf]; omega
      · have H2 := hide h2
        clear H h2
        have h1' : (r : Int) ≤ 4000000000 := by omega
        go_wp2
        go_roundw
        case rel => exact ⟨r / 128, 4, z0, z1, z2, _, z4, by rw [Hc.out], rfl, rfl, .inr (.inr (.inr (.inr ⟨rfl, by omega, by rw [He.out (by omega), H2.out, G_more _ _ (by omega)]; rfl⟩)))⟩
        case measure => simp [intOf]; omega
      · omega
end Go.Proofs.Ytaiifgmlnjgkpaa
