/- The mark that the law lays into each text of an answer: the letter m and a number's decimal digits; its contract. -/
import Derived.Test.YtaiifgmlnjgkpahDoorDec
import Derived.Laws.BytesArg
namespace Go.Proofs.YtaiifgmlnjgkpahDoor
open Go.RowKit
def mt (k : Nat) : ByteArray := ⟨(109 :: Lib.decDigits k).toArray⟩
theorem conv1 (w : World) (x : Int) : (convert 39 9 (.slice (some ⟨w.heap.size, 0, none⟩) 1 1)).run Tryd.prog (w.alloc (.cells #[.int .u8 x] 5)) = .ok (.string (strOfNums [x])) (w.alloc (.cells #[.int .u8 x] 5)) := by
  refine run_convert_bytes_arg _ 39 5 Tryd.underlying39 Tryd.underlying5 w.heap.size 0 1 1 [x] rfl (fun i hi => ?_) 9 Tryd.underlying9
  obtain rfl : i = 0 := by omega
  simp [go_sem]
theorem one_digit (u : Nat) : strOfNums [48 + (u : Int) % 10] = ⟨#[UInt8.ofNat (48 + u % 10)]⟩ := by
  unfold strOfNums
  have : (48 + (u : Int) % 10).toNat = 48 + u % 10 := by omega
  simp only [List.map_cons, List.map_nil, this]
set_option maxHeartbeats 400000 in
theorem mark_text (n : Nat) (h0 : 1 ≤ n) (h1 : n ≤ 9223372036854775807) (w : World) : Calls Tryd.prog 18 #[.int .i64 n] w fun e w' => e = .returned (.string (mt n)) ∧ Below w.heap.size w w' := by
  have hz : decide ((n : Int) ≤ 0) = false := by simp; omega
  have hz' : 0 < (n : Int) := by omega
  go_enter Tryd.func18, Tryd.ntmps18
  go_wp2
  go_loopw [0, 3] (fun tm tout wr => ∃ u : Nat, ∃ l : List UInt8, tout = .string ⟨l.toArray⟩ ∧ tm = .int .i64 u ∧ u ≤ 9223372036854775807 ∧ l.length ≤ 64 ∧ Below w.heap.size w wr ∧ Hid (u * 10 ^ l.length ≤ n) ∧ Hid ((u = 0 → Lib.decDigits n = l) ∧ (0 < u → Lib.decDigits n = Lib.decDigits u ++ l))) (fun tm _ _ => (intOf tm).toNat)
  case atStart => exact ⟨n, [], rfl, rfl, h1, by simp, Below.refl _ _, by simp [Hid], by omega, by simp⟩
  case round =>
    obtain ⟨u, l, rfl, rfl, hu, hl, hb, HL, H⟩ := hrel
    by_cases hu0 : u = 0
    · subst hu0
      have hfin := H.out.1 rfl
      have Hf := hide hfin
      clear hfin H HL
      go_wp2
      go_ret
      exact ⟨by unfold mt; rw [Hf.out, ← put_front]; rfl, hb⟩
    · have hp : (0 : Int) < (u : Int) := by omega
      have hp' : 0 < u := by omega
      have hst := dec_step n u l hu0 (H.out.2 (by omega))
      have hk := len_le u n l.length hu0 HL.out (by omega)
      have hdn := down_le u n l.length HL.out
      have hs := hb.size
      have Hst := hide hst
      have Hdn := hide hdn
      clear hst H HL hdn
      have cv := conv1 wr
      have hsz : (strOfNums [48 + (u : Int) % 10]).size = 1 := by rw [strOfNums_size]; rfl
      go_wp2
      go_roundw
      case rel => exact ⟨u / 10, UInt8.ofNat (48 + u % 10) :: l, by rw [one_digit, put_front], by go_num, by omega, by simp; omega, hb.alloc hs _, by simpa using Hdn, Hst⟩
      case measure => simp [intOf]; omega
end Go.Proofs.YtaiifgmlnjgkpahDoor
