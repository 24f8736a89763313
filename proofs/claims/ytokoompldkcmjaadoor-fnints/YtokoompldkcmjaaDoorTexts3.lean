/- Two lists of texts that are the same are told the same; a byte of the code. -/
import Derived.Test.YtokoompldkcmjaaDoorWords2
import Derived.Test.YtokoompldkcmjaaDoorDrawN
import Derived.Test.YtokoompldkcmjaaDoorRead3
import Derived.Test.YtokoompldkcmjaaDoorSum
import Derived.Test.YtokoompldkcmjaaDoorCode
import Derived.Test.YtokoompldkcmjaaDoorGeo
namespace Go.Proofs.YtokoompldkcmjaaDoor
open Go.RowKit
set_option maxHeartbeats 400000 in
theorem same_c (w : World) (g cap g2 cap2 : Nat) (l : List ByteArray) (hn : l.length ≤ 2097152) (h : Texts w g cap l) (h2 : Texts w g2 cap2 l) : Calls Tryd.prog 15 #[.slice (some ⟨g, 0, none⟩) l.length cap, .slice (some ⟨g2, 0, none⟩) l.length cap2] w fun e w' => e = .returned (.bool true) ∧ ∃ k, w' = w.drewN k := by
  obtain ⟨n, hln⟩ : ∃ n, n = l.length := ⟨_, rfl⟩
  rw [← hln] at hn ⊢
  have HLN := hidd hln
  clear hln
  go_enter Tryd.func15, Tryd.ntmps15
  go_wp2
  go_loopw [5] (fun ti wr => ∃ i : Nat, ∃ k : Nat, ti = .int .i64 i ∧ i ≤ n ∧ wr = w.drewN k) (fun ti _ => n - (intOf ti).toNat)
  case atStart => exact ⟨0, 0, rfl, Nat.zero_le _, rfl⟩
  case round =>
    obtain ⟨i, k, rfl, hi, rfl⟩ := hrel
    by_cases hlt : i < n
    · have c1 : (i : Int) < (n : Int) := by omega
      have hc1 := h.cell i (by have := HLN.out; omega)
      have hc2 := h2.cell i (by have := HLN.out; omega)
      generalize l[i]'(by have := HLN.out; omega) = x at hc1 hc2
      go_wp2_with fail
      go_quiet (fail)
      go_wp2_with fail
      go_roundw
      case rel => exact ⟨i + 1, k + nq, by go_num, by omega, rfl⟩
      case measure => simp [intOf]; omega
    · have c1 : (n : Int) ≤ (i : Int) := by omega
      go_wp2_with fail
      go_ret
      exact ⟨rfl, k, rfl⟩
theorem at_i (w : World) (a : Option Addr) (len cap B : Nat) (k : Nat) (hk : k ≤ 100) (hc : CodeAt w a len B) : Calls Tryd.prog 22 #[.slice a len cap, .int .i64 k] w fun e w' => ∃ x : Int, e = .returned (.int .i64 x) ∧ (0 ≤ x ∧ x ≤ 255) ∧ w' = w := by
  obtain ⟨hl, hc⟩ := hc
  by_cases h : k < len
  · have c1 : (k : Int) < (len : Int) := by omega
    rcases hc with hc | ⟨b, off, rfl, hb, hc⟩
    · omega
    · obtain ⟨z, z0, z1, hz⟩ := hc k h
      clear hc
      go_enter Tryd.func22, Tryd.ntmps22
      go_wp2
      go_ret
      exact ⟨z, rfl, ⟨z0, z1⟩, rfl⟩
  · have c1 : (len : Int) ≤ (k : Int) := by omega
    clear hc
    go_enter Tryd.func22, Tryd.ntmps22
    go_wp2
    go_ret
    exact ⟨_, rfl, by omega, rfl⟩
theorem impl_dec (n : Int) (h0 : -9223372036854775808 ≤ n) (h1 : n ≤ 9223372036854775807) (w w1 : World) (hI : ItoaAll w) (hb : Below w.heap.size w w1) : Calls Tryd.prog 13 #[.int .i64 n] w1 fun e w' => e = .returned (.string ⟨(Lib.itoa n).toArray⟩) ∧ Below w1.heap.size w1 w' := by
  have HI := hidd (hI n w1 h0 h1 hb)
  generalize (⟨(Lib.itoa n).toArray⟩ : ByteArray) = s at HI ⊢
  go_enter Tryd.func13, Tryd.ntmps13
  go_wp2_with fail
  refine HI.out.mono ?_
  rintro e w2 ⟨rfl, hb2⟩
  go_wp2_with fail
  go_ret
  exact ⟨rfl, hb2⟩
/-- What the library does for the numbers and the words, in every world from here on. -/
def Libs (w : World) : Prop := (∀ (s : ByteArray) (w' : World), s.size ≤ 1048576 → Below w.heap.size w w' → AtoiOk s w' ∧ AtoiNo s w' ∧ SplitAt s w') ∧ ItoaAll w ∧ CloneAll
end Go.Proofs.YtokoompldkcmjaaDoor
