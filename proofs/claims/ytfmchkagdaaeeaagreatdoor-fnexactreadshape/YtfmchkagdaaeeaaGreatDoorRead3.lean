/- The landed ReadInt tells a number just where the text is its decimal text and the number has nine digits at most, given what the library's Atoi and Itoa do: its contract. -/
import Derived.Test.YtfmchkagdaaeeaaGreatDoorRead2
namespace Go.Proofs.YtfmchkagdaaeeaaGreatDoor
open Go.RowKit
theorem told_no {l : List UInt8} (h : ∀ v, Lib.atoiAll l ≠ .ok v) : Ans l 0 false :=
  .inr ⟨rfl, rfl, fun v h0 h1 e => h v (by rw [e]; exact atoi_itoa v h0 h1)⟩
theorem told_out {l : List UInt8} {v : Int} (h : Lib.atoiAll l = .ok v) (hv : v < -999999999 ∨ 999999999 < v) : Ans l 0 false :=
  .inr ⟨rfl, rfl, fun u h0 h1 e => by
    have := atoi_itoa u h0 h1
    rw [← e, h] at this
    injection this with this
    omega⟩
theorem told_other {l : List UInt8} {v : Int} (h : Lib.atoiAll l = .ok v) (hv : l ≠ Lib.itoa v) : Ans l 0 false :=
  .inr ⟨rfl, rfl, fun u h0 h1 e => by
    have := atoi_itoa u h0 h1
    rw [← e, h] at this
    injection this with this
    subst this
    exact hv e⟩
def AtoiOk (s : ByteArray) (w : World) : Prop := ∀ v, Lib.atoiAll s.data.toList = .ok v → Calls Tryz.prog 49 #[.string s] w fun e w' => e = .returned (.tuple #[.int .i64 v, .nilIface]) ∧ Below w.heap.size w w'
def AtoiNo (s : ByteArray) (w : World) : Prop := (∀ v, Lib.atoiAll s.data.toList ≠ .ok v) → Calls Tryz.prog 49 #[.string s] w fun e w' => (∃ (x : Int) (N : Nat), e = .returned (.tuple #[.int .i64 x, .iface 117 (.pointer (some ⟨N, 0, none⟩))])) ∧ Below w.heap.size w w'
def ItoaAll (w : World) : Prop := ∀ (v : Int) (w1 : World), -9223372036854775808 ≤ v → v ≤ 9223372036854775807 → Below w.heap.size w w1 → Calls Tryz.prog 62 #[.int .i64 v] w1 fun e w' => e = .returned (.string ⟨(Lib.itoa v).toArray⟩) ∧ Below w1.heap.size w1 w'
set_option maxHeartbeats 1000000 in
theorem impl_read (s : ByteArray) (w : World) (hA : AtoiOk s w) (hN : AtoiNo s w) (hI : ItoaAll w) : Calls Tryz.prog 38 #[.string s] w fun e w' => Told e s.data.toList ∧ Below w.heap.size w w' := by
  by_cases hok : ∃ v, Lib.atoiAll s.data.toList = .ok v
  · obtain ⟨v, hv⟩ := hok
    have Hv := hidd hv
    clear hv hN
    go_enter Tryz.func38, Tryz.ntmps38
    go_wp2_with fail
    refine (hA v Hv.out).mono ?_
    rintro e w1 ⟨rfl, hb⟩
    clear hA
    by_cases h1 : v < -999999999
    · have Ha := hidd (told_out Hv.out (.inl h1))
      go_wp2_with fail
      go_ret2
      exact ⟨⟨0, false, rfl, Ha.out⟩, hb⟩
    · by_cases h2 : 999999999 < v
      · have Ha := hidd (told_out Hv.out (.inr h2))
        have h3 : -999999999 ≤ v := by omega
        go_wp2_with fail
        go_ret2
        exact ⟨⟨0, false, rfl, Ha.out⟩, hb⟩
      · have h3 : -999999999 ≤ v := by omega
        have h4 : v ≤ 999999999 := by omega
        go_wp2_with (go_at_call 50; go_in)
        refine (hI v w1 (by omega) (by omega) hb).mono ?_
        rintro e w2 ⟨rfl, hb2⟩
        replace hb := hb.trans (hb2.mono hb.size)
        clear hb2 hI
        by_cases hq : s.data.toList = Lib.itoa v
        · have hB : ((⟨(Lib.itoa v).toArray⟩ : ByteArray).toList == s.toList) = true := by rw [ByteArray.toList_eq, ByteArray.toList_eq, beq_iff_eq]; exact hq.symm
          have Ha := hidd (show Ans s.data.toList v true from .inl ⟨rfl, hq, h3, h4⟩)
          generalize (⟨(Lib.itoa v).toArray⟩ : ByteArray) = S at hB ⊢
          clear hq
          go_wp2_with fail
          all_goals (go_ret2; exact ⟨⟨v, true, rfl, Ha.out⟩, hb⟩)
        · have hB : ((⟨(Lib.itoa v).toArray⟩ : ByteArray).toList == s.toList) = false := by rw [ByteArray.toList_eq, ByteArray.toList_eq, beq_eq_false_iff_ne]; exact fun h => hq h.symm
          have Ha := hidd (told_other Hv.out hq)
          generalize (⟨(Lib.itoa v).toArray⟩ : ByteArray) = S at hB ⊢
          clear hq
          go_wp2_with fail
          all_goals (go_ret2; exact ⟨⟨0, false, rfl, Ha.out⟩, hb⟩)
  · have hno : ∀ v, Lib.atoiAll s.data.toList ≠ .ok v := fun v h => hok ⟨v, h⟩
    have Hno := hidd hno
    have Ha := hidd (told_no hno)
    clear hno hok hA hI
    go_enter Tryz.func38, Tryz.ntmps38
    go_wp2_with fail
    refine (hN Hno.out).mono ?_
    rintro e w1 ⟨⟨x, N, rfl⟩, hb⟩
    clear hN
    go_wp2_with fail
    go_ret2
    exact ⟨⟨0, false, rfl, Ha.out⟩, hb⟩
end Go.Proofs.YtfmchkagdaaeeaaGreatDoor
