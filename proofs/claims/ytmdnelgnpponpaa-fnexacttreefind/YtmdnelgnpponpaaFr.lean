/- The kids of a knot, as an iterator. -/
import Derived.Test.YtmdnelgnpponpaaFq
import Derived.Test.YtmdnelgnpponpaaFj
import Derived.RangeFuncBox
import Derived.Shelf.Abstract
import Derived.Shelf.RegionOpen
import Derived.WalkKit
import Derived.OwnWalkIn
import Derived.TacticsInMore
import Derived.LoopNIn
import Derived.LoopIn
import Derived.Maps.AppendAt
import Derived.Deep.AppendLies
namespace Go.Proofs.Ytmdnelgnpponpaa
open Go.RowKit Go.Shelf
set_option linter.unusedSimpArgs false
set_option linter.unusedVariables false
attribute [local go_sem] Oper.semAt_some
/-- A kid as its knot's iterator gives it. -/
def KE (lo m : Nat) (w0 : World) (t : KT) (k : Nat) (v : Value) (_ : World) : Prop := ∃ (hk : k < t.kids.length) (ia ka : Option Addr), v = kvo t.kids[k] ia ka ∧ Kn lo m w0 ia ka t.kids[k]
set_option maxRecDepth 100000 in
set_option maxHeartbeats 2000000 in
theorem eachKid_seq (F : Fence) (n : Nat) (hf : F.fn 54) (hro : F.round = none) (hn : 1 ≤ n) (M : Obj → Bool) (lo m : Nat) (t : KT) (ia ka : Option Addr) (w0 : World) (h : Kn lo (m + 1) w0 ia ka t) (hkl : t.kids.length ≤ 1099511627776) : SeqN F n Try.prog M 54 #[kvo t ia ka] #[] w0.heap.size t.kids.length (KE lo m w0 t) (fun _ => True) w0 := by
  intro l J Jx W _ hW hJ hJx hY h0
  show CallsIn F n Try.prog 54 #[kvo t ia ka, .func (.yield l) #[] #[]] W _
  obtain ⟨b0, b1, b2, b3, b4, ni, nk, hkf⟩ := kf t
  obtain ⟨bi, bk, hia, hka, hl1, hl2, hI, hbk, hth, hK⟩ := h
  subst hka
  rw [kvo_of hkf]
  have HL := hid hkf.kids
  rw [hkf.kids] at hkl
  have HKL := hid hkl
  clear hkf hI hth hl1 hl2 hia
  have HK := hid hK
  have HW := hid hW
  clear hK hW hkl
  have B0 := hid (balloc (Below.refl W.heap.size W) (.cells #[.int .i64 b0, .int .i64 b1, .int .i64 b2, .int .i64 b3, .bool b4, .slice ia ni ni, .slice (some ⟨bk, 0, none⟩) nk nk] 34))
  have gT := hid (new_alloc W W.heap.size (.cells #[.int .i64 b0, .int .i64 b1, .int .i64 b2, .int .i64 b3, .bool b4, .slice ia ni ni, .slice (some ⟨bk, 0, none⟩) nk nk] 34) rfl)
  have h1 := hid (hJ _ _ _ h0 (Tn.of_below B0.out))
  clear h0
  refine callsIn_of_wp Try.func54 rfl hf ?_ hro
  simp only [Try.ntmps54, List.size_toArray, List.length_cons, List.length_nil, Nat.reduceAdd, Nat.reduceSub, Array.replicate_succ, Array.replicate_zero, List.push_toArray, List.append_toArray, List.nil_append, List.cons_append]
  gi_wp2
  gi_loopw [9] (fun i wr => ∃ k : Nat, k ≤ nk ∧ i = .int .i64 k ∧ Hid (J k wr) ∧ Hid (Below w0.heap.size W wr)) (fun i _ => nk - (intOf i).toNat)
  case atStart => exact ⟨0, Nat.zero_le _, rfl, h1, hid (B0.out.mono HW.out.size)⟩
  case round =>
    clear gT B0 h1
    obtain ⟨k, hk, rfl, HJ, HB⟩ := hrel
    have hnk : nk ≤ 1099511627776 := HKL.out
    by_cases hlt : k < nk
    · have hkl : k < t.kids.length := by rw [HL.out]; exact hlt
      have c1 : (k : Int) < (nk : Int) := by omega
      obtain ⟨ia', ka', q1, q2⟩ := HK.out k hkl
      obtain ⟨c0, c1', c2, c3, c4, mi, mk, hkf⟩ := kf t.kids[k]
      have hcs := Cs.kf hkf (q1.below hbk (HW.out.trans HB.out))
      obtain ⟨z0, z1, z2, z3, z4, z5, z6⟩ := hcs
      have hBA : Below wr.heap.size wr (wr.alloc (.cells #[.int .i64 c0, .int .i64 c1', .int .i64 c2, .int .i64 c3, .bool c4, .slice ia' mi mi, .slice ka' mk mk] 34)) := balloc (Below.refl wr.heap.size wr) _
      have hs0 : w0.heap.size ≤ wr.heap.size := Nat.le_trans HW.out.size HB.out.size
      have HB2 := hid (HB.out.trans (hBA.mono hs0))
      obtain ⟨fn, tmps, assign, body, hy, hR⟩ := hY k (kvo t.kids[k] ia' ka') _ (by rw [HL.out]; exact hlt) (hJ _ _ _ HJ.out (Tn.of_below hBA)) ⟨hkl, ia', ka', rfl, q2⟩ HB2.out
      rw [kvo_of hkf] at hy
      have HR := hid hR
      clear hR q1 q2 hkf hBA
      gi_wp2
      refine HR.out.mono ?_
      rintro e W3 ⟨(⟨rfl, hJ3⟩ | ⟨rfl, hJ3⟩), hk3⟩
      · gi_wp2
        go_roundw
        case rel => exact ⟨k + 1, by omega, by go_num, hid hJ3, hid (HB2.out.trans hk3.below)⟩
        case measure => simp [intOf]; omega
      · gi_wp2
        refine bodyPost_ret (results_none rfl _ _ _) rfl ?_
        exact ⟨⟨_, rfl⟩, .inr ⟨k, hkl, hJ3⟩, HB2.out.trans hk3.below⟩
    · have c1 : (nk : Int) ≤ (k : Int) := by omega
      gi_wp2
      go_end0
      refine ⟨⟨_, rfl⟩, .inl ?_, HB.out⟩
      have := HJ.out
      rwa [show k = t.kids.length by rw [HL.out]; omega] at this
end Go.Proofs.Ytmdnelgnpponpaa
