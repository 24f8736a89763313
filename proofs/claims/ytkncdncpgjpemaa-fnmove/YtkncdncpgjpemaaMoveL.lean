/- For the law on moves: shapes held against each other, and what a move comes to. -/
import Derived.Test.YtkncdncpgjpemaaShift
import Derived.Test.YtkncdncpgjpemaaMove3
import Derived.Test.YtkncdncpgjpemaaMove2
import Derived.Test.YtkncdncpgjpemaaShLaw
namespace Go.Proofs.Ytkncdncpgjpemaa
open Go.RowKit
set_option linter.unusedSimpArgs false
set_option linter.unusedVariables false
set_option maxRecDepth 100000 in
set_option maxHeartbeats 1000000 in
theorem same_shape (k : Int) (a b : Option Addr) (cap cap' : Nat) (ps : List (Int × Int)) (w : World) (hm : ps.length ≤ 1099511627776) (hc : ps.length ≤ cap) (hc' : ps.length ≤ cap') (h : Pts w a ps) (h' : Pts w b ps) : Calls Try.prog 58 #[shv k a ps.length cap, shv k b ps.length cap'] w fun e w' => e = .returned (.bool true) ∧ Below w.heap.size w w' := by
  have HP := hid h
  have HQ := hid h'
  clear h h'
  go_enter Try.func58, Try.ntmps58
  go_wp2_with fail
  have gA : ((w.alloc (.cells #[.int .i64 k, .slice a ps.length cap] 52)).alloc (.cells #[.int .i64 k, .slice b ps.length cap'] 52)).heap[w.heap.size]? = some (.cells #[.int .i64 k, .slice a ps.length cap] 52 (0, 0)) := old_alloc (new_alloc _ _ _ rfl)
  have gB : ((w.alloc (.cells #[.int .i64 k, .slice a ps.length cap] 52)).alloc (.cells #[.int .i64 k, .slice b ps.length cap'] 52)).heap[w.heap.size + 1]? = some (.cells #[.int .i64 k, .slice b ps.length cap'] 52 (0, 0)) := new_alloc _ _ _ (by simp)
  have hB0 : Below w.heap.size w ((w.alloc (.cells #[.int .i64 k, .slice a ps.length cap] 52)).alloc (.cells #[.int .i64 k, .slice b ps.length cap'] 52)) := balloc (balloc (Below.refl _ _) _) _
  generalize (w.alloc (.cells #[.int .i64 k, .slice a ps.length cap] 52)).alloc (.cells #[.int .i64 k, .slice b ps.length cap'] 52) = W at *
  go_loopw [5] (fun ti wr => ∃ j : Nat, ti = .int .i64 j ∧ j ≤ ps.length ∧ Below W.heap.size W wr) (fun ti _ => ps.length - (intOf ti).toNat)
  case atStart => exact ⟨0, rfl, Nat.zero_le _, Below.refl _ _⟩
  case round =>
    obtain ⟨j, rfl, hj, hb⟩ := hrel
    have hBw := btrans hB0 hb
    obtain ⟨a0, a1, _, _⟩ := cell2g (keepheap hb gA)
    obtain ⟨b0, b1, _, _⟩ := cell2g (keepheap hb gB)
    by_cases hlt : j < ps.length
    · obtain ⟨p, off, rfl, hps, hp⟩ : ∃ p off, a = some ⟨p, off, none⟩ ∧ p < w.heap.size ∧ PtsAt w p off ps := by
        rcases HP.out with h | h
        · rw [h] at hlt; simp at hlt
        · exact h
      obtain ⟨q, off', rfl, hqs, hq⟩ : ∃ p off, b = some ⟨p, off, none⟩ ∧ p < w.heap.size ∧ PtsAt w p off ps := by
        rcases HQ.out with h | h
        · rw [h] at hlt; simp at hlt
        · exact h
      obtain ⟨c0, c1⟩ := hp.below hps hBw j hlt
      obtain ⟨d0, d1⟩ := hq.below hqs hBw j hlt
      generalize (ps.getD j (0, 0)).1 = x at *
      generalize (ps.getD j (0, 0)).2 = y at *
      clear hp hq
      have hk0 : (0 : Int) ≤ (j : Int) := by omega
      have hk1 : (j : Int) < (ps.length : Int) := by omega
      go_wp2_with fail
      go_quiet (fail)
      go_wp2_with fail
      go_roundw
      case rel => exact ⟨j + 1, by go_num, by omega, by (repeat (first | with_reducible exact hb | with_reducible exact Below.refl _ _ | (with_reducible refine btrans ?_ (by with_reducible assumption)) | with_reducible refine bdrew ?_ | exact ⟨hb.os, hb.tape, hb.output, hb.size, hb.block⟩ | with_reducible refine balloc ?_ _))⟩
      case measure => simp [intOf]; omega
    · have hk1 : ¬ (j : Int) < (ps.length : Int) := by omega
      go_wp2_with fail
      go_ret
      exact ⟨rfl, hBw⟩
theorem OwnP.nil {w : World} {a : Option Addr} : Pts w a [] := .inl rfl
theorem MV.no {w w' : World} {k dx dy : Int} {ps : List (Int × Int)} {e : Ending} (hok : mvOk k ps dx dy = false) (h : MV w k ps dx dy e w') : ∃ a' cap', e = .returned (.tuple #[.agg #[.int .i64 0, .slice a' 0 cap'], .bool false]) ∧ Below w.heap.size w w' := by
  obtain ⟨a', cap', he, h1, h2, h3, h4⟩ := h
  have e1 : mvK k ps dx dy = 0 := by unfold mvK; rw [hok]; rfl
  have e2 : mvPs k ps dx dy = [] := by unfold mvPs; rw [hok]; rfl
  rw [e1, e2, hok] at he
  exact ⟨a', cap', he, h4⟩
theorem MV.yes {w w' : World} {k dx dy : Int} {ps : List (Int × Int)} {e : Ending} (hok : mvOk k ps dx dy = true) (h : MV w k ps dx dy e w') : ∃ a' cap', e = .returned (.tuple #[.agg #[.int .i64 k, .slice a' ps.length cap'], .bool true]) ∧ ps.length ≤ cap' ∧ Pts w' a' (ps.map (mp dx dy)) ∧ Below w.heap.size w w' := by
  obtain ⟨a', cap', he, h1, h2, h3, h4⟩ := h
  have e1 : mvK k ps dx dy = k := by unfold mvK; rw [hok]; rfl
  have e2 : mvPs k ps dx dy = ps.map (mp dx dy) := by unfold mvPs; rw [hok, if_pos rfl, fM_map]
  rw [e1, e2, hok, List.length_map] at he
  rw [e2, List.length_map] at h1
  rw [e2] at h2
  exact ⟨a', cap', he, h1, h2.pts, h4⟩
theorem mv_parts {k dx dy : Int} {ps : List (Int × Int)} (hok : mvOk k ps dx dy = true) : okm dx = true ∧ okm dy = true ∧ shok k ps = true ∧ shok k (ps.map (mp dx dy)) = true := by
  unfold mvOk at hok
  rw [fM_map] at hok
  simp only [Bool.and_eq_true] at hok
  exact ⟨hok.1.1.1, hok.1.1.2, hok.1.2, hok.2⟩
theorem okm_neg {x : Int} (h : okm x = true) : okm (-x) = true := by
  unfold okm at *
  simp only [Bool.and_eq_true, decide_eq_true_eq] at *
  omega
theorem mv_back {k dx dy : Int} {ps : List (Int × Int)} (hok : mvOk k ps dx dy = true) : mvOk k (ps.map (mp dx dy)) (-dx) (-dy) = true := by
  obtain ⟨h1, h2, h3, h4⟩ := mv_parts hok
  unfold mvOk
  rw [fM_map, mp_back, okm_neg h1, okm_neg h2, h3, h4]; rfl
theorem move_back (k dx dy : Int) (a : Option Addr) (cap n : Nat) (ps : List (Int × Int)) (hok : mvOk k ps dx dy = true) (w : World) (hm : ps.length ≤ 1099511627776) (hc : ps.length ≤ cap) (h : Pts w a (ps.map (mp dx dy))) : Calls Try.prog 55 #[shv k a ps.length cap, .int .i64 (-dx), .int .i64 (-dy)] w fun e w' => ∃ a' cap', e = .returned (.tuple #[.agg #[.int .i64 k, .slice a' ps.length cap'], .bool true]) ∧ ps.length ≤ cap' ∧ Pts w' a' ps ∧ Below w.heap.size w w' := by
  have hl : (ps.map (mp dx dy)).length = ps.length := List.length_map _
  have := impl_Move k (-dx) (-dy) a cap (ps.map (mp dx dy)) w (by rw [hl]; exact hm) (by rw [hl]; exact hc) h
  rw [hl] at this
  refine this.mono fun e w' hw => ?_
  obtain ⟨a', cap', he, h1, h2, h3⟩ := hw.yes (mv_back hok)
  rw [hl] at he h1
  rw [mp_back] at h2
  exact ⟨a', cap', he, h1, h2, h3⟩
/-- Two shapes that are moved alike. -/
theorem meet_moved (k1 k2 dx dy : Int) (a1 a2 : Option Addr) (c1 c2 : Nat) (ps qs : List (Int × Int)) (h1 : mvOk k1 ps dx dy = true) (h2 : mvOk k2 qs dx dy = true) (w : World) (hm1 : ps.length ≤ 1099511627776) (hc1 : ps.length ≤ c1) (hp1 : Pts w a1 (ps.map (mp dx dy))) (hm2 : qs.length ≤ 1099511627776) (hc2 : qs.length ≤ c2) (hp2 : Pts w a2 (qs.map (mp dx dy))) : Calls Try.prog 46 #[shv k1 a1 ps.length c1, shv k2 a2 qs.length c2] w fun e w' => e = .returned (.bool (smP k1 ps k2 qs)) ∧ Below w.heap.size w w' := by
  have e1 : (ps.map (mp dx dy)).length = ps.length := List.length_map _
  have e2 : (qs.map (mp dx dy)).length = qs.length := List.length_map _
  have := impl_ShapesMeet k1 k2 a1 a2 c1 c2 (ps.map (mp dx dy)) (qs.map (mp dx dy)) w (by omega) (by omega) hp1 (by omega) (by omega) hp2
  rw [e1, e2] at this
  obtain ⟨_, _, s1, s2⟩ := mv_parts h1
  obtain ⟨_, _, s3, s4⟩ := mv_parts h2
  rw [smP_shift dx dy k1 k2 ps qs s1 s3 s2 s4] at this
  exact this
end Go.Proofs.Ytkncdncpgjpemaa
