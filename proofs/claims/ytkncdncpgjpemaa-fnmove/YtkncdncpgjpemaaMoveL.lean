/- For the law on moves: shapes held against each other, and what a move comes to. -/
import Derived.Test.YtkncdncpgjpemaaMeet4
import Derived.Test.YtkncdncpgjpemaaAreaM
import Derived.Test.YtkncdncpgjpemaaMove3
import Derived.Test.YtkncdncpgjpemaaMove2
import Derived.Test.YtkncdncpgjpemaaShLaw
namespace Go.Proofs.Ytkncdncpgjpemaa
open Go.RowKit
theorem cr_shift (ax ay bx bY cx cy d e : Int) : cr (ax + d) (ay + e) (bx + d) (bY + e) (cx + d) (cy + e) = cr ax ay bx bY cx cy := by
  unfold cr; grind
theorem hasb_shift (a b c d x y u v : Int) : hasb (a + u) (b + v) (c + u) (d + v) (x + u) (y + v) = hasb a b c d x y := by
  unfold hasb
  simp only [Int.add_le_add_iff_right]
theorem onb_shift (px py ax ay bx bY d e : Int) : onb (px + d) (py + e) (ax + d) (ay + e) (bx + d) (bY + e) = onb px py ax ay bx bY := by
  unfold onb
  rw [cr_shift, show min (ax + d) (bx + d) = min ax bx + d by omega, show min (ay + e) (bY + e) = min ay bY + e by omega, show max (ax + d) (bx + d) = max ax bx + d by omega, show max (ay + e) (bY + e) = max ay bY + e by omega, hasb_shift]
theorem smeet_shift (ax ay bx bY cx cy dx dy d e : Int) : smeet (ax + d) (ay + e) (bx + d) (bY + e) (cx + d) (cy + e) (dx + d) (dy + e) = smeet ax ay bx bY cx cy dx dy := by
  unfold smeet crossb
  rw [cr_shift, cr_shift, cr_shift, cr_shift, onb_shift, onb_shift, onb_shift, onb_shift]
/-- A point, and a side, moved. -/
def mp (d e : Int) (p : Int × Int) : Int × Int := (p.1 + d, p.2 + e)
def ms (d e : Int) (q : Sd) : Sd := (q.1 + d, q.2.1 + e, q.2.2.1 + d, q.2.2.2 + e)
theorem meetq_shift (d e : Int) (p q : Sd) : meetq (ms d e p) (ms d e q) = meetq p q := smeet_shift _ _ _ _ _ _ _ _ d e
theorem fM_map (ps : List (Int × Int)) (d e : Int) : tk (fM ps d e) ps.length = ps.map (mp d e) := by
  apply List.ext_getElem
  · simp [tk]
  · intro i h1 h2
    simp [tk, fM, mp] at h1 ⊢
    simp [List.getElem?_eq_getElem h1]
theorem getD_map (d e : Int) (ps : List (Int × Int)) (i : Nat) (h : i < ps.length) : (ps.map (mp d e)).getD i (0, 0) = mp d e (ps.getD i (0, 0)) := by
  simp [List.getD_eq_getElem?_getD, List.getElem?_map, List.getElem?_eq_getElem h]
theorem getD_mapS (d e : Int) (X : List Sd) (i : Nat) (h : i < X.length) : (X.map (ms d e)).getD i (0, 0, 0, 0) = ms d e (X.getD i (0, 0, 0, 0)) := by
  simp [List.getD_eq_getElem?_getD, List.getElem?_map, List.getElem?_eq_getElem h]
theorem row_shift (d e : Int) (p : Sd) (Y : List Sd) : ∀ j, j ≤ Y.length → rowM (ms d e p) (Y.map (ms d e)) j = rowM p Y j
  | 0, _ => rfl
  | j + 1, hj => by rw [rowM, rowM, row_shift d e p Y j (by omega), getD_mapS d e Y j (by omega), meetq_shift]
theorem all_shift (d e : Int) (X Y : List Sd) : ∀ i, i ≤ X.length → allM (X.map (ms d e)) (Y.map (ms d e)) i = allM X Y i
  | 0, _ => rfl
  | i + 1, hi => by rw [allM, allM, all_shift d e X Y i (by omega), getD_mapS d e X i (by omega), List.length_map, row_shift d e _ Y _ (Nat.le_refl _)]
theorem along_shift (d e : Int) (ps : List (Int × Int)) : alongSides (ps.map (mp d e)) = (alongSides ps).map (ms d e) := by
  unfold alongSides
  rw [List.length_map, List.map_map]
  refine List.map_congr_left fun k hk => ?_
  have hk' : k < ps.length - 1 := by simpa using hk
  rw [getD_map d e ps k (by omega), getD_map d e ps (k + 1) (by omega)]
  rfl
theorem nxt_shift (d e : Int) (ps : List (Int × Int)) (k : Nat) (h : 0 < ps.length) : nxt (ps.map (mp d e)) k = mp d e (nxt ps k) := by
  unfold nxt
  rw [List.length_map, getD_map d e ps _ (Nat.mod_lt _ h)]
theorem ring_shift (d e : Int) (ps : List (Int × Int)) : ringSides (ps.map (mp d e)) = (ringSides ps).map (ms d e) := by
  unfold ringSides
  rw [List.length_map, List.map_map]
  refine List.map_congr_left fun k hk => ?_
  have hk' : k < ps.length := by simpa using hk
  rw [getD_map d e ps k hk', nxt_shift d e ps k (by omega)]
  rfl
theorem corners_shift (d e x y u v : Int) : corners (x + d) (y + e) (u + d) (v + e) = (corners x y u v).map (mp d e) := rfl
theorem sdl_shift (d e k : Int) (ps : List (Int × Int)) (hs : shok k ps = true) : sdl k (ps.map (mp d e)) = (sdl k ps).map (ms d e) := by
  rcases shok_kind hs with ⟨rfl, hl⟩ | ⟨rfl, hl, hl2⟩ | ⟨rfl, hl⟩ | ⟨rfl, hl, hl2⟩
  · obtain ⟨x, y, rfl⟩ := one_of hl
    rfl
  · exact along_shift d e ps
  · obtain ⟨x, y, u, v, rfl⟩ := two_of hl
    exact (congrArg ringSides (corners_shift d e x y u v)).trans (ring_shift d e _)
  · exact ring_shift d e ps
theorem any_shift (d e px py : Int) (X : List Sd) : ∀ i, i ≤ X.length → anyOn (px + d) (py + e) (X.map (ms d e)) i = anyOn px py X i
  | 0, _ => rfl
  | i + 1, hi => by
    have h1 := any_shift d e px py X i (by omega)
    have h2 := getD_mapS d e X i (by omega)
    simp only [anyOn, h1, h2]
    congr 1
    exact onb_shift _ _ _ _ _ _ d e
theorem wayb_shift (px py ax ay bx bY d e : Int) : wayb (px + d) (py + e) (ax + d) (ay + e) (bx + d) (bY + e) = wayb px py ax ay bx bY := by
  unfold wayb
  simp only [cr_shift, Int.add_le_add_iff_right, Int.add_lt_add_iff_right]
theorem sideOn_shift (d e px py : Int) (ps : List (Int × Int)) (k : Nat) (h : k < ps.length) : sideOn (px + d) (py + e) (ps.map (mp d e)) k = sideOn px py ps k := by
  unfold sideOn
  rw [getD_map d e ps k h, nxt_shift d e ps k (by omega)]
  exact onb_shift _ _ _ _ _ _ d e
theorem sideCr_shift (d e px py : Int) (ps : List (Int × Int)) (k : Nat) (h : k < ps.length) : sideCr (px + d) (py + e) (ps.map (mp d e)) k = sideCr px py ps k := by
  unfold sideCr
  rw [getD_map d e ps k h, nxt_shift d e ps k (by omega)]
  exact wayb_shift _ _ _ _ _ _ d e
theorem odd_shift (d e px py : Int) (ps : List (Int × Int)) : ∀ k, k ≤ ps.length → oddTo (px + d) (py + e) (ps.map (mp d e)) k = oddTo px py ps k
  | 0, _ => rfl
  | k + 1, hk => by rw [oddTo, oddTo, odd_shift d e px py ps k (by omega), sideCr_shift d e px py ps k (by omega)]
theorem ringv_shift (d e px py : Int) (ps : List (Int × Int)) : ringv (px + d) (py + e) (ps.map (mp d e)) = ringv px py ps := by
  unfold ringv
  rw [List.length_map, odd_shift d e px py ps _ (Nat.le_refl _)]
  have h : (List.range ps.length).any (sideOn (px + d) (py + e) (ps.map (mp d e))) = (List.range ps.length).any (sideOn px py ps) := by
    rw [Bool.eq_iff_iff, List.any_eq_true, List.any_eq_true]
    constructor
    · rintro ⟨x, hx, h⟩
      exact ⟨x, hx, by rw [← sideOn_shift d e px py ps x (by simpa using hx)]; exact h⟩
    · rintro ⟨x, hx, h⟩
      exact ⟨x, hx, by rw [sideOn_shift d e px py ps x (by simpa using hx)]; exact h⟩
  rw [h]
theorem hasP_shift (d e k px py : Int) (ps : List (Int × Int)) (hs : shok k ps = true) : hasP k (ps.map (mp d e)) (px + d) (py + e) = hasP k ps px py := by
  rcases shok_kind hs with ⟨rfl, hl⟩ | ⟨rfl, hl, hl2⟩ | ⟨rfl, hl⟩ | ⟨rfl, hl, hl2⟩
  · obtain ⟨x, y, rfl⟩ := one_of hl
    show ((x + d) == (px + d) && (y + e) == (py + e)) = (x == px && y == py)
    congr 1
    · rw [Bool.eq_iff_iff, beq_iff_eq, beq_iff_eq]; omega
    · rw [Bool.eq_iff_iff, beq_iff_eq, beq_iff_eq]; omega
  · show anyOn (px + d) (py + e) (alongSides (ps.map (mp d e))) (alongSides (ps.map (mp d e))).length = anyOn px py (alongSides ps) (alongSides ps).length
    rw [along_shift, List.length_map, any_shift d e px py _ _ (Nat.le_refl _)]
  · obtain ⟨x, y, u, v, rfl⟩ := two_of hl
    exact hasb_shift x y u v px py d e
  · show (ringv (px + d) (py + e) (ps.map (mp d e)) != 0) = (ringv px py ps != 0)
    rw [ringv_shift]
/-- Two shapes that are moved alike meet just where they did. -/
theorem smP_shift (d e k1 k2 : Int) (ps qs : List (Int × Int)) (h1 : shok k1 ps = true) (h2 : shok k2 qs = true) (h3 : shok k1 (ps.map (mp d e)) = true) (h4 : shok k2 (qs.map (mp d e)) = true) : smP k1 (ps.map (mp d e)) k2 (qs.map (mp d e)) = smP k1 ps k2 qs := by
  have l1 : 0 < ps.length := by rcases shok_kind h1 with h | h | h | h <;> omega
  have l2 : 0 < qs.length := by rcases shok_kind h2 with h | h | h | h <;> omega
  unfold smP
  rw [h1, h2, h3, h4, sdl_shift d e k1 ps h1, sdl_shift d e k2 qs h2, List.length_map, all_shift d e _ _ _ (Nat.le_refl _), getD_map d e ps 0 l1, getD_map d e qs 0 l2]
  have e1 := hasP_shift d e k1 (qs.getD 0 (0, 0)).1 (qs.getD 0 (0, 0)).2 ps h1
  have e2 := hasP_shift d e k2 (ps.getD 0 (0, 0)).1 (ps.getD 0 (0, 0)).2 qs h2
  show (true && true && (_ || (hasP k1 (ps.map (mp d e)) ((qs.getD 0 (0, 0)).1 + d) ((qs.getD 0 (0, 0)).2 + e) || hasP k2 (qs.map (mp d e)) ((ps.getD 0 (0, 0)).1 + d) ((ps.getD 0 (0, 0)).2 + e)))) = _
  rw [e1, e2]
theorem mp_back (d e : Int) (ps : List (Int × Int)) : (ps.map (mp d e)).map (mp (-d) (-e)) = ps := by
  rw [List.map_map]
  have : (mp (-d) (-e) ∘ mp d e) = id := by
    funext p
    simp only [Function.comp, mp, id]
    rw [show p.1 + d + -d = p.1 by omega, show p.2 + e + -e = p.2 by omega]
  rw [this, List.map_id]
set_option linter.unusedSimpArgs false
set_option linter.unusedVariables false
set_option maxRecDepth 100000 in
set_option maxHeartbeats 1000000 in
theorem same_shape (k : Int) (a b : Option Addr) (cap cap' : Nat) (ps : List (Int × Int)) (w : World) (hm : ps.length ≤ 1099511627776) (hc : ps.length ≤ cap) (hc' : ps.length ≤ cap') (h : Pts w a ps) (h' : Pts w b ps) : Calls Try.prog 58 #[shv k a ps.length cap, shv k b ps.length cap'] w fun e w' => e = .returned (.bool true) ∧ Below w.heap.size w w' := by
  have HP := hid h
  have HQ := hid h'
  clear h h'
  go_enter Try.func58, Try.ntmps58
  go_wp2_with fail
  have gA : ((w.alloc (.cells #[.int .i64 k, .slice a ps.length cap] 52)).alloc (.cells #[.int .i64 k, .slice b ps.length cap'] 52)).heap[w.heap.size]? = some (.cells #[.int .i64 k, .slice a ps.length cap] 52 (0, 0)) := old_alloc (new_alloc _ _ _ rfl)
  have gB : ((w.alloc (.cells #[.int .i64 k, .slice a ps.length cap] 52)).alloc (.cells #[.int .i64 k, .slice b ps.length cap'] 52)).heap[w.heap.size + 1]? = some (.cells #[.int .i64 k, .slice b ps.length cap'] 52 (0, 0)) := new_alloc _ _ _ (by simp)
  have hB0 : Below w.heap.size w ((w.alloc (.cells #[.int .i64 k, .slice a ps.length cap] 52)).alloc (.cells #[.int .i64 k, .slice b ps.length cap'] 52)) := balloc (balloc (Below.refl _ _) _) _
  generalize (w.alloc (.cells #[.int .i64 k, .slice a ps.length cap] 52)).alloc (.cells #[.int .i64 k, .slice b ps.length cap'] 52) = W at *
  go_loopw [5] (fun ti wr => ∃ j : Nat, ti = .int .i64 j ∧ j ≤ ps.length ∧ Below W.heap.size W wr) (fun ti _ => ps.length - (intOf ti).toNat)
  case atStart => exact ⟨0, rfl, Nat.zero_le _, Below.refl _ _⟩
  case round =>
    obtain ⟨j, rfl, hj, hb⟩ := hrel
    have hBw := btrans hB0 hb
    obtain ⟨a0, a1, _, _⟩ := cell2g (keepheap hb gA)
    obtain ⟨b0, b1, _, _⟩ := cell2g (keepheap hb gB)
    by_cases hlt : j < ps.length
    · obtain ⟨p, off, rfl, hps, hp⟩ : ∃ p off, a = some ⟨p, off, none⟩ ∧ p < w.heap.size ∧ PtsAt w p off ps := by
        rcases HP.out with h | h
        · rw [h] at hlt; simp at hlt
        · exact h
      obtain ⟨q, off', rfl, hqs, hq⟩ : ∃ p off, b = some ⟨p, off, none⟩ ∧ p < w.heap.size ∧ PtsAt w p off ps := by
        rcases HQ.out with h | h
        · rw [h] at hlt; simp at hlt
        · exact h
      obtain ⟨c0, c1⟩ := hp.below hps hBw j hlt
      obtain ⟨d0, d1⟩ := hq.below hqs hBw j hlt
      generalize (ps.getD j (0, 0)).1 = x at *
      generalize (ps.getD j (0, 0)).2 = y at *
      clear hp hq
      have hk0 : (0 : Int) ≤ (j : Int) := by omega
      have hk1 : (j : Int) < (ps.length : Int) := by omega
      go_wp2_with fail
      go_quiet (fail)
      go_wp2_with fail
      go_roundw
      case rel => exact ⟨j + 1, by go_num, by omega, by (repeat (first | with_reducible exact hb | with_reducible exact Below.refl _ _ | (with_reducible refine btrans ?_ (by with_reducible assumption)) | with_reducible refine bdrew ?_ | exact ⟨hb.os, hb.tape, hb.output, hb.size, hb.block⟩ | with_reducible refine balloc ?_ _))⟩
      case measure => simp [intOf]; omega
    · have hk1 : ¬ (j : Int) < (ps.length : Int) := by omega
      go_wp2_with fail
      go_ret
      exact ⟨rfl, hBw⟩
theorem OwnP.nil {w : World} {a : Option Addr} : Pts w a [] := .inl rfl
theorem MV.no {w w' : World} {k dx dy : Int} {ps : List (Int × Int)} {e : Ending} (hok : mvOk k ps dx dy = false) (h : MV w k ps dx dy e w') : ∃ a' cap', e = .returned (.tuple #[.agg #[.int .i64 0, .slice a' 0 cap'], .bool false]) ∧ Below w.heap.size w w' := by
  obtain ⟨a', cap', he, h1, h2, h3, h4⟩ := h
  have e1 : mvK k ps dx dy = 0 := by unfold mvK; rw [hok]; rfl
  have e2 : mvPs k ps dx dy = [] := by unfold mvPs; rw [hok]; rfl
  rw [e1, e2, hok] at he
  exact ⟨a', cap', he, h4⟩
theorem MV.yes {w w' : World} {k dx dy : Int} {ps : List (Int × Int)} {e : Ending} (hok : mvOk k ps dx dy = true) (h : MV w k ps dx dy e w') : ∃ a' cap', e = .returned (.tuple #[.agg #[.int .i64 k, .slice a' ps.length cap'], .bool true]) ∧ ps.length ≤ cap' ∧ Pts w' a' (ps.map (mp dx dy)) ∧ Below w.heap.size w w' := by
  obtain ⟨a', cap', he, h1, h2, h3, h4⟩ := h
  have e1 : mvK k ps dx dy = k := by unfold mvK; rw [hok]; rfl
  have e2 : mvPs k ps dx dy = ps.map (mp dx dy) := by unfold mvPs; rw [hok, if_pos rfl, fM_map]
  rw [e1, e2, hok, List.length_map] at he
  rw [e2, List.length_map] at h1
  rw [e2] at h2
  exact ⟨a', cap', he, h1, h2.pts, h4⟩
theorem mv_parts {k dx dy : Int} {ps : List (Int × Int)} (hok : mvOk k ps dx dy = true) : okm dx = true ∧ okm dy = true ∧ shok k ps = true ∧ shok k (ps.map (mp dx dy)) = true := by
  unfold mvOk at hok
  rw [fM_map] at hok
  simp only [Bool.and_eq_true] at hok
  exact ⟨hok.1.1.1, hok.1.1.2, hok.1.2, hok.2⟩
theorem okm_neg {x : Int} (h : okm x = true) : okm (-x) = true := by
  unfold okm at *
  simp only [Bool.and_eq_true, decide_eq_true_eq] at *
  omega
theorem mv_back {k dx dy : Int} {ps : List (Int × Int)} (hok : mvOk k ps dx dy = true) : mvOk k (ps.map (mp dx dy)) (-dx) (-dy) = true := by
  obtain ⟨h1, h2, h3, h4⟩ := mv_parts hok
  unfold mvOk
  rw [fM_map, mp_back, okm_neg h1, okm_neg h2, h3, h4]; rfl
theorem move_back (k dx dy : Int) (a : Option Addr) (cap n : Nat) (ps : List (Int × Int)) (hok : mvOk k ps dx dy = true) (w : World) (hm : ps.length ≤ 1099511627776) (hc : ps.length ≤ cap) (h : Pts w a (ps.map (mp dx dy))) : Calls Try.prog 55 #[shv k a ps.length cap, .int .i64 (-dx), .int .i64 (-dy)] w fun e w' => ∃ a' cap', e = .returned (.tuple #[.agg #[.int .i64 k, .slice a' ps.length cap'], .bool true]) ∧ ps.length ≤ cap' ∧ Pts w' a' ps ∧ Below w.heap.size w w' := by
  have hl : (ps.map (mp dx dy)).length = ps.length := List.length_map _
  have := impl_Move k (-dx) (-dy) a cap (ps.map (mp dx dy)) w (by rw [hl]; exact hm) (by rw [hl]; exact hc) h
  rw [hl] at this
  refine this.mono fun e w' hw => ?_
  obtain ⟨a', cap', he, h1, h2, h3⟩ := hw.yes (mv_back hok)
  rw [hl] at he h1
  rw [mp_back] at h2
  exact ⟨a', cap', he, h1, h2, h3⟩
/-- Two shapes that are moved alike. -/
theorem meet_moved (k1 k2 dx dy : Int) (a1 a2 : Option Addr) (c1 c2 : Nat) (ps qs : List (Int × Int)) (h1 : mvOk k1 ps dx dy = true) (h2 : mvOk k2 qs dx dy = true) (w : World) (hm1 : ps.length ≤ 1099511627776) (hc1 : ps.length ≤ c1) (hp1 : Pts w a1 (ps.map (mp dx dy))) (hm2 : qs.length ≤ 1099511627776) (hc2 : qs.length ≤ c2) (hp2 : Pts w a2 (qs.map (mp dx dy))) : Calls Try.prog 46 #[shv k1 a1 ps.length c1, shv k2 a2 qs.length c2] w fun e w' => e = .returned (.bool (smP k1 ps k2 qs)) ∧ Below w.heap.size w w' := by
  have e1 : (ps.map (mp dx dy)).length = ps.length := List.length_map _
  have e2 : (qs.map (mp dx dy)).length = qs.length := List.length_map _
  have := impl_ShapesMeet k1 k2 a1 a2 c1 c2 (ps.map (mp dx dy)) (qs.map (mp dx dy)) w (by omega) (by omega) hp1 (by omega) (by omega) hp2
  rw [e1, e2] at this
  obtain ⟨_, _, s1, s2⟩ := mv_parts h1
  obtain ⟨_, _, s3, s4⟩ := mv_parts h2
  rw [smP_shift dx dy k1 k2 ps qs s1 s3 s2 s4] at this
  exact this
end Go.Proofs.Ytkncdncpgjpemaa
