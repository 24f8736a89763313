/- Shapes that are moved: the specification's. -/
import Derived.Test.YtkncdncpgjpemaaMove
import Derived.Test.YtkncdncpgjpemaaShapeSp
import Derived.Test.YtkncdncpgjpemaaRows3
namespace Go.Proofs.Ytkncdncpgjpemaa
open Go.RowKit
set_option linter.unusedVariables false
set_option linter.unusedSimpArgs false
theorem ptrow_nil (w : World) (B : Nat) : PtRow w B (.slice none 0 0) [] := ⟨by simp [flat2], .inl ⟨rfl, rfl⟩⟩
theorem PtRow.own {w : World} {B : Nat} {v : Value} {ps : List (Int × Int)} (h : PtRow w B v ps) (h0 : 0 < ps.length) : ∃ g cap, v = .slice (some ⟨g, 0, none⟩) ps.length cap ∧ B ≤ g ∧ ps.length ≤ cap ∧ PtsOwn w g ps := by
  have h' := h
  rcases h.2 with ⟨rfl, hn⟩ | ⟨g, cap, cur, rfl, hb, hg, hc, _⟩
  · omega
  · have hat : PtsAt w g 0 ps := by
      intro k hk
      obtain ⟨f0, f1⟩ := flat2_at ps k hk
      have hcs := World.ownsRow.cells h' rfl
      have q0 := hcs _ _ f0
      have q1 := hcs _ _ f1
      rw [Addr.add_mid] at q0 q1
      exact ⟨q0, by rw [Nat.add_assoc]; exact q1⟩
    refine ⟨g, cap, rfl, hb, hc, (Array.getElem?_eq_some_iff.1 hg).1, hat, ?_⟩
    intro j hj
    simp only [Nat.zero_add]
    refine ⟨?_, World.ownsRow.frozenAt h' j⟩
    obtain ⟨q0, q1⟩ := hat (j / 2) (by omega)
    simp only [Nat.zero_add] at q0 q1
    rcases Nat.mod_two_eq_zero_or_one j with e | e
    · rw [show j / 2 * 2 = j by omega] at q0; rw [q0]; rfl
    · rw [show j / 2 * 2 + 1 = j by omega] at q1; rw [q1]; rfl
set_option maxRecDepth 100000 in
set_option maxHeartbeats 4000000 in
theorem spec_Move (k dx dy : Int) (a : Option Addr) (cap : Nat) (ps : List (Int × Int)) (w : World) (hm : ps.length ≤ 1099511627776) (hc : ps.length ≤ cap) (h : Pts w a ps) : Calls Try.prog 56 #[shv k a ps.length cap, .int .i64 dx, .int .i64 dy] w fun e w' => MV w k ps dx dy e w' := by
  have HP := hid h
  have O1 := hid (fun w' (hw : Pts w' a ps) => spec_ShapeOk k a cap ps w' hm hc hw)
  have M1 := hid (fun w => inn_calls dx (-60000) 60000 w)
  have M2 := hid (fun w => inn_calls dy (-60000) 60000 w)
  have hf1 : (decide (-60000 ≤ dx) && decide (dx ≤ 60000)) = okm dx := rfl
  have hf2 : (decide (-60000 ≤ dy) && decide (dy ≤ 60000)) = okm dy := rfl
  rw [hf1] at M1
  rw [hf2] at M2
  clear h hf1 hf2
  cases h3 : shok k ps
  · have HN := hid (show mvOk k ps dx dy = false by unfold mvOk; rw [h3]; simp)
    rw [h3] at O1
    clear h3
    go_enter Try.func56, Try.ntmps56
    go_wp2_with fail
    have q0 : ((w.alloc (.cells #[.int .i64 k, .slice a ps.length cap] 52)).alloc (.cells #[.int .i64 0, .slice none 0 0] 52)).cell? ⟨w.heap.size, 0, none⟩ = some (.int .i64 k) := by (repeat (first | with_reducible assumption | (refine newcell _ _ _ _ _ _ ?_ rfl; simp; done) | with_reducible refine keepdrew ?_ | with_reducible refine keepcell (by with_reducible assumption) ?_ | with_reducible refine keepalloc ?_ _))
    have q1 : ((w.alloc (.cells #[.int .i64 k, .slice a ps.length cap] 52)).alloc (.cells #[.int .i64 0, .slice none 0 0] 52)).cell? ⟨w.heap.size, 1, none⟩ = some (.slice a ps.length cap) := by (repeat (first | with_reducible assumption | (refine newcell _ _ _ _ _ _ ?_ rfl; simp; done) | with_reducible refine keepdrew ?_ | with_reducible refine keepcell (by with_reducible assumption) ?_ | with_reducible refine keepalloc ?_ _))
    have g6 : ((w.alloc (.cells #[.int .i64 k, .slice a ps.length cap] 52)).alloc (.cells #[.int .i64 0, .slice none 0 0] 52)).heap[w.heap.size + 1]? = some (.cells #[.int .i64 0, .slice none 0 0] 52 (0, 0)) := new_alloc _ _ _ (by simp)
    have hBX : Below w.heap.size w ((w.alloc (.cells #[.int .i64 k, .slice a ps.length cap] 52)).alloc (.cells #[.int .i64 0, .slice none 0 0] 52)) := by (repeat (first | with_reducible exact Below.refl _ _ | with_reducible assumption | (with_reducible refine btrans ?_ (by with_reducible assumption)) | with_reducible refine bdrew ?_ | with_reducible refine balloc ?_ _))
    have P1 := hid (HP.out.below hBX)
    have G6 := hid g6
    clear g6
    generalize ((w.alloc (.cells #[.int .i64 k, .slice a ps.length cap] 52)).alloc (.cells #[.int .i64 0, .slice none 0 0] 52)) = W at *
    refine (O1.out _ P1.out).mono ?_
    rintro e u1 ⟨rfl, hu1⟩
    replace q0 := keepcell hu1 q0
    replace q1 := keepcell hu1 q1
    replace G6 := hid (keepheap2 hu1 G6.out)
    replace P1 := hid (P1.out.below hu1)
    replace hBX := btrans hBX hu1
    clear hu1
    obtain ⟨y0, y1, y2, y3⟩ := cell2g G6.out
    go_wp2_with fail
    have gF := (set2 G6.out (.int .i64 0) (.slice none 0 0)).1
    have bF := bset (bset hBX (q := w.heap.size + 1) (k := 0) (by omega) (.int .i64 0)) (q := w.heap.size + 1) (k := 1) (by omega) (.slice none 0 0)
    generalize (u1.setCell ⟨w.heap.size + 1, 0, none⟩ (.int .i64 0)).setCell ⟨w.heap.size + 1, 1, none⟩ (.slice none 0 0) = wf at *
    obtain ⟨z0, z1, _, _⟩ := cell2g gF
    exact bodyPost_ret (v := .tuple #[.agg #[(.int .i64 0), (.slice none 0 0)], .bool false]) (by simp [results, Try.results56, go_sem, z0, z1]) rfl (mv_no HN.out bF)
  rw [h3] at O1
  cases h1 : okm dx
  · have HN := hid (show mvOk k ps dx dy = false by unfold mvOk; rw [h1]; simp)
    rw [h1] at M1
    clear h1 h3
    go_enter Try.func56, Try.ntmps56
    go_wp2_with fail
    have q0 : ((w.alloc (.cells #[.int .i64 k, .slice a ps.length cap] 52)).alloc (.cells #[.int .i64 0, .slice none 0 0] 52)).cell? ⟨w.heap.size, 0, none⟩ = some (.int .i64 k) := by (repeat (first | with_reducible assumption | (refine newcell _ _ _ _ _ _ ?_ rfl; simp; done) | with_reducible refine keepdrew ?_ | with_reducible refine keepcell (by with_reducible assumption) ?_ | with_reducible refine keepalloc ?_ _))
    have q1 : ((w.alloc (.cells #[.int .i64 k, .slice a ps.length cap] 52)).alloc (.cells #[.int .i64 0, .slice none 0 0] 52)).cell? ⟨w.heap.size, 1, none⟩ = some (.slice a ps.length cap) := by (repeat (first | with_reducible assumption | (refine newcell _ _ _ _ _ _ ?_ rfl; simp; done) | with_reducible refine keepdrew ?_ | with_reducible refine keepcell (by with_reducible assumption) ?_ | with_reducible refine keepalloc ?_ _))
    have g6 : ((w.alloc (.cells #[.int .i64 k, .slice a ps.length cap] 52)).alloc (.cells #[.int .i64 0, .slice none 0 0] 52)).heap[w.heap.size + 1]? = some (.cells #[.int .i64 0, .slice none 0 0] 52 (0, 0)) := new_alloc _ _ _ (by simp)
    have hBX : Below w.heap.size w ((w.alloc (.cells #[.int .i64 k, .slice a ps.length cap] 52)).alloc (.cells #[.int .i64 0, .slice none 0 0] 52)) := by (repeat (first | with_reducible exact Below.refl _ _ | with_reducible assumption | (with_reducible refine btrans ?_ (by with_reducible assumption)) | with_reducible refine bdrew ?_ | with_reducible refine balloc ?_ _))
    have P1 := hid (HP.out.below hBX)
    have G6 := hid g6
    clear g6
    generalize ((w.alloc (.cells #[.int .i64 k, .slice a ps.length cap] 52)).alloc (.cells #[.int .i64 0, .slice none 0 0] 52)) = W at *
    refine (O1.out _ P1.out).mono ?_
    rintro e u1 ⟨rfl, hu1⟩
    replace q0 := keepcell hu1 q0
    replace q1 := keepcell hu1 q1
    replace G6 := hid (keepheap2 hu1 G6.out)
    replace P1 := hid (P1.out.below hu1)
    replace hBX := btrans hBX hu1
    clear hu1
    go_wp2_with fail
    refine (M1.out _).mono ?_
    rintro e wz ⟨rfl, hw⟩
    replace hw := hw.symm
    subst hw
    obtain ⟨y0, y1, y2, y3⟩ := cell2g G6.out
    go_wp2_with fail
    have gF := (set2 G6.out (.int .i64 0) (.slice none 0 0)).1
    have bF := bset (bset hBX (q := w.heap.size + 1) (k := 0) (by omega) (.int .i64 0)) (q := w.heap.size + 1) (k := 1) (by omega) (.slice none 0 0)
    generalize (u1.setCell ⟨w.heap.size + 1, 0, none⟩ (.int .i64 0)).setCell ⟨w.heap.size + 1, 1, none⟩ (.slice none 0 0) = wf at *
    obtain ⟨z0, z1, _, _⟩ := cell2g gF
    exact bodyPost_ret (v := .tuple #[.agg #[(.int .i64 0), (.slice none 0 0)], .bool false]) (by simp [results, Try.results56, go_sem, z0, z1]) rfl (mv_no HN.out bF)
  rw [h1] at M1
  cases h2 : okm dy
  · have HN := hid (show mvOk k ps dx dy = false by unfold mvOk; rw [h2]; simp)
    rw [h2] at M2
    clear h1 h2 h3
    go_enter Try.func56, Try.ntmps56
    go_wp2_with fail
    have q0 : ((w.alloc (.cells #[.int .i64 k, .slice a ps.length cap] 52)).alloc (.cells #[.int .i64 0, .slice none 0 0] 52)).cell? ⟨w.heap.size, 0, none⟩ = some (.int .i64 k) := by (repeat (first | with_reducible assumption | (refine newcell _ _ _ _ _ _ ?_ rfl; simp; done) | with_reducible refine keepdrew ?_ | with_reducible refine keepcell (by with_reducible assumption) ?_ | with_reducible refine keepalloc ?_ _))
    have q1 : ((w.alloc (.cells #[.int .i64 k, .slice a ps.length cap] 52)).alloc (.cells #[.int .i64 0, .slice none 0 0] 52)).cell? ⟨w.heap.size, 1, none⟩ = some (.slice a ps.length cap) := by (repeat (first | with_reducible assumption | (refine newcell _ _ _ _ _ _ ?_ rfl; simp; done) | with_reducible refine keepdrew ?_ | with_reducible refine keepcell (by with_reducible assumption) ?_ | with_reducible refine keepalloc ?_ _))
    have g6 : ((w.alloc (.cells #[.int .i64 k, .slice a ps.length cap] 52)).alloc (.cells #[.int .i64 0, .slice none 0 0] 52)).heap[w.heap.size + 1]? = some (.cells #[.int .i64 0, .slice none 0 0] 52 (0, 0)) := new_alloc _ _ _ (by simp)
    have hBX : Below w.heap.size w ((w.alloc (.cells #[.int .i64 k, .slice a ps.length cap] 52)).alloc (.cells #[.int .i64 0, .slice none 0 0] 52)) := by (repeat (first | with_reducible exact Below.refl _ _ | with_reducible assumption | (with_reducible refine btrans ?_ (by with_reducible assumption)) | with_reducible refine bdrew ?_ | with_reducible refine balloc ?_ _))
    have P1 := hid (HP.out.below hBX)
    have G6 := hid g6
    clear g6
    generalize ((w.alloc (.cells #[.int .i64 k, .slice a ps.length cap] 52)).alloc (.cells #[.int .i64 0, .slice none 0 0] 52)) = W at *
    refine (O1.out _ P1.out).mono ?_
    rintro e u1 ⟨rfl, hu1⟩
    replace q0 := keepcell hu1 q0
    replace q1 := keepcell hu1 q1
    replace G6 := hid (keepheap2 hu1 G6.out)
    replace P1 := hid (P1.out.below hu1)
    replace hBX := btrans hBX hu1
    clear hu1
    go_wp2_with fail
    refine (M1.out _).mono ?_
    rintro e wz ⟨rfl, hw⟩
    replace hw := hw.symm
    subst hw
    go_wp2_with fail
    refine (M2.out _).mono ?_
    rintro e wz ⟨rfl, hw⟩
    replace hw := hw.symm
    subst hw
    obtain ⟨y0, y1, y2, y3⟩ := cell2g G6.out
    go_wp2_with fail
    have gF := (set2 G6.out (.int .i64 0) (.slice none 0 0)).1
    have bF := bset (bset hBX (q := w.heap.size + 1) (k := 0) (by omega) (.int .i64 0)) (q := w.heap.size + 1) (k := 1) (by omega) (.slice none 0 0)
    generalize (u1.setCell ⟨w.heap.size + 1, 0, none⟩ (.int .i64 0)).setCell ⟨w.heap.size + 1, 1, none⟩ (.slice none 0 0) = wf at *
    obtain ⟨z0, z1, _, _⟩ := cell2g gF
    exact bodyPost_ret (v := .tuple #[.agg #[(.int .i64 0), (.slice none 0 0)], .bool false]) (by simp [results, Try.results56, go_sem, z0, z1]) rfl (mv_no HN.out bF)
  rw [h2] at M2
  have hmv : mvOk k ps dx dy = shok k (tk (fM ps dx dy) ps.length) := by unfold mvOk; rw [h1, h2, h3]; simp
  have HMV := hid hmv
  have hdx : -60000 ≤ dx ∧ dx ≤ 60000 := by unfold okm at h1; simpa using h1
  have hdy : -60000 ≤ dy ∧ dy ≤ 60000 := by unfold okm at h2; simpa using h2
  have HIN := hid (fun j => allok_in (shok_allok h3) j)
  have hpos : 0 < ps.length ∧ ps.length ≤ 60 := by rcases shok_kind h3 with h | h | h | h <;> omega
  have O2 := hid (fun (b c : Nat) w' (hcc : (tk (fM ps dx dy) ps.length).length ≤ c) (hw : Pts w' (some ⟨b, 0, none⟩) (tk (fM ps dx dy) ps.length)) => spec_ShapeOk k (some ⟨b, 0, none⟩) c (tk (fM ps dx dy) ps.length) w' (by rw [tk_len]; exact hm) hcc hw)
  obtain ⟨i0, hi0, hz0, hz1, hz2⟩ := info_parts Try.infoP2
  obtain ⟨hdx1, hdx2⟩ := hdx
  obtain ⟨hdy1, hdy2⟩ := hdy
  obtain ⟨hpos1, hpos2⟩ := hpos
  clear h1 h2 h3 hmv
  go_enter Try.func56, Try.ntmps56
  go_wp2_with fail
  have q0 : ((w.alloc (.cells #[.int .i64 k, .slice a ps.length cap] 52)).alloc (.cells #[.int .i64 0, .slice none 0 0] 52)).cell? ⟨w.heap.size, 0, none⟩ = some (.int .i64 k) := by (repeat (first | with_reducible assumption | (refine newcell _ _ _ _ _ _ ?_ rfl; simp; done) | with_reducible refine keepdrew ?_ | with_reducible refine keepcell (by with_reducible assumption) ?_ | with_reducible refine keepalloc ?_ _))
  have q1 : ((w.alloc (.cells #[.int .i64 k, .slice a ps.length cap] 52)).alloc (.cells #[.int .i64 0, .slice none 0 0] 52)).cell? ⟨w.heap.size, 1, none⟩ = some (.slice a ps.length cap) := by (repeat (first | with_reducible assumption | (refine newcell _ _ _ _ _ _ ?_ rfl; simp; done) | with_reducible refine keepdrew ?_ | with_reducible refine keepcell (by with_reducible assumption) ?_ | with_reducible refine keepalloc ?_ _))
  have g6 : ((w.alloc (.cells #[.int .i64 k, .slice a ps.length cap] 52)).alloc (.cells #[.int .i64 0, .slice none 0 0] 52)).heap[w.heap.size + 1]? = some (.cells #[.int .i64 0, .slice none 0 0] 52 (0, 0)) := new_alloc _ _ _ (by simp)
  have hBX : Below w.heap.size w ((w.alloc (.cells #[.int .i64 k, .slice a ps.length cap] 52)).alloc (.cells #[.int .i64 0, .slice none 0 0] 52)) := by (repeat (first | with_reducible exact Below.refl _ _ | with_reducible assumption | (with_reducible refine btrans ?_ (by with_reducible assumption)) | with_reducible refine bdrew ?_ | with_reducible refine balloc ?_ _))
  have P1 := hid (HP.out.below hBX)
  have G6 := hid g6
  clear g6
  generalize ((w.alloc (.cells #[.int .i64 k, .slice a ps.length cap] 52)).alloc (.cells #[.int .i64 0, .slice none 0 0] 52)) = W at *
  refine (O1.out _ P1.out).mono ?_
  rintro e u1 ⟨rfl, hu1⟩
  replace q0 := keepcell hu1 q0
  replace q1 := keepcell hu1 q1
  replace G6 := hid (keepheap2 hu1 G6.out)
  replace P1 := hid (P1.out.below hu1)
  replace hBX := btrans hBX hu1
  clear hu1
  go_wp2_with fail
  refine (M1.out _).mono ?_
  rintro e wz ⟨rfl, hw⟩
  replace hw := hw.symm
  subst hw
  go_wp2_with fail
  refine (M2.out _).mono ?_
  rintro e wz ⟨rfl, hw⟩
  replace hw := hw.symm
  subst hw
  have hub : w.heap.size + 1 < u1.heap.size := lt_of_block G6.out
  go_wp2_with fail
  have g8 : (u1.alloc (.cells #[.int .i64 k, .slice none 0 0] 52)).heap[u1.heap.size]? = some (.cells #[.int .i64 k, .slice none 0 0] 52 (0, 0)) := new_alloc _ _ _ rfl
  have q1' := keepalloc q1 (.cells #[.int .i64 k, .slice none 0 0] 52)
  have G6' := hid (old_alloc (o' := .cells #[.int .i64 k, .slice none 0 0] 52) G6.out)
  have hBV := balloc hBX (.cells #[.int .i64 k, .slice none 0 0] 52)
  have hsv : (u1.alloc (.cells #[.int .i64 k, .slice none 0 0] 52)).heap.size = u1.heap.size + 1 := by simp
  have G8 := hid g8
  clear g8 q0 q1 G6 hBX P1
  generalize u1.alloc (.cells #[.int .i64 k, .slice none 0 0] 52) = V0 at *
  generalize u1.heap.size = B8 at *
  go_loopw [9] (fun ti wr => ∃ j : Nat, ∃ v : Value, ti = .int .i64 j ∧ j ≤ ps.length ∧ Hid (Below w.heap.size w wr) ∧ wr.cell? ⟨w.heap.size, 1, none⟩ = some (.slice a ps.length cap) ∧ Hid (wr.heap[w.heap.size + 1]? = some (.cells #[.int .i64 0, .slice none 0 0] 52 (0, 0))) ∧ Hid (wr.heap[B8]? = some (.cells #[.int .i64 k, v] 52 (0, 0))) ∧ Hid (V0.heap.size ≤ wr.heap.size ∧ PtRow wr V0.heap.size v (tk (fM ps dx dy) j))) (fun ti _ => ps.length - (intOf ti).toNat)
  case atStart => exact ⟨0, _, rfl, Nat.zero_le _, hid hBV, q1', G6', G8, hid ⟨Nat.le_refl _, ptrow_nil _ _⟩⟩
  case round =>
    clear q1' G6' G8 hBV
    obtain ⟨j, v, rfl, hj, HBW, q1, G6, G8, HL⟩ := hrel
    by_cases hlt : j < ps.length
    · have c1 : (j : Int) < (ps.length : Int) := by omega
      have c0 : (0 : Int) ≤ (j : Int) := by omega
      have hPW := HP.out.below HBW.out
      obtain ⟨b, off, rfl, hbs, hp⟩ : ∃ b off, a = some ⟨b, off, none⟩ ∧ b < w.heap.size ∧ PtsAt w b off ps := by
        rcases HP.out with h | h
        · rw [h] at hlt; simp at hlt
        · exact h
      obtain ⟨d0, d1⟩ := hp.below hbs HBW.out j hlt
      obtain ⟨⟨ix1, ix2⟩, iy1, iy2⟩ := HIN.out j hlt
      have hfm : tk (fM ps dx dy) (j + 1) = tk (fM ps dx dy) j ++ [((ps.getD j (0, 0)).1 + dx, (ps.getD j (0, 0)).2 + dy)] := tk_next _ _
      have HFM := hid hfm
      clear hfm hp hPW
      generalize (ps.getD j (0, 0)).1 = x at *
      generalize (ps.getD j (0, 0)).2 = y at *
      have hwx : IntKind.i64.wrap (x + dx) = x + dx := by rw [IntKind.wrap_i64]; omega
      have hwy : IntKind.i64.wrap (y + dy) = y + dy := by rw [IntKind.wrap_i64]; omega
      have hown := HL.out.2
      unfold PtRow at hown
      rw [tk_len] at hown
      have hsz := HL.out.1
      have hvb : some b ≠ v.ownBlock := fun e => absurd (hown.lt b e.symm).1 (by omega)
      have hv8 : some B8 ≠ v.ownBlock := fun e => absurd (hown.lt B8 e.symm).1 (by omega)
      have hvn : some w.heap.size ≠ v.ownBlock := fun e => absurd (hown.lt _ e.symm).1 (by omega)
      have hv6 : some (w.heap.size + 1) ≠ v.ownBlock := fun e => absurd (hown.lt _ e.symm).1 (by omega)
      have q1d : wr.drew.cell? ⟨w.heap.size, 1, none⟩ = some (.slice (some ⟨b, off, none⟩) ps.length cap) := q1
      have d0d : wr.drew.cell? ⟨b, off + j * 2, none⟩ = some (.int .i64 x) := d0
      have d1d : wr.drew.cell? ⟨b, off + j * 2 + 1, none⟩ = some (.int .i64 y) := d1
      have g8d : wr.drew.heap[B8]? = some (.cells #[.int .i64 k, v] 52 (0, 0)) := G8.out
      have g6d : wr.drew.heap[w.heap.size + 1]? = some (.cells #[.int .i64 0, .slice none 0 0] 52 (0, 0)) := G6.out
      have hownd : wr.drew.ownsRow V0.heap.size 25 2 v j (flat2 (tk (fM ps dx dy) j)) := hown
      have hBd : Below w.heap.size w wr.drew := bdrew HBW.out
      have hszd : V0.heap.size ≤ wr.drew.heap.size := hsz
      clear HBW G6 G8 HL hown d0 d1
      go_wp2_with fail
      refine wp_region_held_drew (S := (fun w' => w'.cell? ⟨w.heap.size, 1, none⟩ = some (.slice (some ⟨b, off, none⟩) ps.length cap) ∧ w'.cell? ⟨b, off + j * 2, none⟩ = some (.int .i64 x) ∧ w'.cell? ⟨b, off + j * 2 + 1, none⟩ = some (.int .i64 y))) (by kernel_rfl) ?_ (fun hHeld => ?_)
      · (repeat' apply And.intro) <;> with_reducible assumption
      generalize wr.drew = V at *
      obtain ⟨r80, r81, _, r8f⟩ := cell2g g8d
      refine wpAnyH_take (i := 0) (v := ?_) rfl (by kernel_rfl) (by kernel_rfl) (by kernel_rfl) (fun _ _ _ h => h) (Or.inl ⟨by rfl, ?_⟩) hHeld ?_
      rotate_left
      · intro w hSw; (try dsimp only at hSw); go_simp; try (with_reducible rfl)
      try simp only [sq]
      refine wpAnyH_take (i := 2) (v := ?_) rfl (by kernel_rfl) (by kernel_rfl) (by kernel_rfl) (fun _ _ _ h => h) (Or.inl ⟨by rfl, ?_⟩) hHeld ?_
      rotate_left
      · intro w hSw; (try dsimp only at hSw); go_simp; try (with_reducible rfl)
      try simp only [sq]
      refine wpAnyH_take (i := 3) (v := ?_) rfl (by kernel_rfl) (by kernel_rfl) (by kernel_rfl) (fun _ _ _ h => h) (Or.inl ⟨by rfl, ?_⟩) hHeld ?_
      rotate_left
      · intro w hSw; (try dsimp only at hSw); go_simp; try (with_reducible rfl)
      try simp only [sq]
      refine wpAnyH_take (i := 4) (v := ?_) rfl (by kernel_rfl) (by kernel_rfl) (by kernel_rfl) (fun _ _ _ h => h) (Or.inl ⟨by rfl, ?_⟩) hHeld ?_
      rotate_left
      · intro w hSw; (try dsimp only at hSw); go_simp; try (with_reducible rfl)
      try simp only [sq]
      refine wpAnyH_take (i := 5) (v := ?_) rfl (by kernel_rfl) (by kernel_rfl) (by kernel_rfl) (fun _ _ _ h => h) (Or.inl ⟨by rfl, ?_⟩) hHeld ?_
      rotate_left
      · intro w hSw; (try dsimp only at hSw); go_simp; try (with_reducible rfl)
      try simp only [sq]
      refine wpAnyH_take (i := 6) (v := ?_) rfl (by kernel_rfl) (by kernel_rfl) (by kernel_rfl) (fun _ _ _ h => h) (Or.inl ⟨by rfl, ?_⟩) hHeld ?_
      rotate_left
      · intro w hSw; (try dsimp only at hSw); go_simp; try (with_reducible rfl)
      try simp only [sq]
      refine wpAnyH_take (i := 7) (v := ?_) rfl (by kernel_rfl) (by kernel_rfl) (by kernel_rfl) (fun _ _ _ h => h) (Or.inl ⟨by rfl, ?_⟩) hHeld ?_
      rotate_left
      · intro w hSw; (try dsimp only at hSw); go_simp; try (with_reducible rfl)
      try simp only [sq]
      refine wpAnyH_take (i := 8) (v := ?_) rfl (by kernel_rfl) (by kernel_rfl) (by kernel_rfl) (fun _ _ _ h => h) (Or.inl ⟨by rfl, ?_⟩) hHeld ?_
      rotate_left
      · intro w hSw; (try dsimp only at hSw); go_simp; try (with_reducible rfl)
      try simp only [sq]
      refine wpAnyH_take (i := 9) (v := ?_) rfl (by kernel_rfl) (by kernel_rfl) (by kernel_rfl) (fun _ _ _ h => h) (Or.inl ⟨by rfl, ?_⟩) hHeld ?_
      rotate_left
      · intro w hSw; (try dsimp only at hSw); go_simp; try (with_reducible rfl)
      try simp only [sq]
      refine wpAnyH_take (i := 10) (v := ?_) rfl (by kernel_rfl) (by kernel_rfl) (by kernel_rfl) (fun _ _ _ h => h) (Or.inl ⟨by rfl, ?_⟩) hHeld ?_
      rotate_left
      · intro w hSw; (try dsimp only at hSw); go_simp; try (with_reducible rfl)
      try simp only [sq]
      refine wpAnyH_take (i := 11) (v := ?_) rfl (by kernel_rfl) (by kernel_rfl) (by kernel_rfl) (fun _ _ _ h => h) (Or.inl ⟨by rfl, ?_⟩) hHeld ?_
      rotate_left
      · intro w hSw; (try dsimp only at hSw); go_simp; try (with_reducible rfl)
      try simp only [sq]
      refine wpAnyH_take (i := 12) (v := ?_) rfl (by kernel_rfl) (by kernel_rfl) (by kernel_rfl) (fun _ _ _ h => h) (Or.inl ⟨by rfl, ?_⟩) hHeld ?_
      rotate_left
      · intro w hSw; (try dsimp only at hSw); go_simp; try (with_reducible rfl)
      try simp only [sq]
      refine wpAnyH_take (i := 13) (v := ?_) rfl (by kernel_rfl) (by kernel_rfl) (by kernel_rfl) (fun _ _ _ h => h) (Or.inl ⟨by rfl, ?_⟩) hHeld ?_
      rotate_left
      · intro w hSw; (try dsimp only at hSw); go_simp; try (with_reducible rfl)
      try simp only [sq]
      refine wpAnyH_take (i := 14) (v := ?_) rfl (by kernel_rfl) (by kernel_rfl) (by kernel_rfl) (fun _ _ _ h => h) (Or.inl ⟨by rfl, ?_⟩) hHeld ?_
      rotate_left
      · intro w hSw; (try dsimp only at hSw); go_simp; try (with_reducible rfl)
      try simp only [sq]
      refine wpAnyH_take (i := 15) (v := ?_) rfl (by kernel_rfl) (by kernel_rfl) (by kernel_rfl) (fun _ _ _ h => h) (Or.inl ⟨by rfl, ?_⟩) hHeld ?_
      rotate_left
      · intro w hSw; (try dsimp only at hSw); go_simp; try (with_reducible rfl)
      try simp only [sq]
      refine wpAnyH_take (i := 16) (v := ?_) rfl (by kernel_rfl) (by kernel_rfl) (by kernel_rfl) (fun _ _ _ h => h) (Or.inl ⟨by rfl, ?_⟩) hHeld ?_
      rotate_left
      · intro w hSw; (try dsimp only at hSw); go_simp; try (with_reducible rfl)
      try simp only [sq]
      refine wpAnyH_take (i := 17) (v := ?_) rfl (by kernel_rfl) (by kernel_rfl) (by kernel_rfl) (fun _ _ _ h => h) (Or.inl ⟨by rfl, ?_⟩) hHeld ?_
      rotate_left
      · intro w hSw; (try dsimp only at hSw); go_simp; try (with_reducible rfl)
      try simp only [sq]
      refine wpAnyH_take (i := 18) (v := ?_) rfl (by kernel_rfl) (by kernel_rfl) (by kernel_rfl) (fun _ _ _ h => h) (Or.inl ⟨by rfl, ?_⟩) hHeld ?_
      rotate_left
      · intro w hSw; (try dsimp only at hSw); go_simp; try (with_reducible rfl)
      try simp only [sq]
      refine wpAnyH_ready (rs := [1, 19]) (by kernel_rfl) (by simp) ?_
      refine AllReadyH.cons rfl (fun K hK => ?_) (AllReadyH.cons rfl (fun K hK => ?_) AllReadyH.nil)
      · skip
        try simp only [sq]
        go_simp
        refine hK.out _ _ ?_ (fun hHeld => ?_)
        · (repeat' apply And.intro) <;> (with_reducible assumption)
        clear hK K
        try simp only [sq]
        refine wpAnyH_ready (rs := [19]) (by kernel_rfl) (by simp) ?_
        refine AllReadyH.cons rfl (fun K hK => ?_) AllReadyH.nil
        try simp only [sq]
        go_simp
        refine hK.out _ _ ?_ (fun hHeld => ?_)
        · (repeat' apply And.intro) <;> (repeat (first | with_reducible assumption | with_reducible refine keepdrew ?_ | with_reducible refine keepalloc ?_ _))
        clear hK K
        try simp only [sq]
        refine wpAnyH_ready (rs := [20]) (by kernel_rfl) (by simp) ?_
        refine AllReadyH.cons rfl (fun K hK => ?_) AllReadyH.nil
        refine step_append_lies _ (by rfl) _ _ _ (by rfl) V0.heap.size 25 i0 _ 2 16 Try.underlying37 hi0 hz0 hz1 hz2 rfl (by omega) _ j (flat2 (tk (fM ps dx dy) j)) (by rfl) (hownd.alloc _) ⟨V.heap.size, 0, none⟩ 1 1 [.int .i64 (x + dx), .int .i64 (y + dy)] (by rfl) (by rfl) (World.news_of_block (cs := #[.int .i64 (x + dx), .int .i64 (y + dy)]) (t := 25) (fr := (0, 0)) (heap_alloc_new V _)) (by simp [Value.oneCell']) (by omega) (by unfold maxLen; omega) (by omega) (by simp; omega) (V.heap.size + 1) (by simp) ?_
        intro g cp s2 hown2 hgrow hat hlt2
        refine hK.out _ _ ?_ (fun hHeld => ?_)
        · exact ⟨hgrow.cell (keepalloc q1d _) hvn, hgrow.cell (keepalloc d0d _) hvb, hgrow.cell (keepalloc d1d _) hvb⟩
        clear hK K
        try simp only [sq]
        have g82 : s2.heap[B8]? = some (.cells #[.int .i64 k, v] 52 (0, 0)) := (hgrow.block B8 (by have := lt_of_block g8d; simp; omega) hv8).trans (old_alloc g8d)
        have g62 : s2.heap[w.heap.size + 1]? = some (.cells #[.int .i64 0, .slice none 0 0] 52 (0, 0)) := (hgrow.block _ (by have := lt_of_block g6d; simp; omega) hv6).trans (old_alloc g6d)
        have hq2 : s2.cell? ⟨w.heap.size, 1, none⟩ = some (.slice (some ⟨b, off, none⟩) ps.length cap) := hgrow.cell (keepalloc q1d _) hvn
        have hB2 : Below w.heap.size w s2 := (balloc hBd _).grown hgrow (by have := hBd.size; simp; omega) (fun y hy => by have := (hownd.lt y hy).1; omega)
        have hs2 := hgrow.size
        obtain ⟨r0, r1, rf0, rf1⟩ := cell2g g82
        refine wpAnyH_take (i := 21) (v := ?_) rfl (by kernel_rfl) (by kernel_rfl) (by kernel_rfl) (fun _ _ _ h => h) (Or.inl ⟨by rfl, ?_⟩) hHeld ?_
        rotate_left
        · intro w hSw; (try dsimp only at hSw); go_simp; try (with_reducible rfl)
        try simp only [sq]
        refine wpAnyH_ready (rs := [22]) (by kernel_rfl) (by simp) ?_
        refine AllReadyH.cons rfl (fun K hK => ?_) AllReadyH.nil
        try simp only [sq]
        go_simp
        refine hK.out _ _ ?_ (fun hHeld => ?_)
        · exact ⟨keepset hHeld.1 (by dsimp only; omega), keepset hHeld.2.1 (by dsimp only; omega), keepset hHeld.2.2 (by dsimp only; omega)⟩
        clear hK K
        try simp only [sq]
        refine wpAnyH_done (by kernel_rfl) ?_ _
        have kr : PtRow s2 V0.heap.size (.slice (some ⟨g, 0, none⟩) (j + 1) cp) (tk (fM ps dx dy) (j + 1)) := by
          rw [HFM.out]; exact row_self (by rw [tk_len]; exact hown2)
        have kr2 : PtRow (s2.setCell ⟨B8, 1, none⟩ (.slice (some ⟨g, 0, none⟩) (j + 1) cp)) V0.heap.size (.slice (some ⟨g, 0, none⟩) (j + 1) cp) (tk (fM ps dx dy) (j + 1)) := World.ownsRow.kept kr (grown_set _ _ _ _) (Or.inr (fun e => by have := (World.ownsRow.lt kr B8 e).1; omega))
        have g83 : (s2.setCell ⟨B8, 1, none⟩ (.slice (some ⟨g, 0, none⟩) (j + 1) cp)).heap[B8]? = some (.cells #[.int .i64 k, .slice (some ⟨g, 0, none⟩) (j + 1) cp] 52 (0, 0)) := set_at g82
        have g63 := set_far (q := B8) (k := 1) (u := .slice (some ⟨g, 0, none⟩) (j + 1) cp) g62 (by omega)
        have hq3 := keepset (q := ⟨B8, 1, none⟩) (u := .slice (some ⟨g, 0, none⟩) (j + 1) cp) hq2 (by dsimp only; omega)
        have hB3 := bset hB2 (q := B8) (k := 1) (by omega) (.slice (some ⟨g, 0, none⟩) (j + 1) cp)
        have HK2 := hid kr2
        clear kr kr2 hown2 hgrow hat g82 g62 hq2 hB2
        go_wp2_with fail
        go_roundw
        case rel => exact ⟨j + 1, _, by go_num, by omega, hid hB3, hq3, hid g63, hid g83, hid ⟨by simp at hs2; simp; omega, HK2.out⟩⟩
        case measure => simp [intOf]; omega
      · skip
        try simp only [sq]
        go_simp
        refine hK.out _ _ ?_ (fun hHeld => ?_)
        · (repeat' apply And.intro) <;> (repeat (first | with_reducible assumption | with_reducible refine keepdrew ?_ | with_reducible refine keepalloc ?_ _))
        clear hK K
        try simp only [sq]
        have r80a := keepalloc r80 (.cells #[.int .i64 (x + dx), .int .i64 (y + dy)] 25)
        have r81a := keepalloc r81 (.cells #[.int .i64 (x + dx), .int .i64 (y + dy)] 25)
        refine wpAnyH_ready (rs := [1]) (by kernel_rfl) (by simp) ?_
        refine AllReadyH.cons rfl (fun K hK => ?_) AllReadyH.nil
        try simp only [sq]
        go_simp
        refine hK.out _ _ ?_ (fun hHeld => ?_)
        · (repeat' apply And.intro) <;> (repeat (first | with_reducible assumption | with_reducible refine keepdrew ?_ | with_reducible refine keepalloc ?_ _))
        clear hK K
        try simp only [sq]
        refine wpAnyH_ready (rs := [20]) (by kernel_rfl) (by simp) ?_
        refine AllReadyH.cons rfl (fun K hK => ?_) AllReadyH.nil
        refine step_append_lies _ (by rfl) _ _ _ (by rfl) V0.heap.size 25 i0 _ 2 16 Try.underlying37 hi0 hz0 hz1 hz2 rfl (by omega) _ j (flat2 (tk (fM ps dx dy) j)) (by rfl) (hownd.alloc _) ⟨V.heap.size, 0, none⟩ 1 1 [.int .i64 (x + dx), .int .i64 (y + dy)] (by rfl) (by rfl) (World.news_of_block (cs := #[.int .i64 (x + dx), .int .i64 (y + dy)]) (t := 25) (fr := (0, 0)) (heap_alloc_new V _)) (by simp [Value.oneCell']) (by omega) (by unfold maxLen; omega) (by omega) (by simp; omega) (V.heap.size + 1) (by simp) ?_
        intro g cp s2 hown2 hgrow hat hlt2
        refine hK.out _ _ ?_ (fun hHeld => ?_)
        · exact ⟨hgrow.cell (keepalloc q1d _) hvn, hgrow.cell (keepalloc d0d _) hvb, hgrow.cell (keepalloc d1d _) hvb⟩
        clear hK K
        try simp only [sq]
        have g82 : s2.heap[B8]? = some (.cells #[.int .i64 k, v] 52 (0, 0)) := (hgrow.block B8 (by have := lt_of_block g8d; simp; omega) hv8).trans (old_alloc g8d)
        have g62 : s2.heap[w.heap.size + 1]? = some (.cells #[.int .i64 0, .slice none 0 0] 52 (0, 0)) := (hgrow.block _ (by have := lt_of_block g6d; simp; omega) hv6).trans (old_alloc g6d)
        have hq2 : s2.cell? ⟨w.heap.size, 1, none⟩ = some (.slice (some ⟨b, off, none⟩) ps.length cap) := hgrow.cell (keepalloc q1d _) hvn
        have hB2 : Below w.heap.size w s2 := (balloc hBd _).grown hgrow (by have := hBd.size; simp; omega) (fun y hy => by have := (hownd.lt y hy).1; omega)
        have hs2 := hgrow.size
        obtain ⟨r0, r1, rf0, rf1⟩ := cell2g g82
        refine wpAnyH_take (i := 21) (v := ?_) rfl (by kernel_rfl) (by kernel_rfl) (by kernel_rfl) (fun _ _ _ h => h) (Or.inl ⟨by rfl, ?_⟩) hHeld ?_
        rotate_left
        · intro w hSw; (try dsimp only at hSw); go_simp; try (with_reducible rfl)
        try simp only [sq]
        refine wpAnyH_ready (rs := [22]) (by kernel_rfl) (by simp) ?_
        refine AllReadyH.cons rfl (fun K hK => ?_) AllReadyH.nil
        try simp only [sq]
        go_simp
        refine hK.out _ _ ?_ (fun hHeld => ?_)
        · exact ⟨keepset hHeld.1 (by dsimp only; omega), keepset hHeld.2.1 (by dsimp only; omega), keepset hHeld.2.2 (by dsimp only; omega)⟩
        clear hK K
        try simp only [sq]
        refine wpAnyH_done (by kernel_rfl) ?_ _
        have kr : PtRow s2 V0.heap.size (.slice (some ⟨g, 0, none⟩) (j + 1) cp) (tk (fM ps dx dy) (j + 1)) := by
          rw [HFM.out]; exact row_self (by rw [tk_len]; exact hown2)
        have kr2 : PtRow (s2.setCell ⟨B8, 1, none⟩ (.slice (some ⟨g, 0, none⟩) (j + 1) cp)) V0.heap.size (.slice (some ⟨g, 0, none⟩) (j + 1) cp) (tk (fM ps dx dy) (j + 1)) := World.ownsRow.kept kr (grown_set _ _ _ _) (Or.inr (fun e => by have := (World.ownsRow.lt kr B8 e).1; omega))
        have g83 : (s2.setCell ⟨B8, 1, none⟩ (.slice (some ⟨g, 0, none⟩) (j + 1) cp)).heap[B8]? = some (.cells #[.int .i64 k, .slice (some ⟨g, 0, none⟩) (j + 1) cp] 52 (0, 0)) := set_at g82
        have g63 := set_far (q := B8) (k := 1) (u := .slice (some ⟨g, 0, none⟩) (j + 1) cp) g62 (by omega)
        have hq3 := keepset (q := ⟨B8, 1, none⟩) (u := .slice (some ⟨g, 0, none⟩) (j + 1) cp) hq2 (by dsimp only; omega)
        have hB3 := bset hB2 (q := B8) (k := 1) (by omega) (.slice (some ⟨g, 0, none⟩) (j + 1) cp)
        have HK2 := hid kr2
        clear kr kr2 hown2 hgrow hat g82 g62 hq2 hB2
        go_wp2_with fail
        go_roundw
        case rel => exact ⟨j + 1, _, by go_num, by omega, hid hB3, hq3, hid g63, hid g83, hid ⟨by simp at hs2; simp; omega, HK2.out⟩⟩
        case measure => simp [intOf]; omega
    · obtain rfl : j = ps.length := by omega
      obtain ⟨g, cp, hv, hg0, hcp, hown⟩ := HL.out.2.own (by rw [tk_len]; exact hpos1)
      rw [tk_len] at hv hcp
      subst hv
      obtain ⟨e0, e1, _, _⟩ := cell2g G8.out
      have A2 := O2.out g cp wr (by rw [tk_len]; exact hcp) hown.pts
      rw [tk_len] at A2
      have HA2 := hid A2
      have HOW := hid hown
      have hBX := HBW.out
      clear A2 HBW O2 hown HL
      cases h4 : shok k (tk (fM ps dx dy) ps.length)
      · have HN := hid (show mvOk k ps dx dy = false by rw [HMV.out, h4])
        rw [h4] at HA2
        clear h4
        go_wp2_with fail
        refine HA2.out.mono ?_
        rintro e u2 ⟨rfl, hu2⟩
        replace G6 := hid (keepheap2 hu2 G6.out)
        replace hBX := btrans hBX hu2
        obtain ⟨y0, y1, y2, y3⟩ := cell2g G6.out
        go_wp2_with fail
        have gF := (set2 G6.out (.int .i64 0) (.slice none 0 0)).1
        have bF := bset (bset hBX (q := w.heap.size + 1) (k := 0) (by omega) (.int .i64 0)) (q := w.heap.size + 1) (k := 1) (by omega) (.slice none 0 0)
        generalize (u2.setCell ⟨w.heap.size + 1, 0, none⟩ (.int .i64 0)).setCell ⟨w.heap.size + 1, 1, none⟩ (.slice none 0 0) = wf at *
        obtain ⟨z0, z1, _, _⟩ := cell2g gF
        exact bodyPost_ret (v := .tuple #[.agg #[(.int .i64 0), (.slice none 0 0)], .bool false]) (by simp [results, Try.results56, go_sem, z0, z1]) rfl (mv_no HN.out bF)
      · have HN := hid (show mvOk k ps dx dy = true by rw [HMV.out, h4])
        rw [h4] at HA2
        clear h4
        go_wp2_with fail
        refine HA2.out.mono ?_
        rintro e u2 ⟨rfl, hu2⟩
        replace G6 := hid (keepheap2 hu2 G6.out)
        replace hBX := btrans hBX hu2
        replace e0 := keepcell hu2 e0
        replace e1 := keepcell hu2 e1
        have HOWN := hid (HOW.out.below hu2)
        clear hu2
        obtain ⟨y0, y1, y2, y3⟩ := cell2g G6.out
        go_wp2_with fail
        have gF := (set2 G6.out (.int .i64 k) (.slice (some ⟨g, 0, none⟩) ps.length cp)).1
        have bF := bset (bset hBX (q := w.heap.size + 1) (k := 0) (by omega) (.int .i64 k)) (q := w.heap.size + 1) (k := 1) (by omega) (.slice (some ⟨g, 0, none⟩) ps.length cp)
        have hoF : PtsOwn ((u2.setCell ⟨w.heap.size + 1, 0, none⟩ (.int .i64 k)).setCell ⟨w.heap.size + 1, 1, none⟩ (.slice (some ⟨g, 0, none⟩) ps.length cp)) g (tk (fM ps dx dy) ps.length) := PtsOwn.of_block HOWN.out (by rw [blk_far _ _ _ _ _ (by omega), blk_far _ _ _ _ _ (by omega)]) (by simp)
        generalize (u2.setCell ⟨w.heap.size + 1, 0, none⟩ (.int .i64 k)).setCell ⟨w.heap.size + 1, 1, none⟩ (.slice (some ⟨g, 0, none⟩) ps.length cp) = wf at *
        obtain ⟨z0, z1, _, _⟩ := cell2g gF
        exact bodyPost_ret (v := .tuple #[.agg #[(.int .i64 k), (.slice (some ⟨g, 0, none⟩) ps.length cp)], .bool true]) (by simp [results, Try.results56, go_sem, z0, z1]) rfl (mv_yes HN.out hcp hoF (by omega) bF)
end Go.Proofs.Ytkncdncpgjpemaa
