/- Statements as a law is given them: counted, copied, held one against the other, opened; Reads of both sides. -/
import Derived.Test.YtkifhdkebddnpaaGreatDoorRShLaw
import Derived.Deep.SlicePairs
namespace Go.Proofs.YtkifhdkebddnpaaGreatDoorR
open Go.RowKit
set_option linter.unusedSimpArgs false
set_option linter.unusedVariables false
abbrev asv (k id kd : Int) (a : Option Addr) (n cap : Nat) (l c r : Int) : Value := .agg #[.int .i64 k, .int .i64 id, .int .i64 kd, .slice a n cap, .int .i64 l, .int .i64 c, .int .i64 r]
theorem cell7 {w : World} {p : Nat} {a b c d e f g : Value} {t : TypeId} (h : w.heap[p]? = some (.cells #[a, b, c, d, e, f, g] t (0, 0))) : w.cell? ⟨p, 0, none⟩ = some a ∧ w.cell? ⟨p, 1, none⟩ = some b ∧ w.cell? ⟨p, 2, none⟩ = some c ∧ w.cell? ⟨p, 3, none⟩ = some d ∧ w.cell? ⟨p, 4, none⟩ = some e ∧ w.cell? ⟨p, 5, none⟩ = some f ∧ w.cell? ⟨p, 6, none⟩ = some g ∧ w.frozen? ⟨p, 0, none⟩ = false ∧ w.frozen? ⟨p, 1, none⟩ = false ∧ w.frozen? ⟨p, 2, none⟩ = false ∧ w.frozen? ⟨p, 3, none⟩ = false ∧ w.frozen? ⟨p, 4, none⟩ = false ∧ w.frozen? ⟨p, 5, none⟩ = false ∧ w.frozen? ⟨p, 6, none⟩ = false := by
  refine ⟨?_, ?_, ?_, ?_, ?_, ?_, ?_, ?_, ?_, ?_, ?_, ?_, ?_, ?_⟩ <;> simp [World.cell?, World.frozen?, h]
theorem asz_big (k id kd : Int) (a : Option Addr) (n cap : Nat) (l c r left : Int) (w : World) (hn : n ≤ 9223372036854775807) (h0 : 0 ≤ left) (h1 : left ≤ 1048576) (h : left < n) : Calls Tryz.prog 4 #[asv k id kd a n cap l c r, .int .i64 left] w fun e w' => e = .returned (.int .i64 (-1)) ∧ Below w.heap.size w w' := by
  go_enter Tryz.func4, Tryz.ntmps4
  go_wp2_with fail
  refine (szs_big _ _ _ _ _ _ hn h0 h1 (by omega)).mono ?_
  rintro e w1 ⟨rfl, hw⟩
  go_wp2_with fail
  go_ret
  exact ⟨rfl, by (repeat (first | with_reducible exact Below.refl _ _ | with_reducible assumption | (with_reducible refine btrans ?_ (by with_reducible assumption)) | with_reducible refine bdrew ?_ | with_reducible refine balloc ?_ _))⟩
theorem asz_ok (k id kd : Int) (a : Option Addr) (n cap : Nat) (l c r left : Int) (w : World) (h0 : 0 ≤ left) (h1 : left ≤ 1048576) (h : ¬ left < n) : Calls Tryz.prog 4 #[asv k id kd a n cap l c r, .int .i64 left] w fun e w' => e = .returned (.int .i64 (left - n)) ∧ Below w.heap.size w w' := by
  go_enter Tryz.func4, Tryz.ntmps4
  go_wp2_with fail
  refine (szs_ok _ _ _ _ _ _ h0 h1 (by omega)).mono ?_
  rintro e w1 ⟨rfl, hw⟩
  have h2 : ¬ (left - (n : Int) < 0) := by omega
  go_wp2_with fail
  go_ret
  exact ⟨rfl, by (repeat (first | with_reducible exact Below.refl _ _ | with_reducible assumption | (with_reducible refine btrans ?_ (by with_reducible assumption)) | with_reducible refine bdrew ?_ | with_reducible refine balloc ?_ _))⟩
theorem to_tileQ (l c r : Int) (w : World) : Calls Tryz.prog 17 #[.agg #[.int .i64 l, .int .i64 c, .int .i64 r]] w fun e w' => e = .returned (.agg #[.int .i64 l, .int .i64 c, .int .i64 r]) ∧ Below w.heap.size w w' := by
  go_enter Tryz.func17, Tryz.ntmps17
  go_wp2_with fail
  exact bodyPost_ret (v := .agg #[.int .i64 l, .int .i64 c, .int .i64 r]) (by simp [results, Tryz.results17, go_sem]) rfl ⟨rfl, by (repeat (first | with_reducible exact Below.refl _ _ | with_reducible refine balloc ?_ _))⟩
theorem eq_tileQ (l c r : Int) (w : World) : Calls Tryz.prog 23 #[.agg #[.int .i64 l, .int .i64 c, .int .i64 r], .agg #[.int .i64 l, .int .i64 c, .int .i64 r]] w fun e w' => e = .returned (.bool true) ∧ Below w.heap.size w w' := by
  go_enter Tryz.func23, Tryz.ntmps23
  go_wp2_with fail
  go_ret
  exact ⟨rfl, by (repeat (first | with_reducible exact Below.refl _ _ | with_reducible refine balloc ?_ _))⟩
set_option maxHeartbeats 1000000 in
theorem to_ask (k id kd : Int) (a : Option Addr) (cap : Nat) (ps : List (Int × Int)) (l c r : Int) (w : World) (hm : ps.length ≤ 1099511627776) (hc : ps.length ≤ cap) (h : Pts w a ps) : Calls Tryz.prog 6 #[asv k id kd a ps.length cap l c r] w fun e w' => ∃ b, e = .returned (asv k id kd (some ⟨b, 0, none⟩) ps.length ps.length l c r) ∧ w.heap.size ≤ b ∧ PtsOwn w' b ps ∧ Below w.heap.size w w' := by
  have Hh := hid h
  clear h
  go_enter Tryz.func6, Tryz.ntmps6
  go_wp2_with fail
  refine (to_shape kd a cap ps _ hm hc (Hh.out.below ?_)).mono ?_
  · (repeat (first | with_reducible exact Below.refl _ _ | with_reducible assumption | (with_reducible refine btrans ?_ (by with_reducible assumption)) | with_reducible refine bdrew ?_ | with_reducible refine balloc ?_ _))
  rintro e w1 ⟨b1, rfl, hg1, ho1, hb1⟩
  have gP : w1.heap[w.heap.size]? = some (.cells #[.int .i64 k, .int .i64 id, .int .i64 kd, .slice a ps.length cap, .int .i64 l, .int .i64 c, .int .i64 r] 28 (0, 0)) := keepheap2 hb1 (by (repeat (first | (with_reducible refine new_alloc _ _ _ ?_; simp; done) | with_reducible refine old_alloc ?_)))
  have gA : w1.heap[w.heap.size + 1]? = some (.cells #[.int .i64 0, .int .i64 0, .int .i64 0, .slice none 0 0, .int .i64 0, .int .i64 0, .int .i64 0] 36 (0, 0)) := keepheap2 hb1 (by (repeat (first | (with_reducible refine new_alloc _ _ _ ?_; simp; done) | with_reducible refine old_alloc ?_)))
  have gB : w1.heap[w.heap.size + 1 + 1]? = some (.cells #[.int .i64 k, .int .i64 id, .int .i64 0, .slice none 0 0, .int .i64 0, .int .i64 0, .int .i64 0] 36 (0, 0)) := keepheap2 hb1 (by (repeat (first | (with_reducible refine new_alloc _ _ _ ?_; simp; done) | with_reducible refine old_alloc ?_)))
  have hB1 : Below w.heap.size w w1 := by (repeat (first | with_reducible exact Below.refl _ _ | with_reducible assumption | (with_reducible refine btrans ?_ (by with_reducible assumption)) | with_reducible refine bdrew ?_ | with_reducible refine balloc ?_ _))
  simp at hg1
  obtain ⟨p0, p1, p2, p3, p4, p5, p6, _⟩ := cell7 gP
  obtain ⟨q0, q1, q2, q3, q4, q5, q6, f0, f1, f2, f3, f4, f5, f6⟩ := cell7 gB
  have GP := hid gP
  have GA := hid gA
  have GB := hid gB
  have Ho := hid ho1
  clear gP gA gB ho1
  go_wp2_with fail
  have gP2 : ((w1.setCell ⟨w.heap.size + 1 + 1, 2, none⟩ (.int .i64 kd)).setCell ⟨w.heap.size + 1 + 1, 3, none⟩ (.slice (some ⟨b1, 0, none⟩) ps.length ps.length)).heap[w.heap.size]? = some (.cells #[.int .i64 k, .int .i64 id, .int .i64 kd, .slice a ps.length cap, .int .i64 l, .int .i64 c, .int .i64 r] 28 (0, 0)) := set_far (set_far GP.out (by omega)) (by omega)
  have gA2 : ((w1.setCell ⟨w.heap.size + 1 + 1, 2, none⟩ (.int .i64 kd)).setCell ⟨w.heap.size + 1 + 1, 3, none⟩ (.slice (some ⟨b1, 0, none⟩) ps.length ps.length)).heap[w.heap.size + 1]? = some (.cells #[.int .i64 0, .int .i64 0, .int .i64 0, .slice none 0 0, .int .i64 0, .int .i64 0, .int .i64 0] 36 (0, 0)) := set_far (set_far GA.out (by omega)) (by omega)
  have gB2 : ((w1.setCell ⟨w.heap.size + 1 + 1, 2, none⟩ (.int .i64 kd)).setCell ⟨w.heap.size + 1 + 1, 3, none⟩ (.slice (some ⟨b1, 0, none⟩) ps.length ps.length)).heap[w.heap.size + 1 + 1]? = some (.cells #[.int .i64 k, .int .i64 id, .int .i64 kd, (.slice (some ⟨b1, 0, none⟩) ps.length ps.length), .int .i64 0, .int .i64 0, .int .i64 0] 36 (0, 0)) := set_at (set_at GB.out)
  have ho2 : PtsOwn ((w1.setCell ⟨w.heap.size + 1 + 1, 2, none⟩ (.int .i64 kd)).setCell ⟨w.heap.size + 1 + 1, 3, none⟩ (.slice (some ⟨b1, 0, none⟩) ps.length ps.length)) b1 ps := Ho.out.of_block (by rw [Below.heap_setCell _ _ _ _ (by dsimp only; omega), Below.heap_setCell _ _ _ _ (by dsimp only; omega)]) (by simp)
  have hB2 : Below w.heap.size w ((w1.setCell ⟨w.heap.size + 1 + 1, 2, none⟩ (.int .i64 kd)).setCell ⟨w.heap.size + 1 + 1, 3, none⟩ (.slice (some ⟨b1, 0, none⟩) ps.length ps.length)) := bset (bset hB1 (by omega) _) (by omega) _
  generalize ((w1.setCell ⟨w.heap.size + 1 + 1, 2, none⟩ (.int .i64 kd)).setCell ⟨w.heap.size + 1 + 1, 3, none⟩ (.slice (some ⟨b1, 0, none⟩) ps.length ps.length)) = y1 at *
  clear GP GA GB Ho hB1 hb1 p0 p1 p2 p3 p4 p5 p6 q0 q1 q2 q3 q4 q5 q6 f0 f1 f2 f3 f4 f5 f6
  refine (to_tileQ l c r _).mono ?_
  rintro e y2 ⟨rfl, hb2⟩
  replace gA2 := keepheap2 hb2 gA2
  replace gB2 := keepheap2 hb2 gB2
  replace ho2 := ho2.below hb2
  replace hB2 := btrans hB2 hb2
  clear hb2 gP2
  obtain ⟨a0, a1, a2, a3, a4, a5, a6, e0, e1, e2, e3, e4, e5, e6⟩ := cell7 gA2
  obtain ⟨q0, q1, q2, q3, q4, q5, q6, f0, f1, f2, f3, f4, f5, f6⟩ := cell7 gB2
  have GA := hid gA2
  have Ho := hid ho2
  have HB := hid hB2
  clear gA2 gB2 ho2 hB2
  go_wp2_with fail
  have gF : ((((((((((y2.setCell ⟨w.heap.size + 1 + 1, 4, none⟩ (.int .i64 l)).setCell ⟨w.heap.size + 1 + 1, 5, none⟩ (.int .i64 c)).setCell ⟨w.heap.size + 1 + 1, 6, none⟩ (.int .i64 r)).setCell ⟨w.heap.size + 1, 0, none⟩ (.int .i64 k)).setCell ⟨w.heap.size + 1, 1, none⟩ (.int .i64 id)).setCell ⟨w.heap.size + 1, 2, none⟩ (.int .i64 kd)).setCell ⟨w.heap.size + 1, 3, none⟩ (.slice (some ⟨b1, 0, none⟩) ps.length ps.length)).setCell ⟨w.heap.size + 1, 4, none⟩ (.int .i64 l)).setCell ⟨w.heap.size + 1, 5, none⟩ (.int .i64 c)).setCell ⟨w.heap.size + 1, 6, none⟩ (.int .i64 r)).heap[w.heap.size + 1]? = some (.cells #[.int .i64 k, .int .i64 id, .int .i64 kd, (.slice (some ⟨b1, 0, none⟩) ps.length ps.length), .int .i64 l, .int .i64 c, .int .i64 r] 36 (0, 0)) := (set_at (set_at (set_at (set_at (set_at (set_at (set_at (set_far (set_far (set_far GA.out (by omega)) (by omega)) (by omega)))))))))
  have hbF : Below w.heap.size w ((((((((((y2.setCell ⟨w.heap.size + 1 + 1, 4, none⟩ (.int .i64 l)).setCell ⟨w.heap.size + 1 + 1, 5, none⟩ (.int .i64 c)).setCell ⟨w.heap.size + 1 + 1, 6, none⟩ (.int .i64 r)).setCell ⟨w.heap.size + 1, 0, none⟩ (.int .i64 k)).setCell ⟨w.heap.size + 1, 1, none⟩ (.int .i64 id)).setCell ⟨w.heap.size + 1, 2, none⟩ (.int .i64 kd)).setCell ⟨w.heap.size + 1, 3, none⟩ (.slice (some ⟨b1, 0, none⟩) ps.length ps.length)).setCell ⟨w.heap.size + 1, 4, none⟩ (.int .i64 l)).setCell ⟨w.heap.size + 1, 5, none⟩ (.int .i64 c)).setCell ⟨w.heap.size + 1, 6, none⟩ (.int .i64 r)) := (bset (bset (bset (bset (bset (bset (bset (bset (bset (bset HB.out (by omega) _) (by omega) _) (by omega) _) (by omega) _) (by omega) _) (by omega) _) (by omega) _) (by omega) _) (by omega) _) (by omega) _)
  have hoF : PtsOwn ((((((((((y2.setCell ⟨w.heap.size + 1 + 1, 4, none⟩ (.int .i64 l)).setCell ⟨w.heap.size + 1 + 1, 5, none⟩ (.int .i64 c)).setCell ⟨w.heap.size + 1 + 1, 6, none⟩ (.int .i64 r)).setCell ⟨w.heap.size + 1, 0, none⟩ (.int .i64 k)).setCell ⟨w.heap.size + 1, 1, none⟩ (.int .i64 id)).setCell ⟨w.heap.size + 1, 2, none⟩ (.int .i64 kd)).setCell ⟨w.heap.size + 1, 3, none⟩ (.slice (some ⟨b1, 0, none⟩) ps.length ps.length)).setCell ⟨w.heap.size + 1, 4, none⟩ (.int .i64 l)).setCell ⟨w.heap.size + 1, 5, none⟩ (.int .i64 c)).setCell ⟨w.heap.size + 1, 6, none⟩ (.int .i64 r)) b1 ps := by
    refine Ho.out.of_block ?_ (by simp)
    rw [Below.heap_setCell _ _ _ _ (by dsimp only; omega), Below.heap_setCell _ _ _ _ (by dsimp only; omega), Below.heap_setCell _ _ _ _ (by dsimp only; omega), Below.heap_setCell _ _ _ _ (by dsimp only; omega), Below.heap_setCell _ _ _ _ (by dsimp only; omega), Below.heap_setCell _ _ _ _ (by dsimp only; omega), Below.heap_setCell _ _ _ _ (by dsimp only; omega), Below.heap_setCell _ _ _ _ (by dsimp only; omega), Below.heap_setCell _ _ _ _ (by dsimp only; omega), Below.heap_setCell _ _ _ _ (by dsimp only; omega)]
  generalize ((((((((((y2.setCell ⟨w.heap.size + 1 + 1, 4, none⟩ (.int .i64 l)).setCell ⟨w.heap.size + 1 + 1, 5, none⟩ (.int .i64 c)).setCell ⟨w.heap.size + 1 + 1, 6, none⟩ (.int .i64 r)).setCell ⟨w.heap.size + 1, 0, none⟩ (.int .i64 k)).setCell ⟨w.heap.size + 1, 1, none⟩ (.int .i64 id)).setCell ⟨w.heap.size + 1, 2, none⟩ (.int .i64 kd)).setCell ⟨w.heap.size + 1, 3, none⟩ (.slice (some ⟨b1, 0, none⟩) ps.length ps.length)).setCell ⟨w.heap.size + 1, 4, none⟩ (.int .i64 l)).setCell ⟨w.heap.size + 1, 5, none⟩ (.int .i64 c)).setCell ⟨w.heap.size + 1, 6, none⟩ (.int .i64 r)) = wf at gF hbF hoF ⊢
  obtain ⟨z0, z1, z2, z3, z4, z5, z6, _⟩ := cell7 gF
  exact bodyPost_ret (v := .agg #[.int .i64 k, .int .i64 id, .int .i64 kd, (.slice (some ⟨b1, 0, none⟩) ps.length ps.length), .int .i64 l, .int .i64 c, .int .i64 r]) (by simp [results, Tryz.results6, go_sem, z0, z1, z2, z3, z4, z5, z6]) rfl ⟨b1, rfl, by omega, hoF, hbF⟩
set_option maxHeartbeats 1000000 in
theorem eq_ask (k id kd : Int) (a b : Option Addr) (cap cap' : Nat) (ps : List (Int × Int)) (l c r : Int) (w : World) (hm : ps.length ≤ 1099511627776) (hc : ps.length ≤ cap) (hc' : ps.length ≤ cap') (h : Pts w a ps) (h' : Pts w b ps) : Calls Tryz.prog 8 #[asv k id kd a ps.length cap l c r, asv k id kd b ps.length cap' l c r] w fun e w' => e = .returned (.bool true) ∧ Below w.heap.size w w' := by
  have Hh := hid h
  have Hh' := hid h'
  clear h h'
  go_enter Tryz.func8, Tryz.ntmps8
  go_wp2_with fail
  refine (eq_shape _ _ _ _ _ ps _ hm hc hc' (Hh.out.below ?_) (Hh'.out.below ?_)).mono ?_
  · (repeat (first | with_reducible exact Below.refl _ _ | with_reducible assumption | (with_reducible refine btrans ?_ (by with_reducible assumption)) | with_reducible refine bdrew ?_ | with_reducible refine balloc ?_ _))
  · (repeat (first | with_reducible exact Below.refl _ _ | with_reducible assumption | (with_reducible refine btrans ?_ (by with_reducible assumption)) | with_reducible refine bdrew ?_ | with_reducible refine balloc ?_ _))
  rintro e w1 ⟨rfl, hb1⟩
  have gP : w1.heap[w.heap.size]? = some (.cells #[.int .i64 k, .int .i64 id, .int .i64 kd, .slice a ps.length cap, .int .i64 l, .int .i64 c, .int .i64 r] 36 (0, 0)) := keepheap2 hb1 (by (repeat (first | (with_reducible refine new_alloc _ _ _ ?_; simp; done) | with_reducible refine old_alloc ?_)))
  have gQ : w1.heap[w.heap.size + 1]? = some (.cells #[.int .i64 k, .int .i64 id, .int .i64 kd, .slice b ps.length cap', .int .i64 l, .int .i64 c, .int .i64 r] 36 (0, 0)) := keepheap2 hb1 (by (repeat (first | (with_reducible refine new_alloc _ _ _ ?_; simp; done) | with_reducible refine old_alloc ?_)))
  have hB1 : Below w.heap.size w w1 := by (repeat (first | with_reducible exact Below.refl _ _ | with_reducible assumption | (with_reducible refine btrans ?_ (by with_reducible assumption)) | with_reducible refine bdrew ?_ | with_reducible refine balloc ?_ _))
  obtain ⟨p0, p1, p2, p3, p4, p5, p6, _⟩ := cell7 gP
  obtain ⟨q0, q1, q2, q3, q4, q5, q6, _⟩ := cell7 gQ
  clear gP gQ hb1
  go_wp2_with fail
  refine (eq_tileQ _ _ _ _).mono ?_
  rintro e w2 ⟨rfl, hb2⟩
  go_wp2_with fail
  go_ret
  exact ⟨rfl, by (repeat (first | with_reducible exact Below.refl _ _ | with_reducible assumption | (with_reducible refine btrans ?_ (by with_reducible assumption)) | with_reducible refine bdrew ?_ | with_reducible refine balloc ?_ _))⟩
def rdsb (k : Int) : Bool := decide (5 ≤ k) && decide (k ≤ 9)
theorem cellsAsk : Tryz.prog.cellsOf 28 = 7 := by kernel_rfl
theorem cellsShQ : Tryz.prog.cellsOf 24 = 2 := by kernel_rfl
theorem cellsPtQ : Tryz.prog.cellsOf 77 = 2 := by kernel_rfl
theorem cellsTlQ : Tryz.prog.cellsOf 26 = 3 := by kernel_rfl
theorem open_pointsQ {H : Type} {enc : TypeId × Value → H} {W : World} {base fuel : Nat} {v : Value} {x : DataW H × List MemPlace} (h : DataW.trod enc Tryz.prog W base (fun _ => true) true fuel 22 [v] = some x) : ∃ (a : Option Addr) (cap : Nat) (ps : List (Int × Int)), v = .slice a ps.length cap ∧ PtsIn W a cap ps := by
  rcases Go.Deep.open_slice_pairs Tryz.underlying22 Tryz.underlying77 cellsPtQ rfl rfl (by kernel_rfl) (by kernel_rfl) h with ⟨hcs, _⟩ | ⟨x, l, c, m, n, V0, V1, D0, D1, P0, P1, hcs, _, hl, hm, hmm, _, hall⟩
  · simp at hcs
    exact ⟨none, 0, [], hcs, ptsIn_nil _ _⟩
  · simp at hcs
    obtain ⟨ps, hp, hw⟩ := ptsIn_of hl hm (fun j hj => by
      obtain ⟨h1, h2, h3, h4⟩ := hall j (by rw [hmm]; simp; omega)
      obtain ⟨z0, e0, _, y0⟩ := DataW.trod_int Tryz.underlying3 h3
      obtain ⟨z1, e1, _, y1⟩ := DataW.trod_int Tryz.underlying3 h4
      simp at e0 e1
      exact ⟨z0, z1, by rw [h1, e0], by rw [h2, e1], y0, y1⟩)
    exact ⟨some x, c, ps, by rw [hcs, hp], hw⟩
set_option maxRecDepth 100000 in
theorem open_ask {H : Type} {enc : TypeId × Value → H} {W : World} {base fuel : Nat} {cs : List Value} {x : DataW H × List MemPlace} (h : DataW.trod enc Tryz.prog W base (fun _ => true) true fuel 28 cs = some x) : ∃ (k id kd : Int) (a : Option Addr) (cap : Nat) (ps : List (Int × Int)) (l c r : Int), cs = [.int .i64 k, .int .i64 id, .int .i64 kd, .slice a ps.length cap, .int .i64 l, .int .i64 c, .int .i64 r] ∧ ((Lit.int .i64 k).wf = true ∧ (Lit.int .i64 id).wf = true ∧ (Lit.int .i64 kd).wf = true ∧ (Lit.int .i64 l).wf = true ∧ (Lit.int .i64 c).wf = true ∧ (Lit.int .i64 r).wf = true) ∧ PtsIn W a cap ps := by
  obtain ⟨xs, n, _, _, hlen, hxl, hf⟩ := DataW.trod_struct Tryz.underlying28 h
  rw [cellsAsk] at hlen
  match xs, hxl, cs, hlen with
  | [y0, y1, y2, y3], _, [v0, v1, v2, v3, v4, v5, v6], _ =>
    have g0 : DataW.trod enc Tryz.prog W base (fun _ => true) true n 3 (([v0, v1, v2, v3, v4, v5, v6].drop 0).take (Tryz.prog.cellsOf 3)) = some y0 := hf 0 _ rfl
    have g1 : DataW.trod enc Tryz.prog W base (fun _ => true) true n 3 (([v0, v1, v2, v3, v4, v5, v6].drop 1).take (Tryz.prog.cellsOf 3)) = some y1 := hf 1 _ rfl
    have g2 : DataW.trod enc Tryz.prog W base (fun _ => true) true n 24 (([v0, v1, v2, v3, v4, v5, v6].drop 2).take (Tryz.prog.cellsOf 24)) = some y2 := hf 2 _ rfl
    have g3 : DataW.trod enc Tryz.prog W base (fun _ => true) true n 26 (([v0, v1, v2, v3, v4, v5, v6].drop 4).take (Tryz.prog.cellsOf 26)) = some y3 := hf 3 _ rfl
    rw [show Tryz.prog.cellsOf 3 = 1 by kernel_rfl] at g0 g1
    rw [cellsShQ] at g2
    rw [cellsTlQ] at g3
    simp at g0 g1 g2 g3
    obtain ⟨z0, e0, _, u0⟩ := DataW.trod_int Tryz.underlying3 g0
    obtain ⟨z1, e1, _, u1⟩ := DataW.trod_int Tryz.underlying3 g1
    obtain ⟨xs', n', _, _, _, hxl', hf'⟩ := DataW.trod_struct Tryz.underlying24 g2
    obtain ⟨xs3, n3, _, _, _, hxl3, hf3⟩ := DataW.trod_struct Tryz.underlying26 g3
    match xs', hxl', xs3, hxl3 with
    | [m0, m1], _, [t0, t1, t2], _ =>
      have q0 : DataW.trod enc Tryz.prog W base (fun _ => true) true n' 3 (([v2, v3].drop 0).take (Tryz.prog.cellsOf 3)) = some m0 := hf' 0 _ rfl
      have q1 : DataW.trod enc Tryz.prog W base (fun _ => true) true n' 22 (([v2, v3].drop 1).take (Tryz.prog.cellsOf 22)) = some m1 := hf' 1 _ rfl
      have r0 : DataW.trod enc Tryz.prog W base (fun _ => true) true n3 3 (([v4, v5, v6].drop 0).take (Tryz.prog.cellsOf 3)) = some t0 := hf3 0 _ rfl
      have r1 : DataW.trod enc Tryz.prog W base (fun _ => true) true n3 3 (([v4, v5, v6].drop 1).take (Tryz.prog.cellsOf 3)) = some t1 := hf3 1 _ rfl
      have r2 : DataW.trod enc Tryz.prog W base (fun _ => true) true n3 3 (([v4, v5, v6].drop 2).take (Tryz.prog.cellsOf 3)) = some t2 := hf3 2 _ rfl
      rw [show Tryz.prog.cellsOf 3 = 1 by kernel_rfl] at q0 r0 r1 r2
      rw [show Tryz.prog.cellsOf 22 = 1 by kernel_rfl] at q1
      simp at q0 q1 r0 r1 r2
      obtain ⟨z3, e3, _, u3⟩ := DataW.trod_int Tryz.underlying3 q0
      obtain ⟨a, cap, ps, e4, hp⟩ := open_pointsQ q1
      obtain ⟨z5, e5, _, u5⟩ := DataW.trod_int Tryz.underlying3 r0
      obtain ⟨z6, e6, _, u6⟩ := DataW.trod_int Tryz.underlying3 r1
      obtain ⟨z7, e7, _, u7⟩ := DataW.trod_int Tryz.underlying3 r2
      simp at e0 e1 e3 e5 e6 e7
      exact ⟨z0, z1, z3, a, cap, ps, z5, z6, z7, by simp [e0, e1, e3, e4, e5, e6, e7], ⟨u0, u1, u3, u5, u6, u7⟩, hp⟩
end Go.Proofs.YtkifhdkebddnpaaGreatDoorR
