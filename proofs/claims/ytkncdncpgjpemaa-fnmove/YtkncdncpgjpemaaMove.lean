/- Shapes that are moved: the landed function. -/
import Derived.Test.YtkncdncpgjpemaaMark
import Derived.Test.YtkncdncpgjpemaaHas3
import Derived.Test.YtkncdncpgjpemaaAround
namespace Go.Proofs.Ytkncdncpgjpemaa
open Go.RowKit
set_option linter.unusedVariables false
set_option linter.unusedSimpArgs false
def okm (x : Int) : Bool := decide (-60000 ≤ x) && decide (x ≤ 60000)
def mvOk (k : Int) (ps : List (Int × Int)) (dx dy : Int) : Bool := okm dx && okm dy && shok k ps && shok k (tk (fM ps dx dy) ps.length)
def mvK (k : Int) (ps : List (Int × Int)) (dx dy : Int) : Int := if mvOk k ps dx dy = true then k else 0
def mvPs (k : Int) (ps : List (Int × Int)) (dx dy : Int) : List (Int × Int) := if mvOk k ps dx dy = true then tk (fM ps dx dy) ps.length else []
/-- What a move answers, in whichever memory of its own. -/
def MV (w : World) (k : Int) (ps : List (Int × Int)) (dx dy : Int) (e : Ending) (w' : World) : Prop :=
  ∃ a' cap', e = .returned (.tuple #[.agg #[.int .i64 (mvK k ps dx dy), .slice a' (mvPs k ps dx dy).length cap'], .bool (mvOk k ps dx dy)]) ∧ (mvPs k ps dx dy).length ≤ cap' ∧ OwnP w' a' (mvPs k ps dx dy) ∧ (∀ b off, a' = some ⟨b, off, none⟩ → w.heap.size ≤ b) ∧ Below w.heap.size w w'
theorem mv_no {w w' : World} {k dx dy : Int} {ps : List (Int × Int)} (h : mvOk k ps dx dy = false) (hb : Below w.heap.size w w') : MV w k ps dx dy (.returned (.tuple #[.agg #[.int .i64 0, .slice none 0 0], .bool false])) w' := by
  have h1 : mvK k ps dx dy = 0 := by unfold mvK; rw [h]; rfl
  have h2 : mvPs k ps dx dy = [] := by unfold mvPs; rw [h]; rfl
  refine ⟨none, 0, ?_, ?_, ?_, ?_, hb⟩
  · rw [h1, h2, h]; rfl
  · rw [h2]; exact Nat.le_refl _
  · rw [h2]; exact .inl ⟨rfl, rfl⟩
  · intro b off e; cases e
theorem mv_yes {w w' : World} {k dx dy : Int} {ps : List (Int × Int)} {b cap : Nat} (h : mvOk k ps dx dy = true) (hc : ps.length ≤ cap) (ho : PtsOwn w' b (tk (fM ps dx dy) ps.length)) (hbb : w.heap.size ≤ b) (hb : Below w.heap.size w w') : MV w k ps dx dy (.returned (.tuple #[.agg #[.int .i64 k, .slice (some ⟨b, 0, none⟩) ps.length cap], .bool true])) w' := by
  have h1 : mvK k ps dx dy = k := by unfold mvK; rw [h]; rfl
  have h2 : mvPs k ps dx dy = tk (fM ps dx dy) ps.length := by unfold mvPs; rw [h]; rfl
  refine ⟨some ⟨b, 0, none⟩, cap, ?_, ?_, ?_, ?_, hb⟩
  · rw [h1, h2, h, tk_len]
  · rw [h2, tk_len]; exact hc
  · rw [h2]; exact .inr ⟨b, rfl, ho⟩
  · intro b' off e; cases e; exact hbb
theorem blk_far (w : World) (q k b : Nat) (u : Value) (h : q ≠ b) : (w.setCell ⟨q, k, none⟩ u).heap[b]? = w.heap[b]? := by
  show (w.heap.modify q _)[b]? = _
  rw [Array.getElem?_modify, if_neg h]
theorem there_alloc {w : World} {b n : Nat} (h : w.there b 0 n) (hb : b < w.heap.size) (o : Obj) : (w.alloc o).there b 0 n := there_below h hb (balloc (Below.refl _ _) o)
theorem moveok_c (x : Int) (w : World) : Calls Try.prog 101 #[.int .i64 x] w fun e w' => e = .returned (.bool (okm x)) ∧ w' = w := by
  by_cases h : -60000 ≤ x
  · go_enter Try.func101, Try.ntmps101
    go_wp2
    go_ret
    exact ⟨by simp [okm, h], rfl⟩
  · have hd : decide (-60000 ≤ x) = false := by simpa using h
    go_enter Try.func101, Try.ntmps101
    go_wp2
    go_ret
    exact ⟨by simp [okm, hd], rfl⟩
set_option maxRecDepth 100000 in
set_option maxHeartbeats 4000000 in
theorem impl_Move (k dx dy : Int) (a : Option Addr) (cap : Nat) (ps : List (Int × Int)) (w : World) (hm : ps.length ≤ 1099511627776) (hc : ps.length ≤ cap) (h : Pts w a ps) : Calls Try.prog 55 #[shv k a ps.length cap, .int .i64 dx, .int .i64 dy] w fun e w' => MV w k ps dx dy e w' := by
  have HP := hid h
  have O1 := hid (fun w' (hw : Pts w' a ps) => impl_ShapeOk k a cap ps w' hm hc hw)
  clear h
  cases h1 : okm dx
  · have HN := hid (show mvOk k ps dx dy = false by unfold mvOk; rw [h1]; simp)
    have M1 := hid (fun w => moveok_c dx w)
    rw [h1] at M1
    clear h1
    go_enter Try.func55, Try.ntmps55
    go_wp2_with fail
    have q0 : ((w.alloc (.cells #[.int .i64 k, .slice a ps.length cap] 52)).alloc (.cells #[.int .i64 0, .slice none 0 0] 52)).cell? ⟨w.heap.size, 0, none⟩ = some (.int .i64 k) := by (repeat (first | with_reducible assumption | (refine newcell _ _ _ _ _ _ ?_ rfl; simp; done) | with_reducible refine keepdrew ?_ | with_reducible refine keepcell (by with_reducible assumption) ?_ | with_reducible refine keepalloc ?_ _))
    have q1 : ((w.alloc (.cells #[.int .i64 k, .slice a ps.length cap] 52)).alloc (.cells #[.int .i64 0, .slice none 0 0] 52)).cell? ⟨w.heap.size, 1, none⟩ = some (.slice a ps.length cap) := by (repeat (first | with_reducible assumption | (refine newcell _ _ _ _ _ _ ?_ rfl; simp; done) | with_reducible refine keepdrew ?_ | with_reducible refine keepcell (by with_reducible assumption) ?_ | with_reducible refine keepalloc ?_ _))
    have g6 : ((w.alloc (.cells #[.int .i64 k, .slice a ps.length cap] 52)).alloc (.cells #[.int .i64 0, .slice none 0 0] 52)).heap[w.heap.size + 1]? = some (.cells #[.int .i64 0, .slice none 0 0] 52 (0, 0)) := new_alloc _ _ _ (by simp)
    have hBX : Below w.heap.size w ((w.alloc (.cells #[.int .i64 k, .slice a ps.length cap] 52)).alloc (.cells #[.int .i64 0, .slice none 0 0] 52)) := by (repeat (first | with_reducible exact Below.refl _ _ | with_reducible assumption | (with_reducible refine btrans ?_ (by with_reducible assumption)) | with_reducible refine bdrew ?_ | with_reducible refine balloc ?_ _))
    have P1 := hid (HP.out.below hBX)
    have G6 := hid g6
    clear g6
    generalize ((w.alloc (.cells #[.int .i64 k, .slice a ps.length cap] 52)).alloc (.cells #[.int .i64 0, .slice none 0 0] 52)) = W at *
    refine (M1.out _).mono ?_
    rintro e wz ⟨rfl, hw⟩
    replace hw := hw.symm
    subst hw
    obtain ⟨y0, y1, y2, y3⟩ := cell2g G6.out
    go_wp2_with fail
    have gF := (set2 G6.out (.int .i64 0) (.slice none 0 0)).1
    have bF := bset (bset hBX (q := w.heap.size + 1) (k := 0) (by omega) (.int .i64 0)) (q := w.heap.size + 1) (k := 1) (by omega) (.slice none 0 0)
    generalize (W.setCell ⟨w.heap.size + 1, 0, none⟩ (.int .i64 0)).setCell ⟨w.heap.size + 1, 1, none⟩ (.slice none 0 0) = wf at *
    obtain ⟨z0, z1, _, _⟩ := cell2g gF
    exact bodyPost_ret (v := .tuple #[.agg #[(.int .i64 0), (.slice none 0 0)], .bool false]) (by simp [results, Try.results55, go_sem, z0, z1]) rfl (mv_no HN.out bF)
  have M1 := hid (fun w => moveok_c dx w)
  rw [h1] at M1
  cases h2 : okm dy
  · have HN := hid (show mvOk k ps dx dy = false by unfold mvOk; rw [h2]; simp)
    have M2 := hid (fun w => moveok_c dy w)
    rw [h2] at M2
    clear h1 h2
    go_enter Try.func55, Try.ntmps55
    go_wp2_with fail
    have q0 : ((w.alloc (.cells #[.int .i64 k, .slice a ps.length cap] 52)).alloc (.cells #[.int .i64 0, .slice none 0 0] 52)).cell? ⟨w.heap.size, 0, none⟩ = some (.int .i64 k) := by (repeat (first | with_reducible assumption | (refine newcell _ _ _ _ _ _ ?_ rfl; simp; done) | with_reducible refine keepdrew ?_ | with_reducible refine keepcell (by with_reducible assumption) ?_ | with_reducible refine keepalloc ?_ _))
    have q1 : ((w.alloc (.cells #[.int .i64 k, .slice a ps.length cap] 52)).alloc (.cells #[.int .i64 0, .slice none 0 0] 52)).cell? ⟨w.heap.size, 1, none⟩ = some (.slice a ps.length cap) := by (repeat (first | with_reducible assumption | (refine newcell _ _ _ _ _ _ ?_ rfl; simp; done) | with_reducible refine keepdrew ?_ | with_reducible refine keepcell (by with_reducible assumption) ?_ | with_reducible refine keepalloc ?_ _))
    have g6 : ((w.alloc (.cells #[.int .i64 k, .slice a ps.length cap] 52)).alloc (.cells #[.int .i64 0, .slice none 0 0] 52)).heap[w.heap.size + 1]? = some (.cells #[.int .i64 0, .slice none 0 0] 52 (0, 0)) := new_alloc _ _ _ (by simp)
    have hBX : Below w.heap.size w ((w.alloc (.cells #[.int .i64 k, .slice a ps.length cap] 52)).alloc (.cells #[.int .i64 0, .slice none 0 0] 52)) := by (repeat (first | with_reducible exact Below.refl _ _ | with_reducible assumption | (with_reducible refine btrans ?_ (by with_reducible assumption)) | with_reducible refine bdrew ?_ | with_reducible refine balloc ?_ _))
    have P1 := hid (HP.out.below hBX)
    have G6 := hid g6
    clear g6
    generalize ((w.alloc (.cells #[.int .i64 k, .slice a ps.length cap] 52)).alloc (.cells #[.int .i64 0, .slice none 0 0] 52)) = W at *
    refine (M1.out _).mono ?_
    rintro e wz ⟨rfl, hw⟩
    replace hw := hw.symm
    subst hw
    go_wp2_with fail
    refine (M2.out _).mono ?_
    rintro e wz ⟨rfl, hw⟩
    replace hw := hw.symm
    subst hw
    obtain ⟨y0, y1, y2, y3⟩ := cell2g G6.out
    go_wp2_with fail
    have gF := (set2 G6.out (.int .i64 0) (.slice none 0 0)).1
    have bF := bset (bset hBX (q := w.heap.size + 1) (k := 0) (by omega) (.int .i64 0)) (q := w.heap.size + 1) (k := 1) (by omega) (.slice none 0 0)
    generalize (W.setCell ⟨w.heap.size + 1, 0, none⟩ (.int .i64 0)).setCell ⟨w.heap.size + 1, 1, none⟩ (.slice none 0 0) = wf at *
    obtain ⟨z0, z1, _, _⟩ := cell2g gF
    exact bodyPost_ret (v := .tuple #[.agg #[(.int .i64 0), (.slice none 0 0)], .bool false]) (by simp [results, Try.results55, go_sem, z0, z1]) rfl (mv_no HN.out bF)
  have M2 := hid (fun w => moveok_c dy w)
  rw [h2] at M2
  cases h3 : shok k ps
  · have HN := hid (show mvOk k ps dx dy = false by unfold mvOk; rw [h3]; simp)
    rw [h3] at O1
    clear h1 h2 h3
    go_enter Try.func55, Try.ntmps55
    go_wp2_with fail
    have q0 : ((w.alloc (.cells #[.int .i64 k, .slice a ps.length cap] 52)).alloc (.cells #[.int .i64 0, .slice none 0 0] 52)).cell? ⟨w.heap.size, 0, none⟩ = some (.int .i64 k) := by (repeat (first | with_reducible assumption | (refine newcell _ _ _ _ _ _ ?_ rfl; simp; done) | with_reducible refine keepdrew ?_ | with_reducible refine keepcell (by with_reducible assumption) ?_ | with_reducible refine keepalloc ?_ _))
    have q1 : ((w.alloc (.cells #[.int .i64 k, .slice a ps.length cap] 52)).alloc (.cells #[.int .i64 0, .slice none 0 0] 52)).cell? ⟨w.heap.size, 1, none⟩ = some (.slice a ps.length cap) := by (repeat (first | with_reducible assumption | (refine newcell _ _ _ _ _ _ ?_ rfl; simp; done) | with_reducible refine keepdrew ?_ | with_reducible refine keepcell (by with_reducible assumption) ?_ | with_reducible refine keepalloc ?_ _))
    have g6 : ((w.alloc (.cells #[.int .i64 k, .slice a ps.length cap] 52)).alloc (.cells #[.int .i64 0, .slice none 0 0] 52)).heap[w.heap.size + 1]? = some (.cells #[.int .i64 0, .slice none 0 0] 52 (0, 0)) := new_alloc _ _ _ (by simp)
    have hBX : Below w.heap.size w ((w.alloc (.cells #[.int .i64 k, .slice a ps.length cap] 52)).alloc (.cells #[.int .i64 0, .slice none 0 0] 52)) := by (repeat (first | with_reducible exact Below.refl _ _ | with_reducible assumption | (with_reducible refine btrans ?_ (by with_reducible assumption)) | with_reducible refine bdrew ?_ | with_reducible refine balloc ?_ _))
    have P1 := hid (HP.out.below hBX)
    have G6 := hid g6
    clear g6
    generalize ((w.alloc (.cells #[.int .i64 k, .slice a ps.length cap] 52)).alloc (.cells #[.int .i64 0, .slice none 0 0] 52)) = W at *
    refine (M1.out _).mono ?_
    rintro e wz ⟨rfl, hw⟩
    replace hw := hw.symm
    subst hw
    go_wp2_with fail
    refine (M2.out _).mono ?_
    rintro e wz ⟨rfl, hw⟩
    replace hw := hw.symm
    subst hw
    go_wp2_with fail
    refine (O1.out _ P1.out).mono ?_
    rintro e u1 ⟨rfl, hu1⟩
    replace q0 := keepcell hu1 q0
    replace q1 := keepcell hu1 q1
    replace G6 := hid (keepheap2 hu1 G6.out)
    replace P1 := hid (P1.out.below hu1)
    replace hBX := btrans hBX hu1
    clear hu1
    obtain ⟨y0, y1, y2, y3⟩ := cell2g G6.out
    go_wp2_with fail
    have gF := (set2 G6.out (.int .i64 0) (.slice none 0 0)).1
    have bF := bset (bset hBX (q := w.heap.size + 1) (k := 0) (by omega) (.int .i64 0)) (q := w.heap.size + 1) (k := 1) (by omega) (.slice none 0 0)
    generalize (u1.setCell ⟨w.heap.size + 1, 0, none⟩ (.int .i64 0)).setCell ⟨w.heap.size + 1, 1, none⟩ (.slice none 0 0) = wf at *
    obtain ⟨z0, z1, _, _⟩ := cell2g gF
    exact bodyPost_ret (v := .tuple #[.agg #[(.int .i64 0), (.slice none 0 0)], .bool false]) (by simp [results, Try.results55, go_sem, z0, z1]) rfl (mv_no HN.out bF)
  have hmv : mvOk k ps dx dy = shok k (tk (fM ps dx dy) ps.length) := by unfold mvOk; rw [h1, h2, h3]; simp
  have HMV := hid hmv
  have hdx : -60000 ≤ dx ∧ dx ≤ 60000 := by unfold okm at h1; simpa using h1
  have hdy : -60000 ≤ dy ∧ dy ≤ 60000 := by unfold okm at h2; simpa using h2
  have HIN := hid (fun j => allok_in (shok_allok h3) j)
  have O2 := hid (fun (b c : Nat) w' (hcc : (tk (fM ps dx dy) ps.length).length ≤ c) (hw : Pts w' (some ⟨b, 0, none⟩) (tk (fM ps dx dy) ps.length)) => impl_ShapeOk k (some ⟨b, 0, none⟩) c (tk (fM ps dx dy) ps.length) w' (by rw [tk_len]; exact hm) hcc hw)
  have hmk := make_points ps.length hm
  rw [h3] at O1
  obtain ⟨hdx1, hdx2⟩ := hdx
  obtain ⟨hdy1, hdy2⟩ := hdy
  clear h1 h2 h3 hmv
  go_enter Try.func55, Try.ntmps55
  go_wp2_with fail
  have q0 : ((w.alloc (.cells #[.int .i64 k, .slice a ps.length cap] 52)).alloc (.cells #[.int .i64 0, .slice none 0 0] 52)).cell? ⟨w.heap.size, 0, none⟩ = some (.int .i64 k) := by (repeat (first | with_reducible assumption | (refine newcell _ _ _ _ _ _ ?_ rfl; simp; done) | with_reducible refine keepdrew ?_ | with_reducible refine keepcell (by with_reducible assumption) ?_ | with_reducible refine keepalloc ?_ _))
  have q1 : ((w.alloc (.cells #[.int .i64 k, .slice a ps.length cap] 52)).alloc (.cells #[.int .i64 0, .slice none 0 0] 52)).cell? ⟨w.heap.size, 1, none⟩ = some (.slice a ps.length cap) := by (repeat (first | with_reducible assumption | (refine newcell _ _ _ _ _ _ ?_ rfl; simp; done) | with_reducible refine keepdrew ?_ | with_reducible refine keepcell (by with_reducible assumption) ?_ | with_reducible refine keepalloc ?_ _))
  have g6 : ((w.alloc (.cells #[.int .i64 k, .slice a ps.length cap] 52)).alloc (.cells #[.int .i64 0, .slice none 0 0] 52)).heap[w.heap.size + 1]? = some (.cells #[.int .i64 0, .slice none 0 0] 52 (0, 0)) := new_alloc _ _ _ (by simp)
  have hBX : Below w.heap.size w ((w.alloc (.cells #[.int .i64 k, .slice a ps.length cap] 52)).alloc (.cells #[.int .i64 0, .slice none 0 0] 52)) := by (repeat (first | with_reducible exact Below.refl _ _ | with_reducible assumption | (with_reducible refine btrans ?_ (by with_reducible assumption)) | with_reducible refine bdrew ?_ | with_reducible refine balloc ?_ _))
  have P1 := hid (HP.out.below hBX)
  have G6 := hid g6
  clear g6
  generalize ((w.alloc (.cells #[.int .i64 k, .slice a ps.length cap] 52)).alloc (.cells #[.int .i64 0, .slice none 0 0] 52)) = W at *
  refine (M1.out _).mono ?_
  rintro e wz ⟨rfl, hw⟩
  replace hw := hw.symm
  subst hw
  go_wp2_with fail
  refine (M2.out _).mono ?_
  rintro e wz ⟨rfl, hw⟩
  replace hw := hw.symm
  subst hw
  go_wp2_with fail
  refine (O1.out _ P1.out).mono ?_
  rintro e u1 ⟨rfl, hu1⟩
  replace q0 := keepcell hu1 q0
  replace q1 := keepcell hu1 q1
  replace G6 := hid (keepheap2 hu1 G6.out)
  replace P1 := hid (P1.out.below hu1)
  replace hBX := btrans hBX hu1
  clear hu1
  go_wp2_with fail
  have hub : w.heap.size + 1 < u1.heap.size := lt_of_block G6.out
  go_cut [8] (fun t8 wx => ∃ B8 BL : Nat, t8 = .pointer (some ⟨B8, 0, none⟩) ∧ u1.heap.size ≤ B8 ∧ u1.heap.size ≤ BL ∧ B8 ≠ BL ∧ BL < wx.heap.size ∧ Below u1.heap.size u1 wx ∧ wx.heap[B8]? = some (.cells #[.int .i64 k, .slice (some ⟨BL, 0, none⟩) ps.length ps.length] 52 (0, 0)) ∧ wx.there BL 0 (ps.length * 2))
  case first =>
    go_region_held3 (fun w' => w'.cell? ⟨w.heap.size, 0, none⟩ = some (.int .i64 k) ∧ w'.cell? ⟨w.heap.size, 1, none⟩ = some (.slice a ps.length cap)) ((go_split_ands; (repeat' apply And.intro) <;> (repeat (first | with_reducible assumption | with_reducible refine keepset ?_ (by dsimp only; omega) | with_reducible refine keepdrew ?_ | with_reducible refine keepcell (by with_reducible assumption) ?_ | with_reducible refine keepalloc ?_ _))))
      (first
        | (fail))
    all_goals
      go_wp2_with fail
      go_meet
      first
        | exact ⟨u1.heap.size + 1, u1.heap.size, rfl, by omega, by omega, by omega, by simp; omega, by (repeat (first | with_reducible exact Below.refl _ _ | with_reducible assumption | (with_reducible refine btrans ?_ (by with_reducible assumption)) | with_reducible refine bdrew ?_ | with_reducible refine balloc ?_ _)), new_alloc _ _ _ (by simp), there_alloc (made_own u1 ps.length) (by simp) _⟩
        | exact ⟨u1.heap.size, u1.heap.size + 1, rfl, by omega, by omega, by omega, by simp, by (repeat (first | with_reducible exact Below.refl _ _ | with_reducible assumption | (with_reducible refine btrans ?_ (by with_reducible assumption)) | with_reducible refine bdrew ?_ | with_reducible refine balloc ?_ _)), old_alloc (new_alloc _ _ _ rfl), by have := made_own (u1.alloc (.cells #[.int .i64 k, .slice (some ⟨u1.heap.size + 1, 0, none⟩) ps.length ps.length] 52)) ps.length; simpa using this⟩
  case rest =>
    obtain ⟨B8, BL, rfl, hb8, hbl, hne, hlt8, hbx, g8, ht8⟩ := hcut
    replace q0 := keepcell hbx q0
    replace q1 := keepcell hbx q1
    replace G6 := hid (keepheap2 hbx G6.out)
    replace P1 := hid (P1.out.below hbx)
    replace hBX := btrans hBX hbx
    have lb8 : B8 < wc.heap.size := lt_of_block g8
    have G8 := hid g8
    have T8 := hid ht8
    clear hbx g8 ht8 hmk M1 M2 O1
    go_wp2_with fail
    go_loopw [35] (fun ti wr => ∃ j : Nat, ti = .int .i64 j ∧ j ≤ ps.length ∧ Hid (Below w.heap.size w wr) ∧ Hid (Below wc.heap.size wc wr ∨ True) ∧ Hid (Pts wr a ps) ∧ Hid (wr.heap[w.heap.size + 1]? = some (.cells #[.int .i64 0, .slice none 0 0] 52 (0, 0))) ∧ Hid (wr.heap[B8]? = some (.cells #[.int .i64 k, .slice (some ⟨BL, 0, none⟩) ps.length ps.length] 52 (0, 0))) ∧ Hid (BL < wr.heap.size ∧ PtsAt wr BL 0 (tk (fM ps dx dy) j) ∧ wr.there BL 0 (ps.length * 2))) (fun ti _ => ps.length - (intOf ti).toNat)
    case atStart => exact ⟨0, rfl, Nat.zero_le _, hid hBX, hid (.inr trivial), P1, G6, G8, hid ⟨hlt8, fun j hj => by simp [tk] at hj, T8.out⟩⟩
    case round =>
      clear q0 q1 G6 P1 G8 T8
      obtain ⟨j, rfl, hj, HBW, _, HPW, G6, G8, HL⟩ := hrel
      by_cases hlt : j < ps.length
      · have c1 : (j : Int) < (ps.length : Int) := by omega
        obtain ⟨b, off, rfl, hbs, hp⟩ : ∃ b off, a = some ⟨b, off, none⟩ ∧ b < wr.heap.size ∧ PtsAt wr b off ps := by
          rcases HPW.out with h | h
          · rw [h] at hlt; simp at hlt
          · exact h
        obtain ⟨d0, d1⟩ := hp j hlt
        obtain ⟨⟨ix1, ix2⟩, iy1, iy2⟩ := HIN.out j hlt
        have hfm : fM ps dx dy j = ((ps.getD j (0, 0)).1 + dx, (ps.getD j (0, 0)).2 + dy) := rfl
        have HFM := hid hfm
        clear hfm hp
        generalize (ps.getD j (0, 0)).1 = x at *
        generalize (ps.getD j (0, 0)).2 = y at *
        obtain ⟨e0, e1, _, _⟩ := cell2g (old_alloc (o' := .cells #[.int .i64 x, .int .i64 y] 25) G8.out)
        have htA := there_alloc HL.out.2.2 HL.out.1 (.cells #[.int .i64 x, .int .i64 y] 25)
        obtain ⟨f0, f0'⟩ := htA (j * 2) (by omega)
        obtain ⟨f1, f1'⟩ := htA (j * 2 + 1) (by omega)
        obtain ⟨v0, hv0⟩ := Option.isSome_iff_exists.1 f0
        obtain ⟨v1, hv1⟩ := Option.isSome_iff_exists.1 f1
        simp only [Nat.zero_add, ← Nat.add_assoc] at hv0 hv1 f0' f1'
        have HTA := hid htA
        clear htA f0 f1
        go_wp2_with fail
        go_roundw
        case rel =>
          have hput := put_point (w := wr.alloc (.cells #[.int .i64 x, .int .i64 y] 25)) (b := BL) (k := j) (n := ps.length * 2) (ps := tk (fM ps dx dy) ps.length) (by have := HL.out.1; simp; omega) (by rw [tk_len]; exact hlt) (by rw [tk_len]) (by rw [take_of _ _ _ (by omega)]; exact HL.out.2.1.below HL.out.1 (balloc (Below.refl _ _) _)) HTA.out (x + dx) (y + dy) (by rw [tk_getD _ _ _ hlt, HFM.out]) (by rw [tk_getD _ _ _ hlt, HFM.out])
          rw [take_of _ _ _ (by omega)] at hput
          have hbW := bset (bset (balloc HBW.out (.cells #[.int .i64 x, .int .i64 y] 25)) (q := BL) (k := j * 2) (by omega) (.int .i64 (x + dx))) (q := BL) (k := j * 2 + 1) (by omega) (.int .i64 (y + dy))
          refine ⟨j + 1, by go_num, by omega, hid hbW, hid (.inr trivial), hid (HP.out.below hbW), hid (set_far (set_far (old_alloc G6.out) (by omega)) (by omega)), hid (set_far (set_far (old_alloc G8.out) (by omega)) (by omega)), hid ⟨by have := HL.out.1; simp; omega, hput.1, hput.2⟩⟩
        case measure => simp [intOf]; omega
      · obtain rfl : j = ps.length := by omega
        obtain ⟨e0, e1, _, _⟩ := cell2g G8.out
        have A2 := O2.out BL ps.length wr (by rw [tk_len]; exact Nat.le_refl _) (PtsOwn.pts ⟨HL.out.1, HL.out.2.1, by rw [tk_len]; exact HL.out.2.2⟩)
        rw [tk_len] at A2
        have HA2 := hid A2
        have hBX := HBW.out
        clear A2 HBW O2
        cases h4 : shok k (tk (fM ps dx dy) ps.length)
        · have HN := hid (show mvOk k ps dx dy = false by rw [HMV.out, h4])
          rw [h4] at HA2
          clear h4
          go_wp2_with fail
          refine HA2.out.mono ?_
          rintro e u2 ⟨rfl, hu2⟩
          replace G6 := hid (keepheap2 hu2 G6.out)
          replace hBX := btrans hBX hu2
          obtain ⟨y0, y1, y2, y3⟩ := cell2g G6.out
          go_wp2_with fail
          have gF := (set2 G6.out (.int .i64 0) (.slice none 0 0)).1
          have bF := bset (bset hBX (q := w.heap.size + 1) (k := 0) (by omega) (.int .i64 0)) (q := w.heap.size + 1) (k := 1) (by omega) (.slice none 0 0)
          generalize (u2.setCell ⟨w.heap.size + 1, 0, none⟩ (.int .i64 0)).setCell ⟨w.heap.size + 1, 1, none⟩ (.slice none 0 0) = wf at *
          obtain ⟨z0, z1, _, _⟩ := cell2g gF
          exact bodyPost_ret (v := .tuple #[.agg #[(.int .i64 0), (.slice none 0 0)], .bool false]) (by simp [results, Try.results55, go_sem, z0, z1]) rfl (mv_no HN.out bF)
        · have HN := hid (show mvOk k ps dx dy = true by rw [HMV.out, h4])
          rw [h4] at HA2
          clear h4
          go_wp2_with fail
          refine HA2.out.mono ?_
          rintro e u2 ⟨rfl, hu2⟩
          replace G6 := hid (keepheap2 hu2 G6.out)
          replace hBX := btrans hBX hu2
          replace e0 := keepcell hu2 e0
          replace e1 := keepcell hu2 e1
          have hown : PtsOwn u2 BL (tk (fM ps dx dy) ps.length) := PtsOwn.below ⟨HL.out.1, HL.out.2.1, by rw [tk_len]; exact HL.out.2.2⟩ hu2
          have HOWN := hid hown
          clear hown hu2
          obtain ⟨y0, y1, y2, y3⟩ := cell2g G6.out
          go_wp2_with fail
          have gF := (set2 G6.out (.int .i64 k) (.slice (some ⟨BL, 0, none⟩) ps.length ps.length)).1
          have bF := bset (bset hBX (q := w.heap.size + 1) (k := 0) (by omega) (.int .i64 k)) (q := w.heap.size + 1) (k := 1) (by omega) (.slice (some ⟨BL, 0, none⟩) ps.length ps.length)
          have hoF : PtsOwn ((u2.setCell ⟨w.heap.size + 1, 0, none⟩ (.int .i64 k)).setCell ⟨w.heap.size + 1, 1, none⟩ (.slice (some ⟨BL, 0, none⟩) ps.length ps.length)) BL (tk (fM ps dx dy) ps.length) := PtsOwn.of_block HOWN.out (by rw [blk_far _ _ _ _ _ (by omega), blk_far _ _ _ _ _ (by omega)]) (by simp)
          generalize (u2.setCell ⟨w.heap.size + 1, 0, none⟩ (.int .i64 k)).setCell ⟨w.heap.size + 1, 1, none⟩ (.slice (some ⟨BL, 0, none⟩) ps.length ps.length) = wf at *
          obtain ⟨z0, z1, _, _⟩ := cell2g gF
          exact bodyPost_ret (v := .tuple #[.agg #[(.int .i64 k), (.slice (some ⟨BL, 0, none⟩) ps.length ps.length)], .bool true]) (by simp [results, Try.results55, go_sem, z0, z1]) rfl (mv_yes HN.out (Nat.le_refl _) hoF (by omega) bF)
end Go.Proofs.Ytkncdncpgjpemaa
