/- Texts of stores, joined: GetSp, Right. -/
import Derived.Test.YtjafahhoihlliaaGreatDoorJ25
import Derived.Test.YtjafahhoihlliaaGreatDoorJ27
import Derived.Test.YtjafahhoihlliaaGreatDoorJ29
import Derived.Test.YtjafahhoihlliaaGreatDoorJ24
namespace Go.Proofs.YtjafahhoihlliaaGreatDoor
open Go.RowKit
set_option linter.unusedVariables false
set_option linter.unusedSimpArgs false
theorem rdl_next {s : ByteArray} {m n : Nat} {i x y : Int} {dx mid dy fin : Nat} (h1 : rd s i = some (dx, mid)) (h2 : rd s mid = some (dy, fin)) (hc : ¬ (m < dx ∨ m < dy)) :
    rdl s m (n + 1) i x y = (rdl s m n fin (x + unf dx) (y + unf dy)).map (fun r => ((x + unf dx, y + unf dy) :: r.1, r.2)) := by
  simp only [rdl, h1, h2, if_neg hc]
  cases rdl s m n fin (x + unf dx) (y + unf dy) <;> rfl
theorem rdl_none1 {s : ByteArray} {m n : Nat} {i x y : Int} (h1 : rd s i = none) : rdl s m (n + 1) i x y = none := by simp only [rdl, h1]
theorem rdl_none2 {s : ByteArray} {m n : Nat} {i x y : Int} {dx mid : Nat} (h1 : rd s i = some (dx, mid)) (h2 : rd s mid = none) : rdl s m (n + 1) i x y = none := by simp only [rdl, h1, h2]
theorem rdl_none3 {s : ByteArray} {m n : Nat} {i x y : Int} {dx mid dy fin : Nat} (h1 : rd s i = some (dx, mid)) (h2 : rd s mid = some (dy, fin)) (hc : m < dx ∨ m < dy) : rdl s m (n + 1) i x y = none := by simp only [rdl, h1, h2, if_pos hc]
/-- What GetShape answers: nothing, or a kind, points and the place behind. -/
def gso (s : ByteArray) (m : Nat) (i : Int) : Option (Int × List (Int × Int) × Int) :=
  if 0 ≤ i ∧ i < (s.size : Int) then
    match rd s (i + 1) with
    | none => none
    | some (n, p) => if 60 < n then none else (gsh s m (by8 s i.toNat) n p).map (fun r => ((by8 s i.toNat : Int), r.1, r.2))
  else none
def soK (o : Option (Int × List (Int × Int) × Int)) : Int := match o with | none => 0 | some r => r.1
def soP (o : Option (Int × List (Int × Int) × Int)) : List (Int × Int) := match o with | none => [] | some r => r.2.1
def soN (o : Option (Int × List (Int × Int) × Int)) : Int := match o with | none => -1 | some r => r.2.2
/-- The answer, in whichever memory of its own. -/
def GSA (w : World) (o : Option (Int × List (Int × Int) × Int)) (e : Ending) (w' : World) : Prop :=
  ∃ a' cap', e = .returned (.tuple #[.agg #[.int .i64 (soK o), .slice a' (soP o).length cap'], .int .i64 (soN o)]) ∧ (soP o).length ≤ cap' ∧ OwnP w' a' (soP o) ∧ (∀ b off, a' = some ⟨b, off, none⟩ → w.heap.size ≤ b) ∧ Below w.heap.size w w'
theorem gsa_no {w w' : World} {o : Option (Int × List (Int × Int) × Int)} (h : o = none) (hb : Below w.heap.size w w') : GSA w o (.returned (.tuple #[.agg #[.int .i64 0, .slice none 0 0], .int .i64 (-1)])) w' := by
  subst h
  exact ⟨none, 0, rfl, Nat.le_refl _, .inl ⟨rfl, rfl⟩, fun _ _ h => (by cases h), hb⟩
set_option maxRecDepth 100000 in
set_option maxHeartbeats 4000000 in
theorem spec_gets_out (s : ByteArray) (i : Int) (hs : s.size ≤ 1048576) (h0 : -9223372036854775808 ≤ i) (h1 : i ≤ 9223372036854775807) (hi : ¬ (0 ≤ i ∧ i < (s.size : Int))) (w : World) : Calls Tryz.prog 18 #[.string s, .int .i64 i] w fun e w' => GSA w (gso s 200000 i) e w' := by
  have HN := hid (show gso s 200000 i = none by unfold gso; rw [if_neg hi])
  have M1 := hid (fun w => inn_calls i 0 ((s.size : Int) - 1) w)
  rw [show (decide (0 ≤ i) && decide (i ≤ (s.size : Int) - 1)) = false by rw [Bool.and_eq_false_iff, decide_eq_false_iff_not, decide_eq_false_iff_not]; omega] at M1
  clear hi
  go_enter Tryz.func18, Tryz.ntmps18
  go_wp2_with fail
  have g6 := new_alloc w w.heap.size (.cells #[.int .i64 0, .slice none 0 0] 26) rfl
  have hB := balloc (Below.refl w.heap.size w) (.cells #[.int .i64 0, .slice none 0 0] 26)
  generalize w.alloc (.cells #[.int .i64 0, .slice none 0 0] 26) = W at *
  refine (M1.out _).mono ?_
  rintro e wz ⟨rfl, hw⟩
  replace hw := hw.symm
  subst hw
  obtain ⟨y0, y1, y2, y3⟩ := cell2g g6
  go_wp2_with fail
  have gF := (set2 g6 (.int .i64 0) (.slice none 0 0)).1
  have bF := bset (bset hB (q := w.heap.size) (k := 0) (by omega) (.int .i64 0)) (q := w.heap.size) (k := 1) (by omega) (.slice none 0 0)
  generalize (W.setCell ⟨w.heap.size, 0, none⟩ (.int .i64 0)).setCell ⟨w.heap.size, 1, none⟩ (.slice none 0 0) = wf at *
  obtain ⟨z0, z1, _, _⟩ := cell2g gF
  exact bodyPost_ret (v := .tuple #[.agg #[(.int .i64 0), (.slice none 0 0)], .int .i64 (-1)]) (by simp [results, Tryz.results18, go_sem, z0, z1]) rfl (gsa_no HN.out bF)
theorem ptrow_nilg (w : World) (B : Nat) : PtRow w B (.slice none 0 0) [] := ⟨by simp [flat2], .inl ⟨rfl, rfl⟩⟩
theorem PtRow.bel {w w' : World} {B : Nat} {v : Value} {l : List (Int × Int)} (h : PtRow w B v l) (hb : Below w.heap.size w w') : PtRow w' B v l :=
  World.ownsRow.kept (row := none) h ⟨hb.os, hb.tape, hb.output, hb.size, fun k hk _ => hb.block k hk⟩ (Classical.em _)
theorem PtRow.set {w : World} {B q k : Nat} {v u : Value} {l : List (Int × Int)} (h : PtRow w B v l) (hq : q < B) : PtRow (w.setCell ⟨q, k, none⟩ u) B v l :=
  World.ownsRow.kept h (grown_set w q k u) (Or.inr (fun e => by have := (World.ownsRow.lt h q e).1; omega))
theorem PtRow.ownG {w : World} {B : Nat} {v : Value} {ps : List (Int × Int)} (h : PtRow w B v ps) (h0 : 0 < ps.length) : ∃ g cap, v = .slice (some ⟨g, 0, none⟩) ps.length cap ∧ B ≤ g ∧ ps.length ≤ cap ∧ PtsOwn w g ps := by
  have h' := h
  rcases h.2 with ⟨rfl, hn⟩ | ⟨g, cap, cur, rfl, hb, hg, hc, _⟩
  · omega
  · have hat : PtsAt w g 0 ps := by
      intro k hk
      obtain ⟨f0, f1⟩ := flat2_at ps k hk
      have hcs := World.ownsRow.cells h' rfl
      have q0 := hcs _ _ f0
      have q1 := hcs _ _ f1
      rw [Addr.add_mid] at q0 q1
      exact ⟨q0, by rw [Nat.add_assoc]; exact q1⟩
    refine ⟨g, cap, rfl, hb, hc, (Array.getElem?_eq_some_iff.1 hg).1, hat, ?_⟩
    intro j hj
    simp only [Nat.zero_add]
    refine ⟨?_, World.ownsRow.frozenAt h' j⟩
    obtain ⟨q0, q1⟩ := hat (j / 2) (by omega)
    simp only [Nat.zero_add] at q0 q1
    rcases Nat.mod_two_eq_zero_or_one j with e | e
    · rw [show j / 2 * 2 = j by omega] at q0; rw [q0]; rfl
    · rw [show j / 2 * 2 + 1 = j by omega] at q1; rw [q1]; rfl
theorem shok_posg {k : Int} {ps : List (Int × Int)} (h : shok k ps = true) : 0 < ps.length := by
  cases ps with
  | nil => exact absurd h (by unfold shok; simp [lineb, rectb, ringOk])
  | cons a b => simp
theorem gsa_yes {w w' : World} {B : Nat} {o : Option (Int × List (Int × Int) × Int)} {k q : Int} {l : List (Int × Int)} {ao : Option Addr} {n cap : Nat} (h : o = some (k, l, q)) (hb : Below w.heap.size w w') (hr : PtRow w' B (.slice ao n cap) l) (hB : w.heap.size ≤ B) (h0 : 0 < l.length) : GSA w o (.returned (.tuple #[.agg #[.int .i64 k, .slice ao n cap], .int .i64 q])) w' := by
  subst h
  obtain ⟨g, c, e, hg, hc, hp⟩ := hr.ownG h0
  injection e with e1 e2 e3
  subst e1 e2 e3
  exact ⟨some ⟨g, 0, none⟩, cap, rfl, hc, .inr ⟨g, rfl, hp⟩, fun b off h => by injection h with h; injection h with h1; omega, hb⟩
theorem unf_less (n : Nat) (h : n ≤ 200000) : -100000 ≤ unf n ∧ unf n ≤ 100000 := by unfold unf; split <;> omega
theorem gso_in (s : ByteArray) (m i : Nat) (hi : i < s.size) : gso s m (i : Int) = match rd s ((i : Int) + 1) with | none => none | some (n, p) => if 60 < n then none else (gsh s m (by8 s i) n p).map (fun r => ((by8 s i : Int), r.1, r.2)) := by
  unfold gso; rw [if_pos (by omega)]; rfl
set_option maxRecDepth 100000 in
set_option maxHeartbeats 4000000 in
theorem spec_gets_no (s : ByteArray) (i : Nat) (hs : s.size ≤ 1048576) (hi : i < s.size) (h : rd s ((i : Int) + 1) = none) (w : World) : Calls Tryz.prog 18 #[.string s, .int .i64 i] w fun e w' => GSA w (gso s 200000 i) e w' := by
  have HN := hid (show gso s 200000 i = none by rw [gso_in s _ i hi, h])
  have M1 := hid (fun w => inn_calls (i : Int) 0 ((s.size : Int) - 1) w)
  rw [show (decide ((0 : Int) ≤ i) && decide ((i : Int) ≤ (s.size : Int) - 1)) = true by rw [Bool.and_eq_true, decide_eq_true_iff, decide_eq_true_iff]; omega] at M1
  have M2 := hid (fun w => spec_rd s ((i : Int) + 1) (by unfold maxLen; omega) (by omega) (by omega) w)
  rw [h] at M2
  clear h
  go_enter Tryz.func18, Tryz.ntmps18
  go_wp2_with fail
  have g6 := new_alloc w w.heap.size (.cells #[.int .i64 0, .slice none 0 0] 26) rfl
  have hB := balloc (Below.refl w.heap.size w) (.cells #[.int .i64 0, .slice none 0 0] 26)
  generalize w.alloc (.cells #[.int .i64 0, .slice none 0 0] 26) = W at *
  refine (M1.out _).mono ?_
  rintro e wz ⟨rfl, hw⟩
  replace hw := hw.symm
  subst hw
  go_wp2_with fail
  refine (M2.out _).mono ?_
  rintro e W1 ⟨rfl, hcl⟩
  replace g6 := keepheap hcl g6
  replace hB := btrans hB hcl
  clear hcl
  obtain ⟨y0, y1, y2, y3⟩ := cell2g g6
  simp only [gnN, gnK]
  go_wp2_with fail
  have gF := (set2 g6 (.int .i64 0) (.slice none 0 0)).1
  have bF := bset (bset hB (q := w.heap.size) (k := 0) (by omega) (.int .i64 0)) (q := w.heap.size) (k := 1) (by omega) (.slice none 0 0)
  generalize (W1.setCell ⟨w.heap.size, 0, none⟩ (.int .i64 0)).setCell ⟨w.heap.size, 1, none⟩ (.slice none 0 0) = wf at *
  obtain ⟨z0, z1, _, _⟩ := cell2g gF
  exact bodyPost_ret (v := .tuple #[.agg #[(.int .i64 0), (.slice none 0 0)], .int .i64 (-1)]) (by simp [results, Tryz.results18, go_sem, z0, z1]) rfl (gsa_no HN.out bF)
set_option maxRecDepth 100000 in
set_option maxHeartbeats 4000000 in
theorem spec_gets_great (s : ByteArray) (i : Nat) (hs : s.size ≤ 1048576) (hi : i < s.size) (n p : Nat) (h : rd s ((i : Int) + 1) = some (n, p)) (hn : 60 < n) (w : World) : Calls Tryz.prog 18 #[.string s, .int .i64 i] w fun e w' => GSA w (gso s 200000 i) e w' := by
  have HN := hid (show gso s 200000 i = none by rw [gso_in s _ i hi, h]; simp only; rw [if_pos hn])
  have hn' : (60 : Int) < (n : Int) := by omega
  have M1 := hid (fun w => inn_calls (i : Int) 0 ((s.size : Int) - 1) w)
  rw [show (decide ((0 : Int) ≤ i) && decide ((i : Int) ≤ (s.size : Int) - 1)) = true by rw [Bool.and_eq_true, decide_eq_true_iff, decide_eq_true_iff]; omega] at M1
  have M2 := hid (fun w => spec_rd s ((i : Int) + 1) (by unfold maxLen; omega) (by omega) (by omega) w)
  rw [h] at M2
  clear h
  go_enter Tryz.func18, Tryz.ntmps18
  go_wp2_with fail
  have g6 := new_alloc w w.heap.size (.cells #[.int .i64 0, .slice none 0 0] 26) rfl
  have hB := balloc (Below.refl w.heap.size w) (.cells #[.int .i64 0, .slice none 0 0] 26)
  generalize w.alloc (.cells #[.int .i64 0, .slice none 0 0] 26) = W at *
  refine (M1.out _).mono ?_
  rintro e wz ⟨rfl, hw⟩
  replace hw := hw.symm
  subst hw
  go_wp2_with fail
  refine (M2.out _).mono ?_
  rintro e W1 ⟨rfl, hcl⟩
  replace g6 := keepheap hcl g6
  replace hB := btrans hB hcl
  clear hcl
  obtain ⟨y0, y1, y2, y3⟩ := cell2g g6
  simp only [gnN, gnK]
  go_wp2_with fail
  have gF := (set2 g6 (.int .i64 0) (.slice none 0 0)).1
  have bF := bset (bset hB (q := w.heap.size) (k := 0) (by omega) (.int .i64 0)) (q := w.heap.size) (k := 1) (by omega) (.slice none 0 0)
  generalize (W1.setCell ⟨w.heap.size, 0, none⟩ (.int .i64 0)).setCell ⟨w.heap.size, 1, none⟩ (.slice none 0 0) = wf at *
  obtain ⟨z0, z1, _, _⟩ := cell2g gF
  exact bodyPost_ret (v := .tuple #[.agg #[(.int .i64 0), (.slice none 0 0)], .int .i64 (-1)]) (by simp [results, Tryz.results18, go_sem, z0, z1]) rfl (gsa_no HN.out bF)
set_option maxRecDepth 100000 in
set_option maxHeartbeats 4000000 in
theorem spec_gets_ok (s : ByteArray) (i : Nat) (hs : s.size ≤ 1048576) (hi : i < s.size) (n p : Nat) (h : rd s ((i : Int) + 1) = some (n, p)) (hn : n ≤ 60) (w : World) : Calls Tryz.prog 18 #[.string s, .int .i64 i] w fun e w' => GSA w (gso s 200000 i) e w' := by
  have HO := hid (show gso s 200000 i = (gsh s 200000 (by8 s i) n p).map (fun r => ((by8 s i : Int), r.1, r.2)) by rw [gso_in s _ i hi, h]; simp only; rw [if_neg (by omega)])
  have hn' : (n : Int) ≤ 60 := by omega
  have hp := rd_small s _ n p h
  have e8 := by8_at s i hi
  have h8 := by8_lt s i
  have M1 := hid (fun w => inn_calls (i : Int) 0 ((s.size : Int) - 1) w)
  rw [show (decide ((0 : Int) ≤ i) && decide ((i : Int) ≤ (s.size : Int) - 1)) = true by rw [Bool.and_eq_true, decide_eq_true_iff, decide_eq_true_iff]; omega] at M1
  have M2 := hid (fun w => spec_rd s ((i : Int) + 1) (by unfold maxLen; omega) (by omega) (by omega) w)
  rw [h] at M2
  clear h
  go_enter Tryz.func18, Tryz.ntmps18
  go_wp2_with fail
  have g6 := new_alloc w w.heap.size (.cells #[.int .i64 0, .slice none 0 0] 26) rfl
  have hB := balloc (Below.refl w.heap.size w) (.cells #[.int .i64 0, .slice none 0 0] 26)
  generalize w.alloc (.cells #[.int .i64 0, .slice none 0 0] 26) = W at *
  refine (M1.out _).mono ?_
  rintro e wz ⟨rfl, hw⟩
  replace hw := hw.symm
  subst hw
  go_wp2_with fail
  refine (M2.out _).mono ?_
  rintro e W1 ⟨rfl, hcl⟩
  replace g6 := keepheap hcl g6
  replace hB := btrans hB hcl
  clear hcl
  obtain ⟨y0, y1, y2, y3⟩ := cell2g g6
  simp only [gnN, gnK]
  rw [← e8] at h8
  go_wp2_with fail
  have g8 := new_alloc W1 W1.heap.size (.cells #[.int .i64 ((by8 s i : Nat) : Int), .slice none 0 0] 26) rfl
  have g60 := old_alloc (o' := (.cells #[.int .i64 ((by8 s i : Nat) : Int), .slice none 0 0] 26)) g6
  have hBV := balloc hB (.cells #[.int .i64 ((by8 s i : Nat) : Int), .slice none 0 0] 26)
  have hV0 : (W1.alloc (.cells #[.int .i64 ((by8 s i : Nat) : Int), .slice none 0 0] 26)).heap.size = W1.heap.size + 1 := by simp
  have hW1 : w.heap.size < W1.heap.size := lt_of_block g6
  generalize W1.alloc (.cells #[.int .i64 ((by8 s i : Nat) : Int), .slice none 0 0] 26) = V0 at *
  generalize W1.heap.size = B8 at *
  generalize by8 s i = kd at *
  clear y0 y1 y2 y3 g6 hB M1 M2 e8
  obtain ⟨i0, hi0, hz0, hz1, hz2⟩ := info_parts Tryz.infoP2
  go_loopw [7, 9, 10, 11] (fun tq tx ty tj wr => ∃ j q : Nat, ∃ x y : Int, ∃ v : Value, ∃ l : List (Int × Int), tj = .int .i64 j ∧ tq = .int .i64 q ∧ tx = .int .i64 x ∧ ty = .int .i64 y ∧ j ≤ n ∧ q ≤ s.size ∧ (-100000 * (j : Int) ≤ x ∧ x ≤ 100000 * (j : Int)) ∧ (-100000 * (j : Int) ≤ y ∧ y ≤ 100000 * (j : Int)) ∧ Hid (l.length = j) ∧ Hid (rdl s 200000 n p 0 0 = (rdl s 200000 (n - j) q x y).map (fun r => (l ++ r.1, r.2))) ∧ Hid (Below w.heap.size w wr) ∧ Hid (wr.heap[w.heap.size]? = some (.cells #[.int .i64 0, .slice none 0 0] 26 (0, 0))) ∧ Hid (wr.heap[B8]? = some (.cells #[.int .i64 kd, v] 26 (0, 0))) ∧ Hid (V0.heap.size ≤ wr.heap.size ∧ PtRow wr V0.heap.size v l)) (fun _ _ _ tj _ => n - (intOf tj).toNat)
  case atStart => exact ⟨0, p, 0, 0, _, [], rfl, rfl, rfl, rfl, Nat.zero_le _, hp.2, by omega, by omega, hid rfl, hid (by simp), hid hBV, hid g60, hid g8, hid ⟨Nat.le_refl _, ptrow_nilg _ _⟩⟩
  case round =>
    clear g8 g60 hBV
    obtain ⟨j, q, x, y, v, l, rfl, rfl, rfl, rfl, hj, hq, hx, hy, HLn, HR, HBW, G6, G8, HL⟩ := hrel
    by_cases hlt : j < n
    · have c1 : (j : Int) < (n : Int) := by omega
      have e1 : n - j = n - (j + 1) + 1 := by omega
      have R1 := hid (fun w => spec_rd s (q : Int) (by unfold maxLen; omega) (by omega) (by omega) w)
      cases h1 : rd s (q : Int) with
      | none =>
        have HN := hid (show gso s 200000 i = none by rw [HO.out]; unfold gsh; rw [HR.out, e1, rdl_none1 h1]; rfl)
        have R2 := hid (fun w => spec_rd s (-1) (by unfold maxLen; omega) (by omega) (by omega) w)
        rw [h1] at R1
        rw [rd_out s (-1) (by omega)] at R2
        simp only [gnN, gnK] at R1 R2
        clear h1 HR HO
        go_wp2_with fail
        refine (R1.out _).mono ?_
        rintro e V1 ⟨rfl, hcl⟩
        have k6 := keepheap hcl G6.out
        have hB := btrans HBW.out hcl
        clear hcl
        go_wp2_with fail
        refine (R2.out _).mono ?_
        rintro e V2 ⟨rfl, hcl⟩
        replace k6 := keepheap hcl k6
        replace hB := btrans hB hcl
        obtain ⟨y0, y1, y2, y3⟩ := cell2g k6
        go_wp2_with fail
        have gF := (set2 k6 (.int .i64 0) (.slice none 0 0)).1
        have bF := bset (bset hB (q := w.heap.size) (k := 0) (by omega) (.int .i64 0)) (q := w.heap.size) (k := 1) (by omega) (.slice none 0 0)
        generalize (V2.setCell ⟨w.heap.size, 0, none⟩ (.int .i64 0)).setCell ⟨w.heap.size, 1, none⟩ (.slice none 0 0) = wf at *
        obtain ⟨z0, z1, _, _⟩ := cell2g gF
        exact bodyPost_ret (v := .tuple #[.agg #[(.int .i64 0), (.slice none 0 0)], .int .i64 (-1)]) (by simp [results, Tryz.results18, go_sem, z0, z1]) rfl (gsa_no HN.out bF)
      | some d1 =>
        obtain ⟨dx, mid⟩ := d1
        have s1 := rd_small s _ dx mid h1
        have R2 := hid (fun w => spec_rd s (mid : Int) (by unfold maxLen; omega) (by omega) (by omega) w)
        rw [h1] at R1
        simp only [gnN, gnK] at R1
        cases h2 : rd s (mid : Int) with
        | none =>
          have HN := hid (show gso s 200000 i = none by rw [HO.out]; unfold gsh; rw [HR.out, e1, rdl_none2 h1 h2]; rfl)
          rw [h2] at R2
          simp only [gnN, gnK] at R2
          clear h1 h2 HR HO
          go_wp2_with fail
          refine (R1.out _).mono ?_
          rintro e V1 ⟨rfl, hcl⟩
          have k6 := keepheap hcl G6.out
          have hB := btrans HBW.out hcl
          clear hcl
          go_wp2_with fail
          refine (R2.out _).mono ?_
          rintro e V2 ⟨rfl, hcl⟩
          replace k6 := keepheap hcl k6
          replace hB := btrans hB hcl
          obtain ⟨y0, y1, y2, y3⟩ := cell2g k6
          go_wp2_with fail
          have gF := (set2 k6 (.int .i64 0) (.slice none 0 0)).1
          have bF := bset (bset hB (q := w.heap.size) (k := 0) (by omega) (.int .i64 0)) (q := w.heap.size) (k := 1) (by omega) (.slice none 0 0)
          generalize (V2.setCell ⟨w.heap.size, 0, none⟩ (.int .i64 0)).setCell ⟨w.heap.size, 1, none⟩ (.slice none 0 0) = wf at *
          obtain ⟨z0, z1, _, _⟩ := cell2g gF
          exact bodyPost_ret (v := .tuple #[.agg #[(.int .i64 0), (.slice none 0 0)], .int .i64 (-1)]) (by simp [results, Tryz.results18, go_sem, z0, z1]) rfl (gsa_no HN.out bF)
        | some d2 =>
          obtain ⟨dy, fin⟩ := d2
          have s2 := rd_small s _ dy fin h2
          rw [h2] at R2
          simp only [gnN, gnK] at R2
          by_cases hc : 200000 < dx ∨ 200000 < dy
          · have HN := hid (show gso s 200000 i = none by rw [HO.out]; unfold gsh; rw [HR.out, e1, rdl_none3 h1 h2 hc]; rfl)
            clear h1 h2 HR HO
            have hcd : (200000 : Int) < (dx : Int) ∨ ((dx : Int) ≤ 200000 ∧ (200000 : Int) < (dy : Int)) := by omega
            go_wp2_with fail
            refine (R1.out _).mono ?_
            rintro e V1 ⟨rfl, hcl⟩
            have k6 := keepheap hcl G6.out
            have hB := btrans HBW.out hcl
            clear hcl
            go_wp2_with fail
            refine (R2.out _).mono ?_
            rintro e V2 ⟨rfl, hcl⟩
            replace k6 := keepheap hcl k6
            replace hB := btrans hB hcl
            obtain ⟨y0, y1, y2, y3⟩ := cell2g k6
            rcases hcd with hcd | ⟨hcd, hcd2⟩
            · go_wp2_with fail
              have gF := (set2 k6 (.int .i64 0) (.slice none 0 0)).1
              have bF := bset (bset hB (q := w.heap.size) (k := 0) (by omega) (.int .i64 0)) (q := w.heap.size) (k := 1) (by omega) (.slice none 0 0)
              generalize (V2.setCell ⟨w.heap.size, 0, none⟩ (.int .i64 0)).setCell ⟨w.heap.size, 1, none⟩ (.slice none 0 0) = wf at *
              obtain ⟨z0, z1, _, _⟩ := cell2g gF
              exact bodyPost_ret (v := .tuple #[.agg #[(.int .i64 0), (.slice none 0 0)], .int .i64 (-1)]) (by simp [results, Tryz.results18, go_sem, z0, z1]) rfl (gsa_no HN.out bF)
            · go_wp2_with fail
              have gF := (set2 k6 (.int .i64 0) (.slice none 0 0)).1
              have bF := bset (bset hB (q := w.heap.size) (k := 0) (by omega) (.int .i64 0)) (q := w.heap.size) (k := 1) (by omega) (.slice none 0 0)
              generalize (V2.setCell ⟨w.heap.size, 0, none⟩ (.int .i64 0)).setCell ⟨w.heap.size, 1, none⟩ (.slice none 0 0) = wf at *
              obtain ⟨z0, z1, _, _⟩ := cell2g gF
              exact bodyPost_ret (v := .tuple #[.agg #[(.int .i64 0), (.slice none 0 0)], .int .i64 (-1)]) (by simp [results, Tryz.results18, go_sem, z0, z1]) rfl (gsa_no HN.out bF)
          · have hr := HR.out
            rw [e1, rdl_next h1 h2 hc] at hr
            have d1 : (dx : Int) ≤ 200000 := by omega
            have d2 : (dy : Int) ≤ 200000 := by omega
            have U1 := hid (fun w => spec_unf dx (by omega) w)
            have U2 := hid (fun w => spec_unf dy (by omega) w)
            have b1 := unf_less dx (by omega)
            have b2 := unf_less dy (by omega)
            generalize unf dx = ux at *
            generalize unf dy = uy at *
            have HR2 := hid hr
            clear h1 h2 HR hr hc
            go_wp2_with fail
            refine (R1.out _).mono ?_
            rintro e V1 ⟨rfl, hcl⟩
            have k6 := keepheap hcl G6.out
            have k8 := keepheap hcl G8.out
            have hB := btrans HBW.out hcl
            have hrow := HL.out.2.bel hcl
            have hsz : V0.heap.size ≤ V1.heap.size := Nat.le_trans HL.out.1 hcl.size
            clear hcl G6 G8 HBW HL
            go_wp2_with fail
            refine (R2.out _).mono ?_
            rintro e V2 ⟨rfl, hcl⟩
            replace k6 := keepheap hcl k6
            replace k8 := keepheap hcl k8
            replace hB := btrans hB hcl
            replace hrow := hrow.bel hcl
            replace hsz : V0.heap.size ≤ V2.heap.size := Nat.le_trans hsz hcl.size
            clear hcl
            go_wp2_with fail
            refine (U1.out _).mono ?_
            rintro e V3 ⟨rfl, hw⟩
            replace hw := hw.symm
            subst hw
            go_wp2_with fail
            refine (U2.out _).mono ?_
            rintro e V3 ⟨rfl, hw⟩
            replace hw := hw.symm
            subst hw
            have hown := hrow
            unfold PtRow at hown
            have hll := HLn.out
            have hv8 : some B8 ≠ v.ownBlock := fun e => absurd (hown.lt B8 e.symm).1 (by omega)
            have hv6 : some w.heap.size ≠ v.ownBlock := fun e => absurd (hown.lt _ e.symm).1 (by omega)
            obtain ⟨r80, r81, _, r8f⟩ := cell2g k8
            go_wp2_with (at_builtin; refine wpList_append_own _ rfl (.tmp 83) (.tmp 87) 24 rfl V0.heap.size 44 i0 _ 2 16 Tryz.underlying24 hi0 hz0 hz1 hz2 rfl (by decide) _ _ _ rfl (hown.alloc _) ⟨V2.heap.size, 0, none⟩ 1 1 [.int .i64 (x + ux), .int .i64 (y + uy)] rfl rfl (World.news_of_block (cs := #[.int .i64 (x + ux), .int .i64 (y + uy)]) (t := 44) (fr := (0, 0)) (heap_alloc_new V2 _)) (by simp [Value.oneCell']) (by unfold maxLen; omega) (by omega) (by simp; omega) ?_; intro v' w2 hown' hgrow hat; have hrow' := row_self hown'; obtain ⟨g', cap', rfl, hg', hcp', hpo⟩ := hrow'.ownG (by simp); have m8 := (hgrow.block B8 (by have := lt_of_block k8; simp; omega) hv8).trans (old_alloc k8); have m6 := (hgrow.block w.heap.size (by have := lt_of_block k6; simp; omega) hv6).trans (old_alloc k6); obtain ⟨t80, t81, t8f, t8g⟩ := cell2g m8)
            have hlt2 := lt_of_block m8
            have hgs := hgrow.size
            have hb2 : Below w.heap.size w w2 := (balloc hB _).grown hgrow (by have := lt_of_block k6; simp; omega) (fun k hk => by have := (hown.lt k hk).1; omega)
            have hrow2 := World.ownsRow.kept hrow' (grown_set w2 B8 1 (.slice (some ⟨g', 0, none⟩) (l ++ [(x + ux, y + uy)]).length cap')) (Or.inr (by simp [Value.ownBlock]; omega))
            have hr2 : rdl s 200000 n p 0 0 = (rdl s 200000 (n - (j + 1)) fin (x + ux) (y + uy)).map (fun r => ((l ++ [(x + ux, y + uy)]) ++ r.1, r.2)) := by
              rw [HR2.out, Option.map_map]; congr 1; funext r; simp
            have HR3 := hid hr2
            have e2 : (l ++ [(x + ux, y + uy)]).length = j + 1 := by rw [List.length_append, hll]; rfl
            rw [e2] at hrow2
            clear hr2 HR2
            go_roundw
            case rel => exact ⟨j + 1, fin, x + ux, y + uy, _, l ++ [(x + ux, y + uy)], by go_num, rfl, rfl, rfl, by omega, s2.2, by omega, by omega, hid (by simp; exact hll), HR3, hid (bset hb2 (by omega) _), hid (set_far m6 (by omega)), hid (set_at m8), hid ⟨by simp at hgs ⊢; omega, by unfold PtRow; rw [e2]; exact hrow2⟩⟩
            case measure => simp [intOf]; omega
    · have hr := HR.out
      rw [show n - j = 0 by omega] at hr
      simp only [rdl, Option.map_some, List.append_nil] at hr
      have hln := HLn.out
      have c1 : (n : Int) ≤ (j : Int) := by omega
      obtain ⟨ao, cap, rfl, hcap, hP⟩ := HL.out.2.pts
      have O1 := hid (fun w' (hw : Pts w' ao l) => spec_ShapeOk kd ao cap l w' (by omega) hcap hw)
      have k6 := G6.out
      have k8 := G8.out
      rw [hln] at O1 k8
      obtain ⟨r80, r81, _, r8f⟩ := cell2g k8
      cases hk : shok kd l
      · have HN := hid (show gso s 200000 i = none by rw [HO.out]; unfold gsh; rw [hr]; simp only; rw [hk]; rfl)
        rw [hk] at O1
        have hB := HBW.out
        clear hr HR HO HBW
        go_wp2_with fail
        refine (O1.out _ hP).mono ?_
        rintro e V1 ⟨rfl, hcl⟩
        replace k6 := keepheap hcl k6
        replace hB := btrans hB hcl
        obtain ⟨y0, y1, y2, y3⟩ := cell2g k6
        go_wp2_with fail
        have gF := (set2 k6 (.int .i64 0) (.slice none 0 0)).1
        have bF := bset (bset hB (q := w.heap.size) (k := 0) (by omega) (.int .i64 0)) (q := w.heap.size) (k := 1) (by omega) (.slice none 0 0)
        generalize (V1.setCell ⟨w.heap.size, 0, none⟩ (.int .i64 0)).setCell ⟨w.heap.size, 1, none⟩ (.slice none 0 0) = wf at *
        obtain ⟨z0, z1, _, _⟩ := cell2g gF
        exact bodyPost_ret (v := .tuple #[.agg #[(.int .i64 0), (.slice none 0 0)], .int .i64 (-1)]) (by simp [results, Tryz.results18, go_sem, z0, z1]) rfl (gsa_no HN.out bF)
      · have HY := hid (show gso s 200000 i = some ((kd : Int), l, (q : Int)) by rw [HO.out]; unfold gsh; rw [hr]; simp only; rw [hk]; rfl)
        rw [hk] at O1
        have hB := HBW.out
        have hrow := HL.out.2
        rw [hln] at hrow
        have hsz := HL.out.1
        have hpos := shok_posg hk
        clear hln
        clear hr HR HO HBW HL G6 G8
        go_wp2_with fail
        refine (O1.out _ hP).mono ?_
        rintro e V1 ⟨rfl, hcl⟩
        replace k6 := keepheap hcl k6
        replace k8 := keepheap hcl k8
        replace hB := btrans hB hcl
        replace hrow := hrow.bel hcl
        clear hcl hP r80 r81 r8f
        obtain ⟨r80, r81, _, r8f⟩ := cell2g k8
        obtain ⟨y0, y1, y2, y3⟩ := cell2g k6
        go_wp2_with fail
        have gF := (set2 k6 (.int .i64 kd) (.slice ao j cap)).1
        have bF := bset (bset hB (q := w.heap.size) (k := 0) (by omega) (.int .i64 kd)) (q := w.heap.size) (k := 1) (by omega) (.slice ao j cap)
        have rF := (hrow.set (q := w.heap.size) (k := 0) (u := .int .i64 kd) (by omega)).set (q := w.heap.size) (k := 1) (u := .slice ao j cap) (by omega)
        generalize (V1.setCell ⟨w.heap.size, 0, none⟩ (.int .i64 kd)).setCell ⟨w.heap.size, 1, none⟩ (.slice ao j cap) = wf at *
        obtain ⟨z0, z1, _, _⟩ := cell2g gF
        exact bodyPost_ret (v := .tuple #[.agg #[(.int .i64 kd), (.slice ao j cap)], .int .i64 q]) (by simp [results, Tryz.results18, go_sem, z0, z1]) rfl (gsa_yes HY.out bF rF (by omega) hpos)
theorem spec_GetShape (s : ByteArray) (i : Int) (hs : s.size ≤ 1048576) (h0 : -9223372036854775808 ≤ i) (h1 : i ≤ 9223372036854775807) (w : World) : Calls Tryz.prog 18 #[.string s, .int .i64 i] w fun e w' => GSA w (gso s 200000 i) e w' := by
  by_cases hi : 0 ≤ i ∧ i < (s.size : Int)
  · obtain ⟨k, rfl⟩ := Int.eq_ofNat_of_zero_le hi.1
    have hk : k < s.size := by omega
    cases h : rd s ((k : Int) + 1) with
    | none => exact spec_gets_no s k hs hk h w
    | some r =>
      obtain ⟨n, p⟩ := r
      by_cases hn : 60 < n
      · exact spec_gets_great s k hs hk n p h hn w
      · exact spec_gets_ok s k hs hk n p h (by omega) w
  · exact spec_gets_out s i hs h0 h1 hi w
theorem gso_same (s : ByteArray) (m : Nat) (hm : 200000 ≤ m) (i : Int) : gso s m i = gso s 200000 i := by
  unfold gso
  split
  · split
    · rfl
    · split
      · rfl
      · rw [gsh_same s m hm]
  · rfl
end Go.Proofs.YtjafahhoihlliaaGreatDoor
namespace Go.Proofs.YtjafahhoihlliaaGreatDoor
open Go.RowKit
set_option maxHeartbeats 1000000 in
theorem right_no (w : World) (k : Int) (a : Option Addr) (cap : Nat) (ps : List (Int × Int)) (hm : ps.length ≤ 1099511627776) (hc : ps.length ≤ cap) (h : Pts w a ps) (hk : shok k ps = false) : Calls Tryz.prog 66 #[.int .i64 k, .slice a ps.length cap] w fun e w' => Refused e ∧ Below w.heap.size w w' := by
  have O1 := hid (fun w' (hw : Pts w' a ps) => impl_ShapeOk k a cap ps w' hm hc hw)
  rw [hk] at O1
  have HP := hid h
  clear h hk
  generalize ps.length = n at *
  go_enter Tryz.func66, Tryz.ntmps66
  go_wp2_with fail
  have hB : Below w.heap.size w ((w.alloc (.cells #[.int .i64 0, .slice none 0 0] 26)).alloc (.cells #[.int .i64 k, .slice a n cap] 26)) := balloc (balloc (Below.refl _ _) _) _
  have hP := HP.out.below hB
  generalize ((w.alloc (.cells #[.int .i64 0, .slice none 0 0] 26)).alloc (.cells #[.int .i64 k, .slice a n cap] 26)) = W at *
  refine (O1.out _ hP).mono ?_
  rintro e W1 ⟨rfl, hcl⟩
  go_wp2_with fail
  exact ⟨rfl, ⟨_, rfl⟩, btrans hB hcl⟩
set_option maxHeartbeats 1000000 in
theorem right_ok (w : World) (k : Int) (a : Option Addr) (cap : Nat) (ps : List (Int × Int)) (hm : ps.length ≤ 1099511627776) (hc : ps.length ≤ cap) (h : Pts w a ps) (hk : shok k ps = true) : Calls Tryz.prog 66 #[.int .i64 k, .slice a ps.length cap] w fun e w' => e = .returned (shv k a ps.length cap) ∧ Below w.heap.size w w' := by
  have O1 := hid (fun w' (hw : Pts w' a ps) => impl_ShapeOk k a cap ps w' hm hc hw)
  rw [hk] at O1
  have HP := hid h
  clear h hk
  generalize ps.length = n at *
  go_enter Tryz.func66, Tryz.ntmps66
  go_wp2_with fail
  have g5 := new_alloc (w.alloc (.cells #[.int .i64 0, .slice none 0 0] 26)) (w.heap.size + 1) (.cells #[.int .i64 k, .slice a n cap] 26) (by simp)
  have g4 := old_alloc (o' := .cells #[.int .i64 k, .slice a n cap] 26) (new_alloc w w.heap.size (.cells #[.int .i64 0, .slice none 0 0] 26) rfl)
  have hB : Below w.heap.size w ((w.alloc (.cells #[.int .i64 0, .slice none 0 0] 26)).alloc (.cells #[.int .i64 k, .slice a n cap] 26)) := balloc (balloc (Below.refl _ _) _) _
  have hP := HP.out.below hB
  generalize ((w.alloc (.cells #[.int .i64 0, .slice none 0 0] 26)).alloc (.cells #[.int .i64 k, .slice a n cap] 26)) = W at *
  refine (O1.out _ hP).mono ?_
  rintro e W1 ⟨rfl, hcl⟩
  replace g4 := keepheap hcl g4
  replace g5 := keepheap hcl g5
  replace hB := btrans hB hcl
  clear hcl
  obtain ⟨x0, x1, _, _⟩ := cell2g g5
  obtain ⟨y0, y1, y2, y3⟩ := cell2g g4
  go_wp2_with fail
  have gF := (set2 g4 (.int .i64 k) (.slice a n cap)).1
  have bF := bset (bset hB (q := w.heap.size) (k := 0) (by omega) (.int .i64 k)) (q := w.heap.size) (k := 1) (by omega) (.slice a n cap)
  generalize (W1.setCell ⟨w.heap.size, 0, none⟩ (.int .i64 k)).setCell ⟨w.heap.size, 1, none⟩ (.slice a n cap) = wf at *
  obtain ⟨z0, z1, _, _⟩ := cell2g gF
  exact bodyPost_ret (v := .agg #[(.int .i64 k), (.slice a n cap)]) (by simp [results, Tryz.results66, go_sem, z0, z1]) rfl ⟨rfl, bF⟩
end Go.Proofs.YtjafahhoihlliaaGreatDoor
