/- The walk of FnExactDbStart. -/
import Derived.Test.YtaceibffgoaflaaDc
namespace Go.Proofs.Ytaceibffgoaflaa
open Go.RowKit
set_option linter.unusedSimpArgs false
set_option linter.unusedVariables false
theorem bgrownq {w a b : World} {r : Option Nat} (h : Below w.heap.size w a) (hg : a.grownBy b r) (hp : ∀ c, r = some c → w.heap.size ≤ c) : Below w.heap.size w b :=
  ⟨hg.os.trans h.os, hg.tape.trans h.tape, hg.output.trans h.output, Nat.le_trans h.size hg.size, fun k hk => (hg.block k (Nat.lt_of_lt_of_le hk h.size) (fun e => by have := hp k e.symm; omega)).trans (h.block k hk)⟩
theorem blk_grown {w w' : World} {r : Option Nat} {b : Nat} {o : Obj} (h : w.heap[b]? = some o) (hg : w.grownBy w' r) (hne : r ≠ some b) : w'.heap[b]? = some o := (hg.block b (lt_of_block h) (fun e => hne e.symm)).trans h
set_option maxRecDepth 100000 in
set_option maxHeartbeats 8000000 in
theorem dbstart_w (z : Int) (w : World) : Calls Try.prog 3 #[.int .i64 z] w fun e w' => e = .returned (.bool true) ∧ Below w.heap.size w w' := by
  have CS := hid (fun w' => spec_DbStart z w')
  have CI := hid (fun w' => impl_DbStart z w')
  have hn : dsn z ≤ 20 := by unfold dsn; split <;> omega
  unfold DS at CS CI
  generalize dsn z = n at *
  generalize dsb z = ok at *
  have hm : n ≤ 1099511627776 := by omega
  have hno : (ok != ok) = false := by cases ok <;> rfl
  have n1 : ¬ (1 + (n : Int) < 0) := by omega
  go_enter Try.func3, Try.ntmps3
  go_wp2_with fail
  refine (CS.out _).mono ?_
  rintro e y1 ⟨sa, sc, rfl, hso, hsn, hb1⟩
  have hwx := hb1.size
  go_upto_region 2 with fail
  have gS := new_alloc y1 y1.heap.size (.cells #[.int .i64 0, .slice none 0 0, .slice none 0 0, .slice sa n sc] 30) rfl
  have hal : Below y1.heap.size y1 (y1.alloc (.cells #[.int .i64 0, .slice none 0 0, .slice none 0 0, .slice sa n sc] 30)) := balloc (Below.refl _ _) _
  have hz1 : (y1.alloc (.cells #[.int .i64 0, .slice none 0 0, .slice none 0 0, .slice sa n sc] 30)).heap.size = y1.heap.size + 1 := by simp
  have hB := btrans hb1 hal
  have HS := hid (hso.below hal)
  have HSL := hid hso.lt
  clear hal hb1 hso hsn
  generalize y1.alloc (.cells #[.int .i64 0, .slice none 0 0, .slice none 0 0, .slice sa n sc] 30) = Y1 at *
  go_wp2_with fail
  refine (CI.out _).mono ?_
  rintro e y2 ⟨ga, gc, rfl, hgo, hgn, hb2⟩
  replace gS := keepz hb2 gS
  replace hB := btrans hB hb2
  replace HS := hid (HS.out.below hb2)
  have hz2 := hb2.size
  go_upto_region 3 with fail
  have gG := new_alloc y2 y2.heap.size (.cells #[.int .i64 0, .slice none 0 0, .slice none 0 0, .slice ga n gc] 30) rfl
  have hal : Below y2.heap.size y2 (y2.alloc (.cells #[.int .i64 0, .slice none 0 0, .slice none 0 0, .slice ga n gc] 30)) := balloc (Below.refl _ _) _
  have hz3 : (y2.alloc (.cells #[.int .i64 0, .slice none 0 0, .slice none 0 0, .slice ga n gc] 30)).heap.size = y2.heap.size + 1 := by simp
  replace gS := keepz hal gS
  replace hB := btrans hB hal
  replace HS := hid (HS.out.below hal)
  have HG := hid (hgo.below hal)
  have HGL := hid hgo.lt
  have HGN := hid hgn
  clear hal hb2 hgo hgn
  generalize y2.alloc (.cells #[.int .i64 0, .slice none 0 0, .slice none 0 0, .slice ga n gc] 30) = Y2 at *
  generalize y1.heap.size = X1 at *
  generalize y2.heap.size = X2 at *
  have HGB : Hid (∀ c, ga.map (·.block) = some c → X1 < c ∧ c < X2) := hid (fun c e => by have e2 := OwnI.map_blk HG.out e; have q1 := HGN.out c 0 e2; have q2 := HGL.out c 0 e2; omega)
  clear HGN HGL
  obtain ⟨⟨d0, d1, d2, d3⟩, _⟩ := cellz4 gS
  obtain ⟨⟨f0, f1, f2, f3⟩, _⟩ := cellz4 gG
  go_wp2_with fail
  refine (eq_db0 ga sa gc sc n (none1 n) _ (none1_len n) hm HG.out HS.out).mono ?_
  rintro e y3 ⟨rfl, hb⟩
  replace gS := keepz hb gS
  replace gG := keepz hb gG
  replace hB := btrans hB hb
  replace HS := hid (HS.out.below hb)
  replace HG := hid (HG.out.below hb)
  have hz4 := hb.size
  clear hb d0 d1 d2 d3 f0 f1 f2 f3
  obtain ⟨⟨d0, d1, d2, d3⟩, _⟩ := cellz4 gS
  obtain ⟨⟨f0, f1, f2, f3⟩, _⟩ := cellz4 gG
  go_wp2_with fail
  refine (mark_db0 ga gc n (none1 n) _ (none1_len n) hm HG.out).mono ?_
  rintro e y4 ⟨rfl, hmo, hmg⟩
  replace gS := blk_grown gS hmg (fun e => by have := HGB.out _ e; omega)
  replace gG := blk_grown gG hmg (fun e => by have := HGB.out _ e; omega)
  replace hB := bgrownq hB hmg (fun c e => by have := HGB.out _ e; have := HSL.out; omega)
  replace HS := hid (HS.out.grown hmg (fun c off e e2 => by have := HGB.out _ e2.symm; have := HSL.out c off e; omega))
  replace HG := hid hmo
  clear hmo hmg d0 d1 d2 d3 f0 f1 f2 f3
  obtain ⟨⟨d0, d1, d2, d3⟩, _⟩ := cellz4 gS
  obtain ⟨⟨f0, f1, f2, f3⟩, _⟩ := cellz4 gG
  go_wp2_with fail
  refine (held_db0 ga gc n _ hm HG.out).mono ?_
  rintro e y5 ⟨rfl, hb⟩
  replace gS := keepz hb gS
  replace gG := keepz hb gG
  replace hB := btrans hB hb
  replace HS := hid (HS.out.below hb)
  replace HG := hid (HG.out.below hb)
  clear hb d0 d1 d2 d3 f0 f1 f2 f3
  obtain ⟨⟨d0, d1, d2, d3⟩, _⟩ := cellz4 gS
  obtain ⟨⟨f0, f1, f2, f3⟩, _⟩ := cellz4 gG
  go_wp2_with fail
  refine (CI.out _).mono ?_
  rintro e y6 ⟨ha, hc, rfl, hho, hhn, hb⟩
  replace gS := keepz hb gS
  replace gG := keepz hb gG
  replace hB := btrans hB hb
  replace HS := hid (HS.out.below hb)
  replace HG := hid (HG.out.below hb)
  go_upto_region 14 with fail
  have gH := new_alloc y6 y6.heap.size (.cells #[.int .i64 0, .slice none 0 0, .slice none 0 0, .slice ha n hc] 30) rfl
  have hal : Below y6.heap.size y6 (y6.alloc (.cells #[.int .i64 0, .slice none 0 0, .slice none 0 0, .slice ha n hc] 30)) := balloc (Below.refl _ _) _
  replace gS := keepz hal gS
  replace gG := keepz hal gG
  replace hB := btrans hB hal
  replace HS := hid (HS.out.below hal)
  replace HG := hid (HG.out.below hal)
  have HH := hid (hho.below hal)
  clear hal hb hho hhn d0 d1 d2 d3 f0 f1 f2 f3
  generalize y6.alloc (.cells #[.int .i64 0, .slice none 0 0, .slice none 0 0, .slice ha n hc] 30) = Y6 at *
  generalize y6.heap.size = X6 at *
  obtain ⟨⟨d0, d1, d2, d3⟩, _⟩ := cellz4 gS
  obtain ⟨⟨f0, f1, f2, f3⟩, _⟩ := cellz4 gG
  obtain ⟨⟨j0, j1, j2, j3⟩, _⟩ := cellz4 gH
  go_wp2_with fail
  refine (eq_db0 ha sa hc sc n (none1 n) _ (none1_len n) hm HH.out HS.out).mono ?_
  rintro e y7 ⟨rfl, hb⟩
  replace gS := keepz hb gS
  replace gG := keepz hb gG
  replace hB := btrans hB hb
  replace HS := hid (HS.out.below hb)
  replace HG := hid (HG.out.below hb)
  clear hb d0 d1 d2 d3 f0 f1 f2 f3 j0 j1 j2 j3 gH
  obtain ⟨⟨d0, d1, d2, d3⟩, _⟩ := cellz4 gS
  obtain ⟨⟨f0, f1, f2, f3⟩, _⟩ := cellz4 gG
  go_wp2_with fail
  refine (held_db0 ga gc n _ hm HG.out).mono ?_
  rintro e y5 ⟨rfl, hb⟩
  replace gS := keepz hb gS
  replace gG := keepz hb gG
  replace hB := btrans hB hb
  replace HS := hid (HS.out.below hb)
  replace HG := hid (HG.out.below hb)
  clear hb d0 d1 d2 d3 f0 f1 f2 f3
  obtain ⟨⟨d0, d1, d2, d3⟩, _⟩ := cellz4 gS
  obtain ⟨⟨f0, f1, f2, f3⟩, _⟩ := cellz4 gG
  go_wp2_with fail
  go_ret
  exact ⟨rfl, hB⟩
end Go.Proofs.Ytaceibffgoaflaa
