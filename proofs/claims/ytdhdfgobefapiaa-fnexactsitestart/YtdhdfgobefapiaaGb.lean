/- SiteStart of both sides. -/
import Derived.Test.YtdhdfgobefapiaaGa
import Derived.Test.YtdhdfgobefapiaaDc
namespace Go.Proofs.Ytdhdfgobefapiaa
open Go.RowKit
set_option linter.unusedSimpArgs false
set_option linter.unusedVariables false
def DT (w : World) (z : Int) (e : Ending) (w' : World) : Prop :=
  ∃ a c, e = .returned (.tuple #[.agg #[.int .i64 0, .slice none 0 0, .slice none 0 0, .slice a (dsn z) c, .string ⟨#[]⟩, .int .i64 0, .slice none 0 0], .bool (dsb z)]) ∧ OwnI w' a (none1 (dsn z)) ∧ (∀ b off, a = some ⟨b, off, none⟩ → w.heap.size ≤ b) ∧ Below w.heap.size w w'
set_option maxHeartbeats 8000000 in
theorem impl_SiteStart (z : Int) (w : World) : Calls Try.prog 5 #[.int .i64 z] w fun e w' => DT w z e w' := by
  have CI := hid (fun w' => impl_DbStart z w')
  have HN0 : Hid (dsb z = false → dsn z = 0) := hid (fun e => by unfold dsb at e; unfold dsn; rw [if_neg (by simpa using e)])
  unfold DT
  unfold DS at CI
  generalize dsn z = n at *
  generalize dsb z = ok at *
  have hB : Below w.heap.size w (w.alloc (.cells #[.int .i64 0, .slice none 0 0, .slice none 0 0, .slice none 0 0, .string ⟨#[]⟩, .int .i64 0, .slice none 0 0] 33)) := balloc (Below.refl _ _) _
  have gZ := new_alloc w w.heap.size (.cells #[.int .i64 0, .slice none 0 0, .slice none 0 0, .slice none 0 0, .string ⟨#[]⟩, .int .i64 0, .slice none 0 0] 33) rfl
  have hlt : (w.alloc (.cells #[.int .i64 0, .slice none 0 0, .slice none 0 0, .slice none 0 0, .string ⟨#[]⟩, .int .i64 0, .slice none 0 0] 33)).heap.size = w.heap.size + 1 := by simp
  go_enter Try.func5, Try.ntmps5
  go_upto_region 1 with fail
  generalize w.alloc (.cells #[.int .i64 0, .slice none 0 0, .slice none 0 0, .slice none 0 0, .string ⟨#[]⟩, .int .i64 0, .slice none 0 0] 33) = W at *
  go_wp2_with fail
  refine (CI.out _).mono ?_
  rintro e y1 ⟨sa, sc, rfl, hso, hsn, hb1⟩
  replace gZ := keepz hb1 gZ
  replace hB := btrans hB hb1
  have hz1 := hb1.size
  go_upto_region 2 with fail
  have gS := new_alloc y1 y1.heap.size (.cells #[.int .i64 0, .slice none 0 0, .slice none 0 0, .slice sa n sc] 30) rfl
  have hal : Below y1.heap.size y1 (y1.alloc (.cells #[.int .i64 0, .slice none 0 0, .slice none 0 0, .slice sa n sc] 30)) := balloc (Below.refl _ _) _
  replace gZ := keepz hal gZ
  replace hB := btrans hB hal
  have HS := hid (hso.below hal)
  have HSN := hid hsn
  have HSL := hid hso.lt
  have hz2 : (y1.alloc (.cells #[.int .i64 0, .slice none 0 0, .slice none 0 0, .slice sa n sc] 30)).heap.size = y1.heap.size + 1 := by simp
  clear hal hb1 hso hsn
  generalize y1.alloc (.cells #[.int .i64 0, .slice none 0 0, .slice none 0 0, .slice sa n sc] 30) = Y1 at *
  obtain ⟨⟨d0, d1, d2, d3⟩, _⟩ := cellz4 gS
  obtain ⟨_, s0, s1, s2, s3, s4, s5, s6⟩ := cellz7 gZ
  go_wp2_with fail
  have gF := setz7 gZ (.int .i64 0) (.slice none 0 0) (.slice none 0 0) (.slice sa n sc) (.string ⟨#[]⟩) (.int .i64 0) (.slice none 0 0)
  have bF := bset7 hB (p := w.heap.size) (Nat.le_refl _) (.int .i64 0) (.slice none 0 0) (.slice none 0 0) (.slice sa n sc) (.string ⟨#[]⟩) (.int .i64 0) (.slice none 0 0)
  have hfar := far7 (W := Y1) (p := w.heap.size) (.int .i64 0) (.slice none 0 0) (.slice none 0 0) (.slice sa n sc) (.string ⟨#[]⟩) (.int .i64 0) (.slice none 0 0)
  have hszF := size7 (W := Y1) (p := w.heap.size) (.int .i64 0) (.slice none 0 0) (.slice none 0 0) (.slice sa n sc) (.string ⟨#[]⟩) (.int .i64 0) (.slice none 0 0)
  unfold set7 at gF bF hfar hszF
  generalize (((((((Y1.setCell ⟨w.heap.size, 0, none⟩ (.int .i64 0)).setCell ⟨w.heap.size, 1, none⟩ (.slice none 0 0)).setCell ⟨w.heap.size, 2, none⟩ (.slice none 0 0)).setCell ⟨w.heap.size, 3, none⟩ (.slice sa n sc)).setCell ⟨w.heap.size, 4, none⟩ (.string ⟨#[]⟩)).setCell ⟨w.heap.size, 5, none⟩ (.int .i64 0)).setCell ⟨w.heap.size, 6, none⟩ (.slice none 0 0)) = wf at *
  obtain ⟨⟨z0, z1, z2, z3, z4, z5, z6⟩, _⟩ := cellz7 gF
  exact bodyPost_ret (v := .tuple #[.agg #[.int .i64 0, .slice none 0 0, .slice none 0 0, .slice sa n sc, .string ⟨#[]⟩, .int .i64 0, .slice none 0 0], .bool ok]) (by simp [results, Try.results5, go_sem, z0, z1, z2, z3, z4, z5, z6]) rfl ⟨sa, sc, rfl, HS.out.blk hszF (fun b off e => hfar b (by have := HSN.out b off e; omega)), fun b off e => by have := HSN.out b off e; omega, bF⟩
set_option maxHeartbeats 8000000 in
theorem spec_SiteStart (z : Int) (w : World) : Calls Try.prog 4 #[.int .i64 z] w fun e w' => DT w z e w' := by
  have CI := hid (fun w' => spec_DbStart z w')
  have HN0 : Hid (dsb z = false → dsn z = 0) := hid (fun e => by unfold dsb at e; unfold dsn; rw [if_neg (by simpa using e)])
  unfold DT
  unfold DS at CI
  generalize dsn z = n at *
  generalize dsb z = ok at *
  have hB : Below w.heap.size w (w.alloc (.cells #[.int .i64 0, .slice none 0 0, .slice none 0 0, .slice none 0 0, .string ⟨#[]⟩, .int .i64 0, .slice none 0 0] 33)) := balloc (Below.refl _ _) _
  have gZ := new_alloc w w.heap.size (.cells #[.int .i64 0, .slice none 0 0, .slice none 0 0, .slice none 0 0, .string ⟨#[]⟩, .int .i64 0, .slice none 0 0] 33) rfl
  have hlt : (w.alloc (.cells #[.int .i64 0, .slice none 0 0, .slice none 0 0, .slice none 0 0, .string ⟨#[]⟩, .int .i64 0, .slice none 0 0] 33)).heap.size = w.heap.size + 1 := by simp
  go_enter Try.func4, Try.ntmps4
  go_upto_region 1 with fail
  generalize w.alloc (.cells #[.int .i64 0, .slice none 0 0, .slice none 0 0, .slice none 0 0, .string ⟨#[]⟩, .int .i64 0, .slice none 0 0] 33) = W at *
  go_wp2_with fail
  refine (CI.out _).mono ?_
  rintro e y1 ⟨sa, sc, rfl, hso, hsn, hb1⟩
  replace gZ := keepz hb1 gZ
  replace hB := btrans hB hb1
  have hz1 := hb1.size
  go_upto_region 2 with fail
  have gS := new_alloc y1 y1.heap.size (.cells #[.int .i64 0, .slice none 0 0, .slice none 0 0, .slice sa n sc] 30) rfl
  have hal : Below y1.heap.size y1 (y1.alloc (.cells #[.int .i64 0, .slice none 0 0, .slice none 0 0, .slice sa n sc] 30)) := balloc (Below.refl _ _) _
  replace gZ := keepz hal gZ
  replace hB := btrans hB hal
  have HS := hid (hso.below hal)
  have HSN := hid hsn
  have HSL := hid hso.lt
  have hz2 : (y1.alloc (.cells #[.int .i64 0, .slice none 0 0, .slice none 0 0, .slice sa n sc] 30)).heap.size = y1.heap.size + 1 := by simp
  clear hal hb1 hso hsn
  generalize y1.alloc (.cells #[.int .i64 0, .slice none 0 0, .slice none 0 0, .slice sa n sc] 30) = Y1 at *
  cases ok with
  | true =>
    obtain ⟨⟨d0, d1, d2, d3⟩, _⟩ := cellz4 gS
    obtain ⟨_, s0, s1, s2, s3, s4, s5, s6⟩ := cellz7 gZ
    go_wp2_with fail
    have gF := setz7 gZ (.int .i64 0) (.slice none 0 0) (.slice none 0 0) (.slice sa n sc) (.string ⟨#[]⟩) (.int .i64 0) (.slice none 0 0)
    have bF := bset7 hB (p := w.heap.size) (Nat.le_refl _) (.int .i64 0) (.slice none 0 0) (.slice none 0 0) (.slice sa n sc) (.string ⟨#[]⟩) (.int .i64 0) (.slice none 0 0)
    have hfar := far7 (W := Y1) (p := w.heap.size) (.int .i64 0) (.slice none 0 0) (.slice none 0 0) (.slice sa n sc) (.string ⟨#[]⟩) (.int .i64 0) (.slice none 0 0)
    have hszF := size7 (W := Y1) (p := w.heap.size) (.int .i64 0) (.slice none 0 0) (.slice none 0 0) (.slice sa n sc) (.string ⟨#[]⟩) (.int .i64 0) (.slice none 0 0)
    unfold set7 at gF bF hfar hszF
    generalize (((((((Y1.setCell ⟨w.heap.size, 0, none⟩ (.int .i64 0)).setCell ⟨w.heap.size, 1, none⟩ (.slice none 0 0)).setCell ⟨w.heap.size, 2, none⟩ (.slice none 0 0)).setCell ⟨w.heap.size, 3, none⟩ (.slice sa n sc)).setCell ⟨w.heap.size, 4, none⟩ (.string ⟨#[]⟩)).setCell ⟨w.heap.size, 5, none⟩ (.int .i64 0)).setCell ⟨w.heap.size, 6, none⟩ (.slice none 0 0)) = wf at *
    obtain ⟨⟨z0, z1, z2, z3, z4, z5, z6⟩, _⟩ := cellz7 gF
    exact bodyPost_ret (v := .tuple #[.agg #[.int .i64 0, .slice none 0 0, .slice none 0 0, .slice sa n sc, .string ⟨#[]⟩, .int .i64 0, .slice none 0 0], .bool true]) (by simp [results, Try.results4, go_sem, z0, z1, z2, z3, z4, z5, z6]) rfl ⟨sa, sc, rfl, HS.out.blk hszF (fun b off e => hfar b (by have := HSN.out b off e; omega)), fun b off e => by have := HSN.out b off e; omega, bF⟩
  | false =>
    have hn0 : n = 0 := HN0.out rfl
    subst hn0
    obtain ⟨_, s0, s1, s2, s3, s4, s5, s6⟩ := cellz7 gZ
    go_wp2_with fail
    have gF := setz7 gZ (.int .i64 0) (.slice none 0 0) (.slice none 0 0) (.slice none 0 0) (.string ⟨#[]⟩) (.int .i64 0) (.slice none 0 0)
    have bF := bset7 hB (p := w.heap.size) (Nat.le_refl _) (.int .i64 0) (.slice none 0 0) (.slice none 0 0) (.slice none 0 0) (.string ⟨#[]⟩) (.int .i64 0) (.slice none 0 0)
    have hfar := far7 (W := Y1) (p := w.heap.size) (.int .i64 0) (.slice none 0 0) (.slice none 0 0) (.slice none 0 0) (.string ⟨#[]⟩) (.int .i64 0) (.slice none 0 0)
    have hszF := size7 (W := Y1) (p := w.heap.size) (.int .i64 0) (.slice none 0 0) (.slice none 0 0) (.slice none 0 0) (.string ⟨#[]⟩) (.int .i64 0) (.slice none 0 0)
    unfold set7 at gF bF hfar hszF
    generalize (((((((Y1.setCell ⟨w.heap.size, 0, none⟩ (.int .i64 0)).setCell ⟨w.heap.size, 1, none⟩ (.slice none 0 0)).setCell ⟨w.heap.size, 2, none⟩ (.slice none 0 0)).setCell ⟨w.heap.size, 3, none⟩ (.slice none 0 0)).setCell ⟨w.heap.size, 4, none⟩ (.string ⟨#[]⟩)).setCell ⟨w.heap.size, 5, none⟩ (.int .i64 0)).setCell ⟨w.heap.size, 6, none⟩ (.slice none 0 0)) = wf at *
    obtain ⟨⟨z0, z1, z2, z3, z4, z5, z6⟩, _⟩ := cellz7 gF
    exact bodyPost_ret (v := .tuple #[.agg #[.int .i64 0, .slice none 0 0, .slice none 0 0, .slice none 0 0, .string ⟨#[]⟩, .int .i64 0, .slice none 0 0], .bool false]) (by simp [results, Try.results4, go_sem, z0, z1, z2, z3, z4, z5, z6]) rfl ⟨none, ⟨0, rfl⟩, .inl ⟨rfl, rfl⟩, fun b off e => by (cases e), bF⟩
end Go.Proofs.Ytdhdfgobefapiaa
