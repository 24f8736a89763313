/- Texts of stores, joined: Uc, Xs, Xu, Xp, Pd. -/
import Derived.Test.YtkdoigibpaempaaGreatDoorJ20
import Derived.Test.YtkdoigibpaempaaGreatDoorJ21
import Derived.Test.YtkdoigibpaempaaGreatDoorXc
import Derived.Test.YtkdoigibpaempaaGreatDoorJ15
import Derived.Test.YtkdoigibpaempaaGreatDoorJ18
import Derived.Test.YtkdoigibpaempaaGreatDoorJ7
import Derived.Test.YtkdoigibpaempaaGreatDoorJ12
import Derived.Test.YtkdoigibpaempaaGreatDoorJ8
import Derived.Lib.SliceRun
import Derived.Test.YtkdoigibpaempaaGreatDoorJ16
set_option linter.unusedSimpArgs false
set_option linter.unusedVariables false
namespace Go.Proofs.YtkdoigibpaempaaGreatDoor
open Go.RowKit
theorem err_code {err : Value} {c : Int} (h : ErrC err c) (w : World) (hg : w.cell? ⟨3, 0, none⟩ = some (.iface 148 (.agg #[.pointer (some ⟨4, 87, none⟩)]))) : Calls Tryz.prog 41 #[err] w fun e w' => e = .returned (.int .i64 c) ∧ Below w.heap.size w w' := by
  rcases h with ⟨rfl, rfl⟩ | ⟨u, rfl, hu⟩
  · exact code_nil w
  · exact code_ref c u w hu hg
def CMT (RZ : Int → Value → World → Prop) (code : Int) (Y : World) (R : Nat) (st : Int) (e : Ending) (z : World) : Prop :=
  ∃ err nw a2 n2 c2, e = .returned err ∧ ErrC err code ∧ z.heap[R]? = some (.cells #[.slice none 0 0, .int .i64 st, .bool false, .int .i64 nw, .slice a2 n2 c2] 85 (0, 0)) ∧ (Y.heap.size ≤ z.heap.size ∧ (∀ b, b < Y.heap.size → b ≠ R → z.heap[b]? = Y.heap[b]?) ∧ (z.os = Y.os ∧ z.tape = Y.tape ∧ z.output = Y.output)) ∧ RZ nw (.slice a2 n2 c2) z
set_option maxRecDepth 100000 in
set_option maxHeartbeats 4000000 in
theorem do_cm (RZ : Int → Value → World → Prop) (code now : Int) (a : Option Addr) (rn cap tg tcc base hi P m : Nat) (ts : List Tx) (w : World) (htm : ts.length ≤ 1099511627776) (hm : m < ts.length) (hhP : hi ≤ P) (gP : w.heap[P]? = some (.cells #[.int .i64 now, .slice a rn cap, .slice (some ⟨tg, 0, none⟩) ts.length tcc] 34 (0, 0))) (hx : LC KT base hi w (.slice (some ⟨tg, 0, none⟩) ts.length tcc) ts)
    (he : w.cell? ⟨3, 0, none⟩ = some (.iface 148 (.agg #[.pointer (some ⟨4, 87, none⟩)]))) (hel : 3 < w.heap.size) (heP : 3 ≠ P) (heT : 3 ≠ tg)
    (hst : ∀ (ca : Option Addr) (cn cc : Nat), w.cell? ⟨tg, 0 + m * 3 + 2, none⟩ = some (.slice ca cn cc) → ∀ (R : Nat) (Y : World), Below w.heap.size w Y → Y.heap[R]? = some (.cells #[.slice ca cn cc, .int .i64 ts[m].1, .bool ts[m].2.1, .int .i64 now, .slice a rn cap] 85 (0, 0)) → Calls Tryz.prog 21 #[.pointer (some ⟨R, 0, none⟩)] Y fun e z => CMT RZ code Y R ts[m].1 e z)
    (hRZ : ∀ (nw : Int) (v : Value) (z z' : World), RZ nw v z → (∀ b, w.heap.size ≤ b → b < z.heap.size → z'.heap[b]? = z.heap[b]?) → z.heap.size ≤ z'.heap.size → RZ nw v z') :
    Calls Tryz.prog 42 #[.pointer (some ⟨P, 0, none⟩), .int .i64 m, .func (.func 21) #[] #[]] w fun e w' => ∃ nw a2 n2 c2, e = .returned (.int .i64 code) ∧ w'.heap[P]? = some (.cells #[.int .i64 nw, .slice a2 n2 c2, .slice (some ⟨tg, 0, none⟩) ts.length tcc] 34 (0, 0)) ∧ LC KT base hi w' (.slice (some ⟨tg, 0, none⟩) ts.length tcc) (ts.set m (ts[m].1, false, [])) ∧ w.heap.size ≤ w'.heap.size ∧ (∀ b, b < w.heap.size → b ≠ P → b ≠ tg → w'.heap[b]? = w.heap[b]?) ∧ (w'.os = w.os ∧ w'.tape = w.tape ∧ w'.output = w.output) ∧ RZ nw (.slice a2 n2 c2) w' := by
  obtain ⟨ca, cn, cc, k0, k1, k2⟩ := hx.el3 hm
  obtain ⟨_, _, _, _, hgb, hgh⟩ := hx.cells3 hm
  have HX := hid hx
  have HST := hid (hst ca cn cc k2)
  clear hst
  have HRZ := hid hRZ
  clear hRZ
  have hPs := lt_of_block gP
  have HPUT := hid (fun (W : World) (h : LC KT base hi W (.slice (some ⟨tg, 0, none⟩) ts.length tcc) ts) => h.put3g (st := ts[m].1) (op := false) hm)
  have HCL := hid (fun (W : World) (h : LC KT base hi W (.slice (some ⟨tg, 0, none⟩) ts.length tcc) ts) => h.cells3 hm)
  generalize ts.set m (ts[m].1, false, []) = ts2 at *
  generalize ts[m].1 = st at *
  generalize ts[m].2.1 = op at *
  clear hx
  obtain ⟨tn, htn⟩ : ∃ tn, tn = ts.length := ⟨_, rfl⟩
  rw [← htn] at htm hm gP HX HPUT HCL ⊢
  clear htn
  have HAW := hid (atwork_c now a ca rn cap tg 0 tn tcc m cn cc st op w hm htm k0 k1 k2)
  clear k0 k1 k2
  have c0 : (m : Int) < (tn : Int) := by omega
  go_enter Tryz.func42, Tryz.ntmps42
  obtain ⟨⟨d0, d1, d2⟩, _⟩ := cellk3 gP
  go_wp2_with fail
  refine HAW.out.mono ?_
  rintro e y ⟨rfl, hy⟩
  have gP0 := gP
  replace gP := keepheapA hy gP
  replace HX := hid (HX.out.below hy)
  have hyz := hy.size
  clear d0 d1 d2 HAW
  go_upto_region 2 with fail
  have gR := new_alloc y y.heap.size (.cells #[.slice ca cn cc, .int .i64 st, .bool op, .int .i64 now, .slice a rn cap] 85) rfl
  have hal : Below y.heap.size y (y.alloc (.cells #[.slice ca cn cc, .int .i64 st, .bool op, .int .i64 now, .slice a rn cap] 85)) := balloc (Below.refl _ _) _
  replace gP := keepheapA hal gP
  replace HX := hid (HX.out.below hal)
  have hB := btrans hy hal
  clear hal hy
  generalize y.alloc (.cells #[.slice ca cn cc, .int .i64 st, .bool op, .int .i64 now, .slice a rn cap] 85) = Y at *
  have hRl := lt_of_block gR
  generalize y.heap.size = R at *
  have HRB := hid (HST.out R Y hB gR)
  unfold CMT at HRB
  go_wp2_with fail
  refine HRB.out.mono ?_
  rintro e z ⟨err, nw, a2, n2, c2, rfl, hE, gR2, ⟨hzs2, hfz, hzo⟩, hRZ0⟩
  have HRZ0 := hid hRZ0
  have HE := hid hE
  replace gP := (hfz P (by omega) (by omega)).trans gP
  have hB2 : Below w.heap.size w z := ⟨hzo.1.trans hB.os, hzo.2.1.trans hB.tape, hzo.2.2.trans hB.output, Nat.le_trans hB.size hzs2, fun b hb => (hfz b (by have := hB.size; omega) (by omega)).trans (hB.block b hb)⟩
  replace HX := hid (HX.out.frame (w' := z) (fun b h1 h2 => hfz b (by omega) (by omega)) (by omega))
  clear hfz gR HRB hB hzo hRZ0 hE
  obtain ⟨⟨f0, f1, f2, f3, f4⟩, _⟩ := cell5g gR2
  obtain ⟨⟨d0, d1, d2⟩, p0, p1, p2⟩ := cellk3 gP
  go_upto_region 4 with fail
  have gP1 : (((z.setCell ⟨P, 0, none⟩ (.int .i64 nw)).setCell ⟨P, 1, none⟩ (.slice a2 n2 c2))).heap[P]? = some (.cells #[.int .i64 nw, .slice a2 n2 c2, .slice (some ⟨tg, 0, none⟩) tn tcc] 34 (0, 0)) := set_at (k := 1) (u := .slice a2 n2 c2) (set_at (k := 0) (u := .int .i64 nw) gP)
  have hfar : ∀ b, b ≠ P → (((z.setCell ⟨P, 0, none⟩ (.int .i64 nw)).setCell ⟨P, 1, none⟩ (.slice a2 n2 c2))).heap[b]? = z.heap[b]? := fun b hb => by rw [Below.heap_setCell _ _ _ _ (by dsimp only; omega), Below.heap_setCell _ _ _ _ (by dsimp only; omega)]
  have gR3 := (hfar R (by omega)).trans gR2
  have HZF : Hid (∀ b, b ≠ P → (((z.setCell ⟨P, 0, none⟩ (.int .i64 nw)).setCell ⟨P, 1, none⟩ (.slice a2 n2 c2))).heap[b]? = z.heap[b]?) := hid hfar
  have hs1 : (((z.setCell ⟨P, 0, none⟩ (.int .i64 nw)).setCell ⟨P, 1, none⟩ (.slice a2 n2 c2))).heap.size = z.heap.size := by simp
  have HFR : Hid (∀ b, b < w.heap.size → b ≠ P → (((z.setCell ⟨P, 0, none⟩ (.int .i64 nw)).setCell ⟨P, 1, none⟩ (.slice a2 n2 c2))).heap[b]? = w.heap[b]?) := hid (fun b hb hne => (hfar b hne).trans (hB2.block b hb))
  have HEQ : Hid ((((z.setCell ⟨P, 0, none⟩ (.int .i64 nw)).setCell ⟨P, 1, none⟩ (.slice a2 n2 c2))).os = w.os ∧ (((z.setCell ⟨P, 0, none⟩ (.int .i64 nw)).setCell ⟨P, 1, none⟩ (.slice a2 n2 c2))).tape = w.tape ∧ (((z.setCell ⟨P, 0, none⟩ (.int .i64 nw)).setCell ⟨P, 1, none⟩ (.slice a2 n2 c2))).output = w.output) := hid ⟨hB2.os, hB2.tape, hB2.output⟩
  replace HX := hid (HX.out.frame (w' := ((z.setCell ⟨P, 0, none⟩ (.int .i64 nw)).setCell ⟨P, 1, none⟩ (.slice a2 n2 c2))) (fun b h1 h2 => hfar b (by omega)) (by omega))
  have hs1a := Nat.le_of_eq hs1
  have hs1b := Nat.le_of_eq hs1.symm
  have hB2s := hB2.size
  clear hs1 hfar gP gR2 hB2 d0 d1 d2 p0 p1 p2 f0 f1 f2 f3 f4 gP0
  generalize ((z.setCell ⟨P, 0, none⟩ (.int .i64 nw)).setCell ⟨P, 1, none⟩ (.slice a2 n2 c2)) = V at *
  refine wp_region_held_drew (S := (fun w' => w'.heap[P]? = some (.cells #[.int .i64 nw, .slice a2 n2 c2, .slice (some ⟨tg, 0, none⟩) tn tcc] 34 (0, 0)) ∧ w'.heap[R]? = some (.cells #[.slice none 0 0, .int .i64 st, .bool false, .int .i64 nw, .slice a2 n2 c2] 85 (0, 0)))) (by kernel_rfl) ?_ (fun hHeld => ?_)
  · exact ⟨gP1, gR3⟩
  replace gP1 : V.drew.heap[P]? = some (.cells #[.int .i64 nw, .slice a2 n2 c2, .slice (some ⟨tg, 0, none⟩) tn tcc] 34 (0, 0)) := gP1
  replace gR3 : V.drew.heap[R]? = some (.cells #[.slice none 0 0, .int .i64 st, .bool false, .int .i64 nw, .slice a2 n2 c2] 85 (0, 0)) := gR3
  replace HX := hid (HX.out.below (bdrew (Below.refl _ _)))
  replace HFR : Hid (∀ b, b < w.heap.size → b ≠ P → V.drew.heap[b]? = w.heap[b]?) := hid HFR.out
  replace HZF : Hid (∀ b, b ≠ P → V.drew.heap[b]? = z.heap[b]?) := hid HZF.out
  replace HEQ : Hid (V.drew.os = w.os ∧ V.drew.tape = w.tape ∧ V.drew.output = w.output) := hid HEQ.out
  have hvd : V.drew.heap.size = V.heap.size := rfl
  have hvd1 := Nat.le_of_eq hvd
  have hvd2 := Nat.le_of_eq hvd.symm
  clear hvd
  generalize V.drew = VD at *
  obtain ⟨⟨u0, u1, u2, q0, q1, q2⟩, p0, p1, p2, _, _⟩ := HCL.out VD HX.out
  have HXP := hid (HPUT.out VD HX.out)
  clear HPUT HCL
  refine wpAnyH_take (i := 0) (v := ?_) rfl (by kernel_rfl) (by kernel_rfl) (by kernel_rfl) (fun _ _ _ h => h) (Or.inl ⟨by rfl, ?_⟩) hHeld ?_
  rotate_left
  · intro w' hSw; (try dsimp only at hSw); go_simp; try (with_reducible rfl)
  try simp only [sq]
  refine wpAnyH_take (i := 1) (v := ?_) rfl (by kernel_rfl) (by kernel_rfl) (by kernel_rfl) (fun _ _ _ h => h) (Or.inl ⟨by rfl, ?_⟩) hHeld ?_
  rotate_left
  · intro w' hSw; (try dsimp only at hSw); go_simp; try (with_reducible rfl)
  try simp only [sq]
  refine wpAnyH_take (i := 2) (v := ?_) rfl (by kernel_rfl) (by kernel_rfl) (by kernel_rfl) (fun _ _ _ h => h) (Or.inl ⟨by rfl, ?_⟩) hHeld ?_
  rotate_left
  · intro w' hSw; (try dsimp only at hSw); go_simp; try (with_reducible rfl)
  try simp only [sq]
  refine wpAnyH_take (i := 3) (v := ?_) rfl (by kernel_rfl) (by kernel_rfl) (by kernel_rfl) (fun _ _ _ h => h) (Or.inl ⟨by rfl, ?_⟩) hHeld ?_
  rotate_left
  · intro w' hSw; (try dsimp only at hSw); obtain ⟨⟨_, _, _⟩, _⟩ := cellk3 hSw.1; obtain ⟨⟨_, _, _, _, _⟩, _⟩ := cell5g hSw.2; go_simp; try (with_reducible rfl)
  try simp only [sq]
  refine wpAnyH_take (i := 4) (v := ?_) rfl (by kernel_rfl) (by kernel_rfl) (by kernel_rfl) (fun _ _ _ h => h) (Or.inl ⟨by rfl, ?_⟩) hHeld ?_
  rotate_left
  · intro w' hSw; (try dsimp only at hSw); go_simp; try (with_reducible rfl)
  try simp only [sq]
  refine wpAnyH_take (i := 5) (v := ?_) rfl (by kernel_rfl) (by kernel_rfl) (by kernel_rfl) (fun _ _ _ h => h) (Or.inl ⟨by rfl, ?_⟩) hHeld ?_
  rotate_left
  · intro w' hSw; (try dsimp only at hSw); go_simp; try (with_reducible rfl)
  try simp only [sq]
  refine wpAnyH_take (i := 6) (v := ?_) rfl (by kernel_rfl) (by kernel_rfl) (by kernel_rfl) (fun _ _ _ h => h) (Or.inl ⟨by rfl, ?_⟩) hHeld ?_
  rotate_left
  · intro w' hSw; (try dsimp only at hSw); obtain ⟨⟨_, _, _⟩, _⟩ := cellk3 hSw.1; obtain ⟨⟨_, _, _, _, _⟩, _⟩ := cell5g hSw.2; go_simp; try (with_reducible rfl)
  try simp only [sq]
  refine wpAnyH_take (i := 7) (v := ?_) rfl (by kernel_rfl) (by kernel_rfl) (by kernel_rfl) (fun _ _ _ h => h) (Or.inl ⟨by rfl, ?_⟩) hHeld ?_
  rotate_left
  · intro w' hSw; (try dsimp only at hSw); go_simp; try (with_reducible rfl)
  try simp only [sq]
  refine wpAnyH_take (i := 8) (v := ?_) rfl (by kernel_rfl) (by kernel_rfl) (by kernel_rfl) (fun _ _ _ h => h) (Or.inl ⟨by rfl, ?_⟩) hHeld ?_
  rotate_left
  · intro w' hSw; (try dsimp only at hSw); obtain ⟨⟨_, _, _⟩, _⟩ := cellk3 hSw.1; obtain ⟨⟨_, _, _, _, _⟩, _⟩ := cell5g hSw.2; go_simp; try (with_reducible rfl)
  try simp only [sq]
  refine wpAnyH_take (i := 9) (v := ?_) rfl (by kernel_rfl) (by kernel_rfl) (by kernel_rfl) (fun _ _ _ h => h) (Or.inl ⟨by rfl, ?_⟩) hHeld ?_
  rotate_left
  · intro w' hSw; (try dsimp only at hSw); go_simp; try (with_reducible rfl)
  try simp only [sq]
  refine wpAnyH_take (i := 10) (v := ?_) rfl (by kernel_rfl) (by kernel_rfl) (by kernel_rfl) (fun _ _ _ h => h) (Or.inl ⟨by rfl, ?_⟩) hHeld ?_
  rotate_left
  · intro w' hSw; (try dsimp only at hSw); obtain ⟨⟨_, _, _⟩, _⟩ := cellk3 hSw.1; obtain ⟨⟨_, _, _, _, _⟩, _⟩ := cell5g hSw.2; go_simp; try (with_reducible rfl)
  try simp only [sq]
  refine wpAnyH_take (i := 11) (v := ?_) rfl (by kernel_rfl) (by kernel_rfl) (by kernel_rfl) (fun _ _ _ h => h) (Or.inl ⟨by rfl, ?_⟩) hHeld ?_
  rotate_left
  · intro w' hSw; (try dsimp only at hSw); go_simp; try (with_reducible rfl)
  try simp only [sq]
  refine wpAnyH_take (i := 12) (v := ?_) rfl (by kernel_rfl) (by kernel_rfl) (by kernel_rfl) (fun _ _ _ h => h) (Or.inl ⟨by rfl, ?_⟩) hHeld ?_
  rotate_left
  · intro w' hSw; (try dsimp only at hSw); go_simp; try (with_reducible rfl)
  try simp only [sq]
  refine wpAnyH_ready (rs := [13]) (by kernel_rfl) (by simp) ?_
  refine AllReadyH.cons rfl (fun K hK => ?_) AllReadyH.nil
  try simp only [sq]
  go_simp
  have hfar2 : ∀ b, b ≠ tg → ((((VD.setCell ⟨tg, m * 3, none⟩ (.int .i64 st)).setCell ⟨tg, m * 3 + 1, none⟩ (.bool false)).setCell ⟨tg, m * 3 + 2, none⟩ (.slice none 0 0))).heap[b]? = VD.heap[b]? := fun b hb => by rw [Below.heap_setCell _ _ _ _ (by dsimp only; omega), Below.heap_setCell _ _ _ _ (by dsimp only; omega), Below.heap_setCell _ _ _ _ (by dsimp only; omega)]
  replace gP1 := (hfar2 P (by omega)).trans gP1
  replace gR3 := (hfar2 R (by omega)).trans gR3
  have hs2 : ((((VD.setCell ⟨tg, m * 3, none⟩ (.int .i64 st)).setCell ⟨tg, m * 3 + 1, none⟩ (.bool false)).setCell ⟨tg, m * 3 + 2, none⟩ (.slice none 0 0))).heap.size = VD.heap.size := by simp
  replace HFR : Hid (∀ b, b < w.heap.size → b ≠ P → b ≠ tg → ((((VD.setCell ⟨tg, m * 3, none⟩ (.int .i64 st)).setCell ⟨tg, m * 3 + 1, none⟩ (.bool false)).setCell ⟨tg, m * 3 + 2, none⟩ (.slice none 0 0))).heap[b]? = w.heap[b]?) := hid (fun b h1 h2 h3 => (hfar2 b h3).trans (HFR.out b h1 h2))
  replace HEQ : Hid (((((VD.setCell ⟨tg, m * 3, none⟩ (.int .i64 st)).setCell ⟨tg, m * 3 + 1, none⟩ (.bool false)).setCell ⟨tg, m * 3 + 2, none⟩ (.slice none 0 0))).os = w.os ∧ ((((VD.setCell ⟨tg, m * 3, none⟩ (.int .i64 st)).setCell ⟨tg, m * 3 + 1, none⟩ (.bool false)).setCell ⟨tg, m * 3 + 2, none⟩ (.slice none 0 0))).tape = w.tape ∧ ((((VD.setCell ⟨tg, m * 3, none⟩ (.int .i64 st)).setCell ⟨tg, m * 3 + 1, none⟩ (.bool false)).setCell ⟨tg, m * 3 + 2, none⟩ (.slice none 0 0))).output = w.output) := hid HEQ.out
  have hs2b := Nat.le_of_eq hs2.symm
  replace HZF : Hid (∀ b, b ≠ P → b ≠ tg → ((((VD.setCell ⟨tg, m * 3, none⟩ (.int .i64 st)).setCell ⟨tg, m * 3 + 1, none⟩ (.bool false)).setCell ⟨tg, m * 3 + 2, none⟩ (.slice none 0 0))).heap[b]? = z.heap[b]?) := hid (fun b h2 h3 => (hfar2 b h3).trans (HZF.out b h2))
  refine hK.out _ _ ?_ (fun hHeld => ?_)
  · exact ⟨gP1, gR3⟩
  clear hK K
  try simp only [sq]
  refine wpAnyH_done (by kernel_rfl) ?_ _
  clear hHeld q0 q1 q2 p0 p1 p2 hfar2 hs2 gR3 HX
  generalize (((VD.setCell ⟨tg, m * 3, none⟩ (.int .i64 st)).setCell ⟨tg, m * 3 + 1, none⟩ (.bool false)).setCell ⟨tg, m * 3 + 2, none⟩ (.slice none 0 0)) = F at *
  go_wp2_with fail
  have heF : F.cell? ⟨3, 0, none⟩ = some (.iface 148 (.agg #[.pointer (some ⟨4, 87, none⟩)])) := by
    simp only [World.cell?] at he ⊢
    rw [HFR.out _ hel heP heT]; exact he
  refine (err_code HE.out _ heF).mono ?_
  rintro e x ⟨rfl, hx⟩
  have hxs := hx.size
  have HF1 := hid (keepheapA hx gP1)
  have HF2 := hid (HXP.out.below hx)
  have HF3 : Hid (∀ b, b < w.heap.size → b ≠ P → b ≠ tg → x.heap[b]? = w.heap[b]?) := hid (fun b h1 h2 h3 => (hx.block b (by omega)).trans (HFR.out b h1 h2 h3))
  have HF4 : Hid (x.os = w.os ∧ x.tape = w.tape ∧ x.output = w.output) := hid ⟨hx.os.trans HEQ.out.1, hx.tape.trans HEQ.out.2.1, hx.output.trans HEQ.out.2.2⟩
  have HF5 : Hid (RZ nw (.slice a2 n2 c2) x) := hid (HRZ.out nw (.slice a2 n2 c2) z x HRZ0.out (fun b h1 h2 => (hx.block b (by omega)).trans (HZF.out b (by omega) (by omega))) (by omega))
  clear hx gP1
  go_wp2_with fail
  go_ret
  exact ⟨nw, a2, n2, c2, rfl, HF1.out, HF2.out, by omega, HF3.out, HF4.out, HF5.out⟩
def RZC (S : Nat) (now : Int) (rs : List Rw) (cs : List Ch) (st : Int) (v0 : Value) (nw : Int) (v : Value) (z : World) : Prop :=
  (cmd now rs cs st = false ∧ nw = now ∧ v = v0) ∨ (cmd now rs cs st = true ∧ nw = now + 1 ∧ ∃ bs xs, S ≤ bs ∧ RowsX bs z.heap.size z v (apl (now + 1) rs cs) xs)
theorem RZC.frame {S : Nat} {now : Int} {rs : List Rw} {cs : List Ch} {st : Int} {v0 : Value} {nw : Int} {v : Value} {z z' : World} (h : RZC S now rs cs st v0 nw v z) (hb : ∀ b, S ≤ b → b < z.heap.size → z'.heap[b]? = z.heap[b]?) (hs : z.heap.size ≤ z'.heap.size) : RZC S now rs cs st v0 nw v z' := by
  rcases h with h | ⟨h1, h2, bs, xs, h3, h4⟩
  · exact .inl h
  · exact .inr ⟨h1, h2, bs, xs, h3, (h4.frame (fun b q1 q2 => hb b (by omega) q2) hs).mono (Nat.le_refl _) hs (Nat.le_refl _)⟩
theorem RZC.weak {S S' : Nat} {now : Int} {rs : List Rw} {cs : List Ch} {st : Int} {v0 : Value} {nw : Int} {v : Value} {z : World} (h : RZC S' now rs cs st v0 nw v z) (hS : S ≤ S') : RZC S now rs cs st v0 nw v z := by
  rcases h with h | ⟨h1, h2, bs, xs, h3, h4⟩
  · exact .inl h
  · exact .inr ⟨h1, h2, bs, xs, by omega, h4⟩
theorem stl_form {w : World} {R S : Nat} {e0 : Value} {st : Int} {op : Bool} {now : Int} {a0 : Option Addr} {n0 c0 : Nat} {rs : List Rw} {cs : List Ch} {e : Ending} {w' : World} (hS : S ≤ w.heap.size) (hR : R < w.heap.size) (h : STL w R e0 st op now (.slice a0 n0 c0) rs cs e w') :
    ∃ err nw a2 n2 c2, e = .returned err ∧ ErrC err (cmc now rs cs st) ∧ w'.heap[R]? = some (.cells #[e0, .int .i64 st, .bool op, .int .i64 nw, .slice a2 n2 c2] 85 (0, 0)) ∧ (w.heap.size ≤ w'.heap.size ∧ (∀ b, b < w.heap.size → b ≠ R → w'.heap[b]? = w.heap[b]?) ∧ (w'.os = w.os ∧ w'.tape = w.tape ∧ w'.output = w.output)) ∧ RZC S now rs cs st (.slice a0 n0 c0) nw (.slice a2 n2 c2) w' := by
  obtain ⟨err, h1, h2, h3⟩ := h
  rcases h3 with ⟨q1, q2, q3⟩ | ⟨q1, a, c, xs, y, q2, q3, q4, q5, q6, q7⟩
  · exact ⟨err, now, a0, n0, c0, h1, h2, q2, ⟨q3.size, fun b hb _ => q3.block b hb, q3.os, q3.tape, q3.output⟩, .inl ⟨q1, rfl, rfl⟩⟩
  · exact ⟨err, now + 1, a, _, c, h1, h2, q2, ⟨by rw [q6]; exact q4.size, fun b hb hne => (q5 b hne).trans (q4.block b hb), q7.1.trans q4.os, q7.2.1.trans q4.tape, q7.2.2.trans q4.output⟩, .inr ⟨q1, rfl, w.heap.size, xs, hS, q3⟩⟩
set_option maxHeartbeats 2000000 in
theorem commit_c {N1 N2 : Nat → Prop} (S : Nat) (now st : Int) (op : Bool) (B rc : Nat) (rs : List Rw) (ca : Option Addr) (cc : Nat) (cs : List Ch) (R : Nat) (w : World) (n4 n5 : Addr) (hSw : S ≤ w.heap.size) (hm : rs.length ≤ 1099511627776) (hcm : cs.length ≤ 1099511627776) (hS : RwsS w B rs) (hr : Rws N1 w (some ⟨B, 0, none⟩) rs) (hC : Chs N2 1099511627776 w ca cs)
    (gR : w.heap[R]? = some (.cells #[.slice ca cs.length cc, .int .i64 st, .bool op, .int .i64 now, .slice (some ⟨B, 0, none⟩) rs.length rc] 85 (0, 0))) (kc : w.cell? ⟨1, 0, none⟩ = some (.iface 258 (.pointer (some n4)))) (kf : w.cell? ⟨2, 0, none⟩ = some (.iface 258 (.pointer (some n5)))) :
    Calls Tryz.prog 21 #[.pointer (some ⟨R, 0, none⟩)] w fun e z => CMT (RZC S now rs cs st (.slice (some ⟨B, 0, none⟩) rs.length rc)) (cmc now rs cs st) w R st e z := by
  have hRl := lt_of_block gR
  have HSE := hid ((settle_c now st op B rc rs ca cc cs R w n4 n5 hm hcm hS hr hC gR kc kf).mono (fun e w' h => stl_form (Nat.le_refl _) hRl h))
  clear hS hr hC gR kc kf
  go_enter Tryz.func21, Tryz.ntmps21
  go_wp2_with fail
  refine HSE.out.mono ?_
  rintro e w1 ⟨err, nw, a2, n2, c2, rfl, hE, gR1, ⟨hs1, hf1, ho1⟩, hZ⟩
  have HEN := hid (end_c R _ _ _ _ _ w1 gR1)
  have HFI : Hid (∀ z, z = (w1.setCell ⟨R, 2, none⟩ (.bool false)).setCell ⟨R, 0, none⟩ (.slice none 0 0) → CMT (RZC S now rs cs st (.slice (some ⟨B, 0, none⟩) rs.length rc)) (cmc now rs cs st) w R st (.returned err) z) := hid (fun z hz => by
    have gR2 := end_at gR1
    rw [← hz] at gR2
    have hfar : ∀ b, b ≠ R → z.heap[b]? = w1.heap[b]? := fun b hb => by rw [hz, Below.heap_setCell _ _ _ _ (by dsimp only; omega), Below.heap_setCell _ _ _ _ (by dsimp only; omega)]
    have hzs : z.heap.size = w1.heap.size := by rw [hz]; simp
    exact ⟨err, nw, a2, n2, c2, rfl, hE, gR2, ⟨by omega, fun b hb hne => (hfar b hne).trans (hf1 b hb hne), by rw [hz]; exact ho1⟩, (hZ.frame (fun b h1 h2 => hfar b (by omega)) (by omega)).weak hSw⟩)
  clear hE gR1 hs1 hf1 ho1 hZ HSE
  go_wp2_with fail
  refine HEN.out.mono ?_
  rintro e z ⟨rfl, hz⟩
  have HF := hid (HFI.out z hz)
  clear hz HFI HEN
  go_wp2_with fail
  go_ret
  exact HF.out
end Go.Proofs.YtkdoigibpaempaaGreatDoor
namespace Go.Proofs.YtkdoigibpaempaaGreatDoor
open Go.RowKit
theorem setk4_23 {w : World} {p : Nat} {o0 o1 o2 o3 : Value} {t : TypeId} (h : w.heap[p]? = some (.cells #[o0, o1, o2, o3] t (0, 0))) (c d : Value) : ((w.setCell ⟨p, 2, none⟩ c).setCell ⟨p, 3, none⟩ d).heap[p]? = some (.cells #[o0, o1, c, d] t (0, 0)) := set_at (set_at h)
theorem setk3_2 {w : World} {p : Nat} {o0 o1 o2 : Value} {t : TypeId} (h : w.heap[p]? = some (.cells #[o0, o1, o2] t (0, 0))) (c : Value) : (w.setCell ⟨p, 2, none⟩ c).heap[p]? = some (.cells #[o0, o1, c] t (0, 0)) := set_at h
set_option maxRecDepth 100000 in
set_option maxHeartbeats 2000000 in
theorem spec_copyChs (B cap : Nat) (xs : List Ch) (w : World) (hm : xs.length ≤ 1099511627776) (h : ChsS w B xs) : Calls Tryz.prog 15 #[.slice (some ⟨B, 0, none⟩) xs.length cap] w fun e w' => ∃ v ps, e = .returned v ∧ LX KC 54 w.heap.size w'.heap.size w' v xs ps ∧ (∃ g c, v = .slice (some ⟨g, 0, none⟩) xs.length c) ∧ Below w.heap.size w w' := by
  obtain ⟨i0, hi0, hz0, hz1, hz2⟩ := info_parts Tryz.infoCh
  have HR := hid h
  clear h
  obtain ⟨n, hn⟩ : ∃ n, n = xs.length := ⟨_, rfl⟩
  have HN := hid hn.symm
  rw [← hn] at hm ⊢
  clear hn
  have hB0 : Below w.heap.size w (w.alloc (.cells #[] 54)) := balloc (Below.refl _ _) _
  have HI : Hid (LX KC 54 w.heap.size (w.alloc (.cells #[] 54)).heap.size (w.alloc (.cells #[] 54)) (.slice (some ⟨w.heap.size, 0, none⟩) 0 0) [] []) := hid (by
    have := World.ownsRow_made (base := w.heap.size) (e := 54) (size := 4) w #[] 0 (Nat.le_refl _) (by unfold maxLen; omega) rfl
    exact LX.nil this (fun g e => by simp [Value.ownBlock] at e; subst e; simp) (Nat.le_refl _))
  go_enter Tryz.func15, Tryz.ntmps15
  go_upto_region 2 with fail
  generalize w.alloc (.cells #[] 54) = W0 at *
  go_wp2_with fail
  go_loopw [3, 4] (fun tv ti wr => ∃ i : Nat, ∃ g5 c5 : Nat, ∃ ps' : List (Ch × Value), ti = .int .i64 i ∧ i ≤ n ∧ tv = .slice (some ⟨g5, 0, none⟩) i c5 ∧ Hid (LX KC 54 w.heap.size wr.heap.size wr (.slice (some ⟨g5, 0, none⟩) i c5) (xs.take i) ps') ∧ Hid (Below w.heap.size w wr)) (fun _ ti _ => n - (intOf ti).toNat)
  case atStart => exact ⟨0, w.heap.size, 0, [], rfl, Nat.zero_le _, rfl, HI, hid hB0⟩
  case round =>
    clear HI hB0
    obtain ⟨i, g5, c5, ps', rfl, hi, rfl, HV, HBW⟩ := hrel
    have hwX := HBW.out.size
    by_cases hlt : i < n
    · have d1 : (i : Int) < (n : Int) := by omega
      have hir : i < xs.length := by rw [HN.out]; exact hlt
      obtain ⟨ci, cpi, k9, ⟨k0, k1, k2, k3⟩, k6, k7⟩ := (HR.out.below HBW.out).2 i hir
      have HX : Hid (xs.take (i + 1) = xs.take i ++ [xs[i]]) := hid (by rw [List.take_add_one, List.getElem?_eq_getElem hir]; rfl)
      have hil : (xs.take i).length = i := by rw [List.length_take]; omega
      have HIL := hid hil
      obtain ⟨r, hr⟩ : ∃ r, r = xs[i] := ⟨_, rfl⟩
      rw [← hr] at k0 k1 k2 k3 k6 k7 HX
      clear hr hil
      obtain ⟨id, gn, kd, ps⟩ := r
      simp only at k0 k1 k2 k3 k6 k7
      have hbx : Below wr.heap.size wr (wr.alloc (.cells #[.int .i64 id, .bool gn, .int .i64 kd, .slice (some ⟨ci, 0, none⟩) ps.length cpi] 54)) := balloc (Below.refl _ _) _
      have HC1 := hid (spec_copyG kd ci 0 cpi ps _ k6 (k7.below hbx) (Nat.lt_of_lt_of_le k9 hbx.size))
      unfold CP at HC1
      clear k7
      go_upto_region 6 with fail
      have gx := new_alloc wr wr.heap.size (.cells #[.int .i64 id, .bool gn, .int .i64 kd, .slice (some ⟨ci, 0, none⟩) ps.length cpi] 54) rfl
      have HI1 := hid (HV.out.below hbx)
      have HB1 := hid (btrans HBW.out hbx)
      have hs1 : wr.heap.size < (wr.alloc (.cells #[.int .i64 id, .bool gn, .int .i64 kd, .slice (some ⟨ci, 0, none⟩) ps.length cpi] 54)).heap.size := by simp
      clear k0 k1 k2 k3 hbx HV
      generalize wr.alloc (.cells #[.int .i64 id, .bool gn, .int .i64 kd, .slice (some ⟨ci, 0, none⟩) ps.length cpi] 54) = W1 at *
      generalize wr.heap.size = Xh at *
      obtain ⟨⟨x0, x1, x2, x3⟩, _⟩ := cellk4 gx
      go_wp2_with fail
      refine HC1.out.mono ?_
      rintro e y ⟨g, cp, rfl, hcp, hgs, ho, hy⟩
      have gy := keepheap2 hy gx
      have hys := hy.size
      have HBy := hid (btrans HB1.out hy)
      have HIy := hid (HI1.out.below hy)
      have hwy := HBy.out.size
      have HO := hid ho
      clear hy ho gx HC1 HI1 HB1 x0 x1 x2 x3
      obtain ⟨⟨x0, x1, x2, x3⟩, y0, y1, y2, y3⟩ := cellk4 gy
      go_upto_region 7 with fail
      have gq := setk4_23 gy (.int .i64 kd) (.slice (some ⟨g, 0, none⟩) ps.length cp)
      have hfar : ∀ b, b ≠ Xh → ((y.setCell ⟨Xh, 2, none⟩ (.int .i64 kd)).setCell ⟨Xh, 3, none⟩ (.slice (some ⟨g, 0, none⟩) ps.length cp)).heap[b]? = y.heap[b]? := fun b hb => by rw [Below.heap_setCell _ _ _ _ (by dsimp only; omega), Below.heap_setCell _ _ _ _ (by dsimp only; omega)]
      have HI3 := hid (HIy.out.frame (w' := (y.setCell ⟨Xh, 2, none⟩ (.int .i64 kd)).setCell ⟨Xh, 3, none⟩ (.slice (some ⟨g, 0, none⟩) ps.length cp)) (fun b h1 h2 => hfar b (by omega)) (by simp))
      have HB3 := hid (bset (bset HBy.out (q := Xh) (k := 2) (by omega) (.int .i64 kd)) (q := Xh) (k := 3) (by omega) (.slice (some ⟨g, 0, none⟩) ps.length cp))
      have HO3 := hid (own_blk HO.out (hfar g (by omega)) (by simp; exact HO.out.1))
      have hs3 : ((y.setCell ⟨Xh, 2, none⟩ (.int .i64 kd)).setCell ⟨Xh, 3, none⟩ (.slice (some ⟨g, 0, none⟩) ps.length cp)).heap.size = y.heap.size := by simp
      have hs3a := Nat.le_of_eq hs3
      have hs3b := Nat.le_of_eq hs3.symm
      have hgy := HO.out.1
      clear hs3 hfar HIy HBy HO gy x0 x1 x2 x3 y0 y1 y2 y3
      generalize (y.setCell ⟨Xh, 2, none⟩ (.int .i64 kd)).setCell ⟨Xh, 3, none⟩ (.slice (some ⟨g, 0, none⟩) ps.length cp) = Y at *
      obtain ⟨⟨x0, x1, x2, x3⟩, _⟩ := cellk4 gq
      have hownZ : Y.ownsRow w.heap.size 54 4 (.slice (some ⟨g5, 0, none⟩) i c5) i (flatK KC ps') := by have := HI3.out.2.1; rw [HIL.out] at this; exact this
      clear gq
      go_wp2_with (at_builtin; (refine wpList_append_lies _ rfl (.tmp 21) (.tmp 23) 45 rfl w.heap.size 54 i0 _ 4 48 Tryz.underlying45 hi0 hz0 hz1 hz2 rfl (by decide) (.slice (some ⟨g5, 0, none⟩) i c5) i (flatK KC ps') rfl (hownZ.alloc _) ⟨Y.heap.size, 0, none⟩ 1 1 [.int .i64 id, .bool gn, .int .i64 kd, .slice (some ⟨g, 0, none⟩) ps.length cp] rfl rfl (World.news_of_block (cs := #[.int .i64 id, .bool gn, .int .i64 kd, .slice (some ⟨g, 0, none⟩) ps.length cp]) (t := 54) (fr := (0, 0)) (heap_alloc_new Y _)) (by simp [Value.oneCell']) (by omega) (by unfold maxLen; omega) (by omega) (by simp; omega) (Y.heap.size + 1) (by simp) ?_; intro gg cq w2 hown2 hgrow hat hlt2))
      have hal2 : Below Y.heap.size Y (Y.alloc (.cells #[.int .i64 id, .bool gn, .int .i64 kd, .slice (some ⟨g, 0, none⟩) ps.length cp] 54)) := balloc (Below.refl _ _) _
      have hsub : KC.sub g (g + 1) (Y.alloc (.cells #[.int .i64 id, .bool gn, .int .i64 kd, .slice (some ⟨g, 0, none⟩) ps.length cp] 54)) (.slice (some ⟨g, 0, none⟩) ps.length cp) (id, gn, kd, ps) := ⟨by have := (HO3.out.below hal2).1; omega, g, cp, rfl, hcp, k6, Nat.le_refl _, by omega, HO3.out.below hal2⟩
      have hsn := LX.snoc (x := (id, gn, kd, ps)) (sv := .slice (some ⟨g, 0, none⟩) ps.length cp) (l := g) (u := g + 1) (g := gg) (cap := cq) (HI3.out.below hal2) (by omega) (by omega) hsub (by rw [HIL.out]; exact hown2) hgrow (by simpa using hat) hlt2
      rw [HIL.out] at hsn
      have hb2 : Below w.heap.size w w2 := Below.grown (balloc HB3.out _) hgrow (by simp; omega) (fun k e => (hownZ.lt k e).1)
      have HSN2 : Hid (LX KC 54 w.heap.size w2.heap.size w2 (.slice (some ⟨gg, 0, none⟩) (i + 1) cq) (xs.take (i + 1)) (ps' ++ [((id, gn, kd, ps), .slice (some ⟨g, 0, none⟩) ps.length cp)])) := hid (by rw [HX.out]; exact hsn)
      have HB2 := hid hb2
      clear hsn hb2 hown2 hgrow hal2 hownZ hsub x0 x1 x2 x3
      go_roundw
      case rel => exact ⟨i + 1, gg, cq, _, by go_num, by omega, rfl, HSN2, HB2⟩
      case measure => simp [intOf]; omega
    · have d1 : (n : Int) ≤ (i : Int) := by omega
      have hin : i = n := by omega
      subst hin
      have HF : Hid (LX KC 54 w.heap.size wr.heap.size wr (.slice (some ⟨g5, 0, none⟩) i c5) xs ps') := hid (by have := HV.out; rw [← HN.out, List.take_length] at this; rw [← HN.out]; exact this)
      clear HV
      go_wp2_with fail
      go_ret
      exact ⟨_, ps', rfl, HF.out, ⟨g5, c5, rfl⟩, HBW.out⟩
end Go.Proofs.YtkdoigibpaempaaGreatDoor
namespace Go.Proofs.YtkdoigibpaempaaGreatDoor
open Go.RowKit
theorem own_nilT {w : World} {B : Nat} : w.ownsRow B 48 3 (.slice none 0 0) 0 [] := ⟨by simp, .inl ⟨rfl, rfl⟩⟩
theorem LX.form {α : Type} {K : Kd α} {t : TypeId} {base hi : Nat} {w : World} {v : Value} {xs : List α} {ps : List (α × Value)} (h : LX K t base hi w v xs ps) : ∃ a cap, v = .slice a xs.length cap := by
  obtain ⟨a, cap, e, _⟩ := h.lc.form
  exact ⟨a, cap, e⟩
end Go.Proofs.YtkdoigibpaempaaGreatDoor
namespace Go.Proofs.YtkdoigibpaempaaGreatDoor
open Go.RowKit
theorem Txs.any {N : Nat → Prop} {M : Nat} {w : World} {a : Option Addr} {ts : List Tx} (h : Txs N M w a ts) : Txs (fun _ => True) M w a ts := by
  rcases h with h | ⟨b, o, e, hb, h⟩
  · exact .inl h
  · refine .inr ⟨b, o, e, hb, fun j hj => ?_⟩
    obtain ⟨a', cap', q0, q1, q2, q3, q4, q5, q6⟩ := h j hj
    refine ⟨a', cap', q0, q1, q2, q3, q4, ?_, fun _ _ _ => trivial⟩
    rcases q5 with q5 | ⟨b2, o2, e2, hb2, q5⟩
    · exact .inl q5
    · refine .inr ⟨b2, o2, e2, hb2, fun i hi => ?_⟩
      obtain ⟨a4, cap4, p0, p1, p2, p3, p4, p5, p6, p7⟩ := q5 i hi
      exact ⟨a4, cap4, p0, p1, p2, p3, p4, p5, p6, fun _ _ _ => trivial⟩
def txL (ts : List Tx) : Prop := ∀ j (h : j < ts.length), ts[j].2.2.length ≤ 1099511627776
end Go.Proofs.YtkdoigibpaempaaGreatDoor
namespace Go.Proofs.YtkdoigibpaempaaGreatDoor
open Go.RowKit
def rbT (now : Int) (rs : List Rw) (ts : List Tx) (n : Int) : List Tx := if opn now rs ts n = true then ts.set n.toNat ((txn ts n).1, false, []) else ts
def rbN (now : Int) (rs : List Rw) (ts : List Tx) (n : Int) : Int := if opn now rs ts n = true then 0 else 1
def SN (w : World) (now : Int) (rs : List Rw) (ts : List Tx) (n : Int) (e : Ending) (w' : World) : Prop :=
  ∃ a c ta tcc b1 u1 b2 u2, e = .returned (.tuple #[.agg #[.int .i64 now, .slice a rs.length c, .slice ta ts.length tcc], .int .i64 n]) ∧ StX b1 u1 b2 u2 w' a ta c tcc rs ts ∧ w.heap.size ≤ b1 ∧ w.heap.size ≤ b2 ∧ (u1 ≤ b2 ∨ u2 ≤ b1) ∧ Below w.heap.size w w'
theorem sn_mk {w w' : World} {now n n' : Int} {rs : List Rw} {ts ts' : List Tx} {a ta : Option Addr} {c tcc nr nt b1 u1 b2 u2 : Nat} (e1 : ts = ts') (e2 : n = n') (h1 : rs.length = nr) (h2 : ts'.length = nt) (x1 : LC KR b1 u1 w' (.slice a nr c) rs) (x2 : LC KT b2 u2 w' (.slice ta nt tcc) ts') (q1 : w.heap.size ≤ b1) (q2 : w.heap.size ≤ b2) (q3 : u1 ≤ b2 ∨ u2 ≤ b1) (hb : Below w.heap.size w w') : SN w now rs ts n (.returned (.tuple #[.agg #[.int .i64 now, .slice a nr c, .slice ta nt tcc], .int .i64 n'])) w' := by
  subst e1 e2 h1 h2
  exact ⟨a, c, ta, tcc, b1, u1, b2, u2, rfl, ⟨x1, x2⟩, q1, q2, q3, hb⟩
theorem opn_at {now : Int} {rs : List Rw} {ts : List Tx} {n : Int} (h : opn now rs ts n = true) : ∃ m : Nat, n = (m : Int) ∧ ∃ hm : m < ts.length, storeb now rs ts = true ∧ ts[m].2.1 = true := by
  rw [gob_opn] at h
  simp only [Bool.and_eq_true] at h
  obtain ⟨h1, h2⟩ := h
  unfold gob at h2
  simp only [Bool.and_eq_true, decide_eq_true_eq] at h2
  obtain ⟨q1, q2, q3⟩ := h2
  obtain ⟨m, rfl⟩ : ∃ m : Nat, n = (m : Int) := ⟨n.toNat, by omega⟩
  have hm : m < ts.length := by omega
  rw [txn_at hm] at q3
  exact ⟨m, rfl, hm, h1, q3⟩
theorem rb_yes {now : Int} {rs : List Rw} {ts : List Tx} {m : Nat} (hm : m < ts.length) (h : opn now rs ts (m : Int) = true) : rbT now rs ts (m : Int) = ts.set m (ts[m].1, false, []) ∧ rbN now rs ts (m : Int) = 0 := by
  unfold rbT rbN
  rw [h, txn_at hm]
  exact ⟨by simp, rfl⟩
theorem rb_no {now : Int} {rs : List Rw} {ts : List Tx} {n : Int} (h : opn now rs ts n = false) : rbT now rs ts n = ts ∧ rbN now rs ts n = 1 := by
  unfold rbT rbN
  rw [h]
  exact ⟨rfl, rfl⟩
end Go.Proofs.YtkdoigibpaempaaGreatDoor
