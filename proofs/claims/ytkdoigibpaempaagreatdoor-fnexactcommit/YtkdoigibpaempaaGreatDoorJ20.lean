/- Texts of stores, joined: Ub, Sh0. -/
import Derived.Test.YtkdoigibpaempaaGreatDoorJ19
import Derived.Test.YtkdoigibpaempaaGreatDoorSb
import Derived.Test.YtkdoigibpaempaaGreatDoorJ9
set_option linter.unusedSimpArgs false
set_option linter.unusedVariables false
namespace Go.Proofs.YtkdoigibpaempaaGreatDoor
open Go.RowKit
def cmd (now : Int) (rs : List Rw) (cs : List Ch) (st : Int) : Bool := !(cs.any (tchc rs st)) && (decide (cs ≠ []) && apb now rs cs)
def cmc (now : Int) (rs : List Rw) (cs : List Ch) (st : Int) : Int := if cs.any (tchc rs st) = true then 4 else if cs = [] then 0 else if apb now rs cs = true then 0 else 5
def ErrC (err : Value) (c : Int) : Prop := (err = .nilIface ∧ c = 0) ∨ ∃ u : Value, err = .iface 115 (.agg #[.int .i64 c, u]) ∧ u.oneCell' = true
def STL (w : World) (R : Nat) (e0 : Value) (st : Int) (op : Bool) (now : Int) (v : Value) (rs : List Rw) (cs : List Ch) (e : Ending) (w' : World) : Prop :=
  ∃ err, e = .returned err ∧ ErrC err (cmc now rs cs st) ∧ ((cmd now rs cs st = false ∧ w'.heap[R]? = some (.cells #[e0, .int .i64 st, .bool op, .int .i64 now, v] 85 (0, 0)) ∧ Below w.heap.size w w') ∨
    (cmd now rs cs st = true ∧ ∃ a c xs y, w'.heap[R]? = some (.cells #[e0, .int .i64 st, .bool op, .int .i64 (now + 1), .slice a (apl (now + 1) rs cs).length c] 85 (0, 0)) ∧ RowsX w.heap.size w'.heap.size w' (.slice a (apl (now + 1) rs cs).length c) (apl (now + 1) rs cs) xs ∧ Below w.heap.size w y ∧ (∀ b, b ≠ R → w'.heap[b]? = y.heap[b]?) ∧ w'.heap.size = y.heap.size ∧ (w'.os = y.os ∧ w'.tape = y.tape ∧ w'.output = y.output)))
set_option maxRecDepth 100000 in
set_option maxHeartbeats 4000000 in
theorem settle_c {N1 N2 : Nat → Prop} (now st : Int) (op : Bool) (B rc : Nat) (rs : List Rw) (ca : Option Addr) (cc : Nat) (cs : List Ch) (R : Nat) (w : World) (n4 n5 : Addr) (hm : rs.length ≤ 1099511627776) (hcm : cs.length ≤ 1099511627776) (hS : RwsS w B rs) (hr : Rws N1 w (some ⟨B, 0, none⟩) rs) (hC : Chs N2 1099511627776 w ca cs)
    (gR : w.heap[R]? = some (.cells #[.slice ca cs.length cc, .int .i64 st, .bool op, .int .i64 now, .slice (some ⟨B, 0, none⟩) rs.length rc] 85 (0, 0))) (kc : w.cell? ⟨1, 0, none⟩ = some (.iface 258 (.pointer (some n4)))) (kf : w.cell? ⟨2, 0, none⟩ = some (.iface 258 (.pointer (some n5)))) :
    Calls Tryz.prog 43 #[.pointer (some ⟨R, 0, none⟩)] w fun e w' => STL w R (.slice ca cs.length cc) st op now (.slice (some ⟨B, 0, none⟩) rs.length rc) rs cs e w' := by
  have hRl := lt_of_block gR
  have HAP := hid (fun (W : World) (hb : Below w.heap.size w W) => (impl_Apply2 now B rc rs ca cc cs W hm (hS.below hb) (hr.below hb) hcm (hC.below hb)).mono (fun e w' h => APR.form h))
  unfold APS at HAP
  have HCT := hid (fun (q : Nat) (W : World) (hb : Below w.heap.size w W) (cq : W.cell? ⟨q, 0, none⟩ = some (.pointer (some ⟨R, 0, none⟩))) => contains_tch ca cc cs (tchc rs st) q W hcm (hC.below hb) (fun x a' cap' W' hb' => tch_1 x a' cap' now st (.slice ca cs.length cc) (.bool op) (some ⟨B, 0, none⟩) rc rs q R W' hm (hr.below (btrans hb hb')) (keepcell hb' cq) (keepheap2 (btrans hb hb') gR)))
  have HCL : Hid (cs.any (tchc rs st) = true → ∀ (W : World), W.heap[R]? = some (.cells #[.slice ca cs.length cc, .int .i64 st, .bool op, .int .i64 now, .slice (some ⟨B, 0, none⟩) rs.length rc] 85 (0, 0)) → Below w.heap.size w W → STL w R (.slice ca cs.length cc) st op now (.slice (some ⟨B, 0, none⟩) rs.length rc) rs cs (.returned (.iface 115 (.agg #[.int .i64 4, .iface 258 (.pointer (some n4))]))) W) := hid (fun e W h1 h2 => by
    refine ⟨_, rfl, .inr ⟨_, by unfold cmc; rw [if_pos e], rfl⟩, .inl ⟨by unfold cmd; rw [e]; rfl, h1, h2⟩⟩)
  have HNIL : Hid (cs.any (tchc rs st) = false → cs.length = 0 → ∀ (W : World), W.heap[R]? = some (.cells #[.slice ca cs.length cc, .int .i64 st, .bool op, .int .i64 now, .slice (some ⟨B, 0, none⟩) rs.length rc] 85 (0, 0)) → Below w.heap.size w W → STL w R (.slice ca cs.length cc) st op now (.slice (some ⟨B, 0, none⟩) rs.length rc) rs cs (.returned .nilIface) W) := hid (fun e e0 W h1 h2 => by
    have e1 : cs = [] := List.eq_nil_of_length_eq_zero e0
    refine ⟨_, rfl, .inl ⟨rfl, by unfold cmc; rw [e, if_neg (by simp), if_pos e1]⟩, .inl ⟨by unfold cmd; rw [e1]; simp, h1, h2⟩⟩)
  have HNA : Hid (cs.any (tchc rs st) = false → ¬ cs.length = 0 → ∀ (W : World), apb now rs cs = false → W.heap[R]? = some (.cells #[.slice ca cs.length cc, .int .i64 st, .bool op, .int .i64 now, .slice (some ⟨B, 0, none⟩) rs.length rc] 85 (0, 0)) → Below w.heap.size w W → STL w R (.slice ca cs.length cc) st op now (.slice (some ⟨B, 0, none⟩) rs.length rc) rs cs (.returned (.iface 115 (.agg #[.int .i64 5, .iface 258 (.pointer (some n5))]))) W) := hid (fun e e0 W ea h1 h2 => by
    have e1 : ¬ cs = [] := fun q => e0 (by rw [q]; rfl)
    refine ⟨_, rfl, .inr ⟨_, by unfold cmc; rw [e, if_neg (by simp), if_neg e1, if_neg (by rw [ea]; simp)], rfl⟩, .inl ⟨by unfold cmd; rw [ea]; simp, h1, h2⟩⟩)
  have HYA : Hid (cs.any (tchc rs st) = false → ¬ cs.length = 0 → ∀ (V : World) (a : Option Addr) (c : Nat) (xs : List El), apb now rs cs = true → V.heap[R]? = some (.cells #[.slice ca cs.length cc, .int .i64 st, .bool op, .int .i64 now, .slice (some ⟨B, 0, none⟩) rs.length rc] 85 (0, 0)) → RowsX w.heap.size V.heap.size V (.slice a (aprs now rs cs).length c) (aprs now rs cs) xs → Below w.heap.size w V → STL w R (.slice ca cs.length cc) st op now (.slice (some ⟨B, 0, none⟩) rs.length rc) rs cs (.returned .nilIface) ((V.setCell ⟨R, 3, none⟩ (.int .i64 (apnow now rs cs))).setCell ⟨R, 4, none⟩ (.slice a (aprs now rs cs).length c))) := hid (fun e e0 V a c xs ea h1 h2 h3 => by
    have e1 : ¬ cs = [] := fun q => e0 (by rw [q]; rfl)
    obtain ⟨q1, q2⟩ := apb_yes ea
    rw [q2] at h2
    rw [q1, q2]
    have hfar : ∀ b, b ≠ R → ((V.setCell ⟨R, 3, none⟩ (.int .i64 (now + 1))).setCell ⟨R, 4, none⟩ (.slice a (apl (now + 1) rs cs).length c)).heap[b]? = V.heap[b]? := fun b hb => by rw [Below.heap_setCell _ _ _ _ (by dsimp only; omega), Below.heap_setCell _ _ _ _ (by dsimp only; omega)]
    refine ⟨_, rfl, .inl ⟨rfl, by unfold cmc; rw [e, if_neg (by simp), if_neg e1, if_pos ea]⟩, .inr ⟨by unfold cmd; rw [e, ea]; simp [e1], a, c, xs, V, set34 h1 _ _, ?_, h3, hfar, by simp, rfl, rfl, rfl⟩⟩
    exact (h2.frame (fun b h4 h5 => hfar b (by omega)) (by simp)).mono (Nat.le_refl _) (by simp) (Nat.le_refl _))
  clear hS hr hC
  generalize cs.any (tchc rs st) = tb at *
  generalize apb now rs cs = ab at *
  generalize apnow now rs cs = nw at *
  generalize aprs now rs cs = qs at *
  generalize hqn : qs.length = nq at *
  clear hqn
  generalize rs.length = nr at *
  generalize cs.length = nc at *
  have HKC := hid kc
  have HKF := hid kf
  have hB : Below w.heap.size w (w.alloc (.cells #[.pointer (some ⟨R, 0, none⟩)] 62)) := balloc (Below.refl _ _) _
  have gq := new_alloc w w.heap.size (.cells #[.pointer (some ⟨R, 0, none⟩)] 62) rfl
  have hs0 : w.heap.size < (w.alloc (.cells #[.pointer (some ⟨R, 0, none⟩)] 62)).heap.size := by simp
  replace gR := keepheap2 hB gR
  clear kc kf
  have hmf := makeFn
  go_enter Tryz.func43, Tryz.ntmps43
  go_upto_region 1 with fail
  generalize w.alloc (.cells #[.pointer (some ⟨R, 0, none⟩)] 62) = W at *
  have HB := hid hB
  clear hB
  obtain ⟨q, hq⟩ : ∃ q, q = w.heap.size := ⟨_, rfl⟩
  rw [← hq] at gq ⊢
  have hqR : q ≠ R := by omega
  have hqs : q < W.heap.size := by omega
  have hq1 : w.heap.size ≤ q := Nat.le_of_eq hq.symm
  clear hq
  have q0 : W.cell? ⟨q, 0, none⟩ = some (.pointer (some ⟨R, 0, none⟩)) := by simp [World.cell?, gq]
  clear gq
  obtain ⟨⟨r0, r1, r2, r3, r4⟩, _⟩ := cell5g gR
  go_wp2_with fail
  refine (HCT.out q _ HB.out q0).mono ?_
  rintro e W1 ⟨rfl, hz⟩
  replace gR := keepheap2 hz gR
  replace q0 := keepcell hz q0
  replace HB := hid (btrans HB.out hz)
  replace hqs := Nat.lt_of_lt_of_le hqs hz.size
  have kc := keepcell HB.out HKC.out
  clear hz r0 r1 r2 r3 r4 HCT hmf hs0
  cases tb
  rotate_left
  · go_wp2_with fail
    go_ret
    exact HCL.out (by first | rfl | trivial) _ gR HB.out
  clear HCL kc
  obtain ⟨⟨r0, r1, r2, r3, r4⟩, _⟩ := cell5g gR
  by_cases hn0 : nc = 0
  · have hn1 : ((nc : Int) == 0) = true := by rw [beq_iff_eq]; omega
    have hF := HNIL.out (by first | rfl | trivial) hn0 _ gR HB.out
    have HF := hid hF
    clear hF HNIL HNA HYA hn0
    go_wp2_with fail
    go_ret
    exact HF.out
  have hn1 : ((nc : Int) == 0) = false := by rw [beq_eq_false_iff_ne]; omega
  replace HNA := hid (HNA.out (by first | rfl | trivial) hn0)
  replace HYA := hid (HYA.out (by first | rfl | trivial) hn0)
  clear HNIL
  go_upto_region 5 with fail
  clear hn1
  generalize W1 = W2 at *
  replace q0 : W2.drew.cell? ⟨q, 0, none⟩ = _ := q0
  replace r0 : W2.drew.cell? ⟨R, 0, none⟩ = _ := r0
  replace r3 : W2.drew.cell? ⟨R, 3, none⟩ = _ := r3
  replace r4 : W2.drew.cell? ⟨R, 4, none⟩ = _ := r4
  replace gR : W2.drew.heap[R]? = _ := gR
  have hB0 : Below w.heap.size w W2.drew := bdrew HB.out
  replace hqs : q < W2.drew.heap.size := hqs
  have hBs := hB0.size
  clear r1 r2 HB
  refine wp_region_held_drew (S := (fun w' => w'.cell? ⟨q, 0, none⟩ = some (.pointer (some ⟨R, 0, none⟩)) ∧ w'.cell? ⟨R, 0, none⟩ = some (.slice ca nc cc) ∧ w'.cell? ⟨R, 3, none⟩ = some (.int .i64 now) ∧ w'.cell? ⟨R, 4, none⟩ = some (.slice (some ⟨B, 0, none⟩) nr rc))) (by kernel_rfl) ?_ (fun hHeld => ?_)
  · (repeat' apply And.intro) <;> (with_reducible repeat (first | assumption | refine keepsetB ?_ hxq | refine keepsetB ?_ hxR | refine keepdrew ?_ | refine keepalloc ?_ _ | refine keepcell (by assumption) ?_))
  generalize W2.drew = V0 at *
  refine wpAnyH_take (i := 0) (v := ?_) rfl (by kernel_rfl) (by kernel_rfl) (by kernel_rfl) (fun _ _ _ h => h) (Or.inl ⟨by rfl, ?_⟩) hHeld ?_
  rotate_left
  · intro w hSw; (try dsimp only at hSw); go_simp; try (with_reducible rfl)
  try simp only [sq]
  refine wpAnyH_take (i := 1) (v := ?_) rfl (by kernel_rfl) (by kernel_rfl) (by kernel_rfl) (fun _ _ _ h => h) (Or.inl ⟨by rfl, ?_⟩) hHeld ?_
  rotate_left
  · intro w hSw; (try dsimp only at hSw); go_simp; try (with_reducible rfl)
  try simp only [sq]
  refine wpAnyH_take (i := 2) (v := ?_) rfl (by kernel_rfl) (by kernel_rfl) (by kernel_rfl) (fun _ _ _ h => h) (Or.inl ⟨by rfl, ?_⟩) hHeld ?_
  rotate_left
  · intro w hSw; (try dsimp only at hSw); go_simp; try (with_reducible rfl)
  try simp only [sq]
  refine wpAnyH_take (i := 3) (v := ?_) rfl (by kernel_rfl) (by kernel_rfl) (by kernel_rfl) (fun _ _ _ h => h) (Or.inl ⟨by rfl, ?_⟩) hHeld ?_
  rotate_left
  · intro w hSw; (try dsimp only at hSw); go_simp; try (with_reducible rfl)
  try simp only [sq]
  refine wpAnyH_take (i := 4) (v := ?_) rfl (by kernel_rfl) (by kernel_rfl) (by kernel_rfl) (fun _ _ _ h => h) (Or.inl ⟨by rfl, ?_⟩) hHeld ?_
  rotate_left
  · intro w hSw; (try dsimp only at hSw); go_simp; try (with_reducible rfl)
  try simp only [sq]
  refine wpAnyH_take (i := 5) (v := ?_) rfl (by kernel_rfl) (by kernel_rfl) (by kernel_rfl) (fun _ _ _ h => h) (Or.inl ⟨by rfl, ?_⟩) hHeld ?_
  rotate_left
  · intro w hSw; (try dsimp only at hSw); go_simp; try (with_reducible rfl)
  try simp only [sq]
  refine wpAnyH_take (i := 6) (v := ?_) rfl (by kernel_rfl) (by kernel_rfl) (by kernel_rfl) (fun _ _ _ h => h) (Or.inl ⟨by rfl, ?_⟩) hHeld ?_
  rotate_left
  · intro w hSw; (try dsimp only at hSw); go_simp; try (with_reducible rfl)
  try simp only [sq]
  refine wpAnyH_take (i := 7) (v := ?_) rfl (by kernel_rfl) (by kernel_rfl) (by kernel_rfl) (fun _ _ _ h => h) (Or.inl ⟨by rfl, ?_⟩) hHeld ?_
  rotate_left
  · intro w hSw; (try dsimp only at hSw); go_simp; try (with_reducible rfl)
  try simp only [sq]
  refine wpAnyH_ready (rs := [8, 12]) (by kernel_rfl) (by simp) ?_
  refine (AllReadyH.cons rfl (fun K hK => ?_) (AllReadyH.cons rfl (fun K hK => ?_) AllReadyH.nil))
  · skip
    try simp only [sq]
    go_simp
    go_at_call 72
    refine (HAP.out _ hB0).mono ?_
    rintro e y ⟨ga, gc, gx, rfl, hX, hy⟩
    replace q0 := keepcell hy q0
    replace r0 := keepcell hy r0
    replace r3 := keepcell hy r3
    replace r4 := keepcell hy r4
    have hyz := hy.size
    replace gR := keepheap2 hy gR
    have hBy := btrans hB0 hy
    go_wp2_with fail
    refine hK.out _ _ ?_ (fun hHeld => ?_)
    · (repeat' apply And.intro) <;> (with_reducible repeat (first | assumption | refine keepsetB ?_ hxq | refine keepsetB ?_ hxR | refine keepdrew ?_ | refine keepalloc ?_ _ | refine keepcell (by assumption) ?_))
    clear hK K
    try simp only [sq]
    refine wpAnyH_take (i := 9) (v := ?_) rfl (by kernel_rfl) (by kernel_rfl) (by kernel_rfl) (fun _ _ _ h => h) (Or.inl ⟨by rfl, ?_⟩) hHeld ?_
    rotate_left
    · intro w hSw; (try dsimp only at hSw); go_simp; try (with_reducible rfl)
    try simp only [sq]
    refine wpAnyH_take (i := 10) (v := ?_) rfl (by kernel_rfl) (by kernel_rfl) (by kernel_rfl) (fun _ _ _ h => h) (Or.inl ⟨by rfl, ?_⟩) hHeld ?_
    rotate_left
    · intro w hSw; (try dsimp only at hSw); go_simp; try (with_reducible rfl)
    try simp only [sq]
    refine wpAnyH_take (i := 11) (v := ?_) rfl (by kernel_rfl) (by kernel_rfl) (by kernel_rfl) (fun _ _ _ h => h) (Or.inl ⟨by rfl, ?_⟩) hHeld ?_
    rotate_left
    · intro w hSw; (try dsimp only at hSw); go_simp; try (with_reducible rfl)
    try simp only [sq]
    refine wpAnyH_ready (rs := [12]) (by kernel_rfl) (by simp) ?_
    refine (AllReadyH.cons rfl (fun K hK => ?_) AllReadyH.nil)
    try simp only [sq]
    go_simp
    refine hK.out _ _ ?_ (fun hHeld => ?_)
    · (repeat' apply And.intro) <;> (with_reducible repeat (first | assumption | refine keepsetB ?_ hxq | refine keepsetB ?_ hxR | refine keepdrew ?_ | refine keepalloc ?_ _ | refine keepcell (by assumption) ?_))
    clear hK K
    try simp only [sq]
    have gB := new_alloc y y.heap.size (.cells #[.int .i64 0, .slice none 0 0] 31) rfl
    have hal : Below y.heap.size y (y.alloc (.cells #[.int .i64 0, .slice none 0 0] 31)) := balloc (Below.refl _ _) _
    replace q0 := keepcell hal q0
    replace r0 := keepcell hal r0
    replace r3 := keepcell hal r3
    replace r4 := keepcell hal r4
    replace gR := keepheap2 hal gR
    have hBa := btrans hBy hal
    have hsa : (y.alloc (.cells #[.int .i64 0, .slice none 0 0] 31)).heap.size = y.heap.size + 1 := by simp
    have hsa1 := Nat.le_of_eq hsa
    have hsa2 := Nat.le_of_eq hsa.symm
    clear hsa
    replace hX := (hX.below hal)
    clear hal
    generalize y.alloc (.cells #[.int .i64 0, .slice none 0 0] 31) = Z at *
    obtain ⟨xb, hxb⟩ : ∃ xb, xb = y.heap.size := ⟨_, rfl⟩
    rw [← hxb] at gB ⊢
    have hxb1 := Nat.le_of_eq hxb
    have hxb2 := Nat.le_of_eq hxb.symm
    clear hxb
    refine wpAnyH_ready (rs := [13]) (by kernel_rfl) (by simp) ?_
    refine (AllReadyH.cons rfl (fun K hK => ?_) AllReadyH.nil)
    obtain ⟨v0, v1, s0, s1⟩ := cell2f gB
    have hxq : xb ≠ q := by omega
    have hxR : xb ≠ R := by omega
    try simp only [sq]
    go_simp
    refine hK.out _ _ ?_ (fun hHeld => ?_)
    · (repeat' apply And.intro) <;> (with_reducible repeat (first | assumption | refine keepsetB ?_ hxq | refine keepsetB ?_ hxR | refine keepdrew ?_ | refine keepalloc ?_ _ | refine keepcell (by assumption) ?_))
    clear hK K
    try simp only [sq]
    refine wpAnyH_take (i := 14) (v := ?_) rfl (by kernel_rfl) (by kernel_rfl) (by kernel_rfl) (fun _ _ _ h => h) (Or.inl ⟨by rfl, ?_⟩) hHeld ?_
    rotate_left
    · intro w hSw; (try dsimp only at hSw); go_simp; try (with_reducible rfl)
    try simp only [sq]
    refine wpAnyH_done (by kernel_rfl) ?_ _
    have gF := set2r gB (.int .i64 nw) (.slice ga nq gc)
    have hfar : ∀ b, b ≠ xb → ((Z.setCell ⟨xb, 0, none⟩ (.int .i64 nw)).setCell ⟨xb, 1, none⟩ (.slice ga nq gc)).heap[b]? = Z.heap[b]? := fun b hb => by rw [Below.heap_setCell _ _ _ _ (by dsimp only; omega), Below.heap_setCell _ _ _ _ (by dsimp only; omega)]
    replace gR := (hfar R (by omega)).trans gR
    have hXF := (hX.frame (w' := (Z.setCell ⟨xb, 0, none⟩ (.int .i64 nw)).setCell ⟨xb, 1, none⟩ (.slice ga nq gc)) (fun b h1 h2 => hfar b (by omega)) (by simp)).mono (base' := w.heap.size) (hi' := ((Z.setCell ⟨xb, 0, none⟩ (.int .i64 nw)).setCell ⟨xb, 1, none⟩ (.slice ga nq gc)).heap.size) (by omega) (by simp <;> omega) (Nat.le_refl _)
    have hBF := bset (bset hBa (q := xb) (k := 0) (by omega) (.int .i64 nw)) (q := xb) (k := 1) (by omega) (.slice ga nq gc)
    replace q0 := keepsetB (j := 1) (u := (.slice ga nq gc)) (keepsetB (j := 0) (u := .int .i64 nw) q0 hxq) hxq
    have HXF := hid hXF
    have HBF := hid hBF
    clear hfar hX hXF hBF gB v0 v1 s0 s1 hHeld
    generalize (Z.setCell ⟨xb, 0, none⟩ (.int .i64 nw)).setCell ⟨xb, 1, none⟩ (.slice ga nq gc) = V at *
    obtain ⟨f0, f1, _, _⟩ := cell2f gF
    obtain ⟨⟨r0', r1', r2', r3', r4'⟩, t0, t1, t2, t3, t4⟩ := cell5g gR
    have k2 := keepcell HBF.out HKF.out
    cases ab
    · go_wp2_with fail
      go_ret
      exact HNA.out _ (by first | rfl | trivial) gR HBF.out
    · go_wp2_with fail
      go_ret
      exact HYA.out _ _ _ _ (by first | rfl | trivial) gR HXF.out HBF.out
  · skip
    try simp only [sq]
    go_simp
    refine hK.out _ _ ?_ (fun hHeld => ?_)
    · (repeat' apply And.intro) <;> (with_reducible repeat (first | assumption | refine keepsetB ?_ hxq | refine keepsetB ?_ hxR | refine keepdrew ?_ | refine keepalloc ?_ _ | refine keepcell (by assumption) ?_))
    clear hK K
    try simp only [sq]
    have gB := new_alloc V0 V0.heap.size (.cells #[.int .i64 0, .slice none 0 0] 31) rfl
    have hal : Below V0.heap.size V0 (V0.alloc (.cells #[.int .i64 0, .slice none 0 0] 31)) := balloc (Below.refl _ _) _
    replace q0 := keepcell hal q0
    replace r0 := keepcell hal r0
    replace r3 := keepcell hal r3
    replace r4 := keepcell hal r4
    replace gR := keepheap2 hal gR
    have hBa := btrans hB0 hal
    have hsa : (V0.alloc (.cells #[.int .i64 0, .slice none 0 0] 31)).heap.size = V0.heap.size + 1 := by simp
    have hsa1 := Nat.le_of_eq hsa
    have hsa2 := Nat.le_of_eq hsa.symm
    clear hsa
    clear hal
    generalize V0.alloc (.cells #[.int .i64 0, .slice none 0 0] 31) = Z at *
    obtain ⟨xb, hxb⟩ : ∃ xb, xb = V0.heap.size := ⟨_, rfl⟩
    rw [← hxb] at gB ⊢
    have hxb1 := Nat.le_of_eq hxb
    have hxb2 := Nat.le_of_eq hxb.symm
    clear hxb
    refine wpAnyH_ready (rs := [8]) (by kernel_rfl) (by simp) ?_
    refine (AllReadyH.cons rfl (fun K hK => ?_) AllReadyH.nil)
    try simp only [sq]
    go_simp
    go_at_call 72
    refine (HAP.out _ hBa).mono ?_
    rintro e y ⟨ga, gc, gx, rfl, hX, hy⟩
    replace q0 := keepcell hy q0
    replace r0 := keepcell hy r0
    replace r3 := keepcell hy r3
    replace r4 := keepcell hy r4
    have hyz := hy.size
    replace gR := keepheap2 hy gR
    replace gB := keepheap2 hy gB
    have hBy := btrans hBa hy
    go_wp2_with fail
    refine hK.out _ _ ?_ (fun hHeld => ?_)
    · (repeat' apply And.intro) <;> (with_reducible repeat (first | assumption | refine keepsetB ?_ hxq | refine keepsetB ?_ hxR | refine keepdrew ?_ | refine keepalloc ?_ _ | refine keepcell (by assumption) ?_))
    clear hK K
    try simp only [sq]
    refine wpAnyH_take (i := 9) (v := ?_) rfl (by kernel_rfl) (by kernel_rfl) (by kernel_rfl) (fun _ _ _ h => h) (Or.inl ⟨by rfl, ?_⟩) hHeld ?_
    rotate_left
    · intro w hSw; (try dsimp only at hSw); go_simp; try (with_reducible rfl)
    try simp only [sq]
    refine wpAnyH_take (i := 10) (v := ?_) rfl (by kernel_rfl) (by kernel_rfl) (by kernel_rfl) (fun _ _ _ h => h) (Or.inl ⟨by rfl, ?_⟩) hHeld ?_
    rotate_left
    · intro w hSw; (try dsimp only at hSw); go_simp; try (with_reducible rfl)
    try simp only [sq]
    refine wpAnyH_take (i := 11) (v := ?_) rfl (by kernel_rfl) (by kernel_rfl) (by kernel_rfl) (fun _ _ _ h => h) (Or.inl ⟨by rfl, ?_⟩) hHeld ?_
    rotate_left
    · intro w hSw; (try dsimp only at hSw); go_simp; try (with_reducible rfl)
    try simp only [sq]
    refine wpAnyH_ready (rs := [13]) (by kernel_rfl) (by simp) ?_
    refine (AllReadyH.cons rfl (fun K hK => ?_) AllReadyH.nil)
    obtain ⟨v0, v1, s0, s1⟩ := cell2f gB
    have hxq : xb ≠ q := by omega
    have hxR : xb ≠ R := by omega
    try simp only [sq]
    go_simp
    refine hK.out _ _ ?_ (fun hHeld => ?_)
    · (repeat' apply And.intro) <;> (with_reducible repeat (first | assumption | refine keepsetB ?_ hxq | refine keepsetB ?_ hxR | refine keepdrew ?_ | refine keepalloc ?_ _ | refine keepcell (by assumption) ?_))
    clear hK K
    try simp only [sq]
    refine wpAnyH_take (i := 14) (v := ?_) rfl (by kernel_rfl) (by kernel_rfl) (by kernel_rfl) (fun _ _ _ h => h) (Or.inl ⟨by rfl, ?_⟩) hHeld ?_
    rotate_left
    · intro w hSw; (try dsimp only at hSw); go_simp; try (with_reducible rfl)
    try simp only [sq]
    refine wpAnyH_done (by kernel_rfl) ?_ _
    have gF := set2r gB (.int .i64 nw) (.slice ga nq gc)
    have hfar : ∀ b, b ≠ xb → ((y.setCell ⟨xb, 0, none⟩ (.int .i64 nw)).setCell ⟨xb, 1, none⟩ (.slice ga nq gc)).heap[b]? = y.heap[b]? := fun b hb => by rw [Below.heap_setCell _ _ _ _ (by dsimp only; omega), Below.heap_setCell _ _ _ _ (by dsimp only; omega)]
    replace gR := (hfar R (by omega)).trans gR
    have hXF := (hX.frame (w' := (y.setCell ⟨xb, 0, none⟩ (.int .i64 nw)).setCell ⟨xb, 1, none⟩ (.slice ga nq gc)) (fun b h1 h2 => hfar b (by omega)) (by simp)).mono (base' := w.heap.size) (hi' := ((y.setCell ⟨xb, 0, none⟩ (.int .i64 nw)).setCell ⟨xb, 1, none⟩ (.slice ga nq gc)).heap.size) (by omega) (by simp <;> omega) (Nat.le_refl _)
    have hBF := bset (bset hBy (q := xb) (k := 0) (by omega) (.int .i64 nw)) (q := xb) (k := 1) (by omega) (.slice ga nq gc)
    replace q0 := keepsetB (j := 1) (u := (.slice ga nq gc)) (keepsetB (j := 0) (u := .int .i64 nw) q0 hxq) hxq
    have HXF := hid hXF
    have HBF := hid hBF
    clear hfar hX hXF hBF gB v0 v1 s0 s1 hHeld
    generalize (y.setCell ⟨xb, 0, none⟩ (.int .i64 nw)).setCell ⟨xb, 1, none⟩ (.slice ga nq gc) = V at *
    obtain ⟨f0, f1, _, _⟩ := cell2f gF
    obtain ⟨⟨r0', r1', r2', r3', r4'⟩, t0, t1, t2, t3, t4⟩ := cell5g gR
    have k2 := keepcell HBF.out HKF.out
    cases ab
    · go_wp2_with fail
      go_ret
      exact HNA.out _ (by first | rfl | trivial) gR HBF.out
    · go_wp2_with fail
      go_ret
      exact HYA.out _ _ _ _ (by first | rfl | trivial) gR HXF.out HBF.out
end Go.Proofs.YtkdoigibpaempaaGreatDoor
namespace Go.Proofs.YtkdoigibpaempaaGreatDoor
open Go.RowKit
def ChO (hi : Nat) (w : World) (B o : Nat) (x : Ch) : Prop := ∃ c, w.cell? ⟨B, o + 3, none⟩ = some (.slice (some ⟨c, 0, none⟩) x.2.2.2.length x.2.2.2.length) ∧ B < c ∧ c < hi ∧ w.there c 0 (x.2.2.2.length * 2)
def ChsO (hi : Nat) (w : World) (B : Nat) (xs : List Ch) : Prop := w.there B 0 (xs.length * 4) ∧ ∀ j (h : j < xs.length), ChO hi w B (j * 4) xs[j]
def TxO (hi : Nat) (w : World) (B o : Nat) (x : Tx) (c : Nat) : Prop := w.cell? ⟨B, o + 2, none⟩ = some (.slice (some ⟨c, 0, none⟩) x.2.2.length x.2.2.length) ∧ B < c ∧ c < hi ∧ ChsO hi w c x.2.2
def TxsO (hi : Nat) (w : World) (B : Nat) (xs : List Tx) : Prop := w.there B 0 (xs.length * 3) ∧ ∃ c h : Nat → Nat, (∀ j (hj : j < xs.length), TxO (h j) w B (j * 3) xs[j] (c j) ∧ h j ≤ hi) ∧ ∀ i j, i < j → j < xs.length → h i ≤ c j
theorem ChO.below {hi : Nat} {w w' : World} {B o : Nat} {x : Ch} (h : ChO hi w B o x) (hh : hi ≤ w.heap.size) (H : Below w.heap.size w w') : ChO hi w' B o x := by
  obtain ⟨c, h0, h1, h2, h3⟩ := h
  exact ⟨c, keepcell H h0, h1, h2, there_below h3 (by omega) H⟩
theorem ChO.mono {hi hi' : Nat} {w : World} {B o : Nat} {x : Ch} (h : ChO hi w B o x) (hh : hi ≤ hi') : ChO hi' w B o x := by
  obtain ⟨c, h0, h1, h2, h3⟩ := h
  exact ⟨c, h0, h1, by omega, h3⟩
theorem ChO.set {hi : Nat} {w : World} {B o q k : Nat} {x : Ch} (h : ChO hi w B o x) (hq : q ≠ B ∨ k ≠ o + 3) (u : Value) : ChO hi (w.setCell ⟨q, k, none⟩ u) B o x := by
  obtain ⟨c, h0, h1, h2, h3⟩ := h
  refine ⟨c, ?_, h1, h2, there_set h3 _⟩
  rw [World.cell?_setCell_other _ _ _ _ (by intro e; injection e; omega)]
  exact h0
theorem ChsO.below {hi : Nat} {w w' : World} {B : Nat} {xs : List Ch} (h : ChsO hi w B xs) (hb : B < w.heap.size) (hh : hi ≤ w.heap.size) (H : Below w.heap.size w w') : ChsO hi w' B xs := ⟨there_below h.1 hb H, fun j hj => (h.2 j hj).below hh H⟩
theorem ChsO.set {hi : Nat} {w : World} {B q k : Nat} {xs : List Ch} (h : ChsO hi w B xs) (hq : q ≠ B) (u : Value) : ChsO hi (w.setCell ⟨q, k, none⟩ u) B xs := ⟨there_set h.1 _, fun j hj => (h.2 j hj).set (.inl hq) u⟩
theorem TxO.below {hi : Nat} {w w' : World} {B o c : Nat} {x : Tx} (h : TxO hi w B o x c) (hh : hi ≤ w.heap.size) (H : Below w.heap.size w w') : TxO hi w' B o x c := by
  obtain ⟨h0, h1, h2, h3⟩ := h
  exact ⟨keepcell H h0, h1, h2, h3.below (by omega) hh H⟩
theorem TxO.set {hi : Nat} {w : World} {B o q k c : Nat} {x : Tx} (h : TxO hi w B o x c) (hq : q < B ∨ (q = B ∧ k ≠ o + 2)) (u : Value) : TxO hi (w.setCell ⟨q, k, none⟩ u) B o x c := by
  obtain ⟨h0, h1, h2, h3⟩ := h
  refine ⟨?_, h1, h2, h3.set (by omega) _⟩
  rw [World.cell?_setCell_other _ _ _ _ (by intro e; injection e; omega)]
  exact h0
theorem TxsO.below {hi : Nat} {w w' : World} {B : Nat} {xs : List Tx} (h : TxsO hi w B xs) (hb : B < w.heap.size) (hh : hi ≤ w.heap.size) (H : Below w.heap.size w w') : TxsO hi w' B xs := by
  obtain ⟨h1, c, f, h2, h3⟩ := h
  exact ⟨there_below h1 hb H, c, f, fun j hj => ⟨(h2 j hj).1.below (by have := (h2 j hj).2; omega) H, (h2 j hj).2⟩, h3⟩
theorem TxsO.set {hi : Nat} {w : World} {B q k : Nat} {xs : List Tx} (h : TxsO hi w B xs) (hq : q < B) (u : Value) : TxsO hi (w.setCell ⟨q, k, none⟩ u) B xs := by
  obtain ⟨h1, c, f, h2, h3⟩ := h
  exact ⟨there_set h1 _, c, f, fun j hj => ⟨(h2 j hj).1.set (.inl hq) u, (h2 j hj).2⟩, h3⟩
end Go.Proofs.YtkdoigibpaempaaGreatDoor
