/- Texts of stores, joined: Zal, Zam, Zan, Vh, Sg. -/
import Derived.Test.YtnajddjalagmoaaGreatDoorC7
import Derived.Test.YtnajddjalagmoaaGreatDoorC6
import Derived.Test.YtnajddjalagmoaaGreatDoorC4
import Derived.Test.YtnajddjalagmoaaGreatDoorC1
namespace Go.Proofs.YtnajddjalagmoaaGreatDoor
open Go.RowKit
set_option linter.unusedSimpArgs false
set_option linter.unusedVariables false
def ctX (rs : List Rw) (ts : List Tx) (m : Nat) (id : Int) : List Tx := if h : m < ts.length then (if seB rs ts[m].2.2 id ts[m].1 = true then ts.set m (ts[m].1, ts[m].2.1, putC ts[m].2.2 (id, true, 0, [])) else ts) else ts
def ctB (rs : List Rw) (ts : List Tx) (m : Nat) (id : Int) : Bool := if h : m < ts.length then seB rs ts[m].2.2 id ts[m].1 else false
/-- The transactions behind a cut. -/
def ctT (now : Int) (rs : List Rw) (ts : List Tx) (n id : Int) : List Tx := if opn now rs ts n = true then ctX rs ts n.toNat id else ts
def ctN (now : Int) (rs : List Rw) (ts : List Tx) (n id : Int) : Int := if opn now rs ts n = true then (if ctB rs ts n.toNat id = true then 0 else 3) else 1
theorem ctX_len (rs : List Rw) (ts : List Tx) (m : Nat) (id : Int) : (ctX rs ts m id).length = ts.length := by
  unfold ctX
  split
  · split
    · rw [List.length_set]
    · rfl
  · rfl
theorem ctB_at {rs : List Rw} {ts : List Tx} {m : Nat} {id : Int} (h : m < ts.length) : ctB rs ts m id = seB rs ts[m].2.2 id ts[m].1 := by unfold ctB; rw [dif_pos h]
theorem ctX_yes {rs : List Rw} {ts : List Tx} {m : Nat} {id : Int} (h : m < ts.length) (hp : seB rs ts[m].2.2 id ts[m].1 = true) : ctX rs ts m id = ts.set m (ts[m].1, ts[m].2.1, putC ts[m].2.2 (id, true, 0, [])) := by
  unfold ctX; rw [dif_pos h, if_pos hp]
theorem ctX_no {rs : List Rw} {ts : List Tx} {m : Nat} {id : Int} (h : m < ts.length) (hp : seB rs ts[m].2.2 id ts[m].1 = false) : ctX rs ts m id = ts := by
  unfold ctX; rw [dif_pos h, if_neg (by simp [hp])]
set_option maxRecDepth 100000 in
set_option maxHeartbeats 1000000 in
theorem cut_clo (R bi : Nat) (id : Int) (w : World) (Post : Value → World → Prop) (g1 : w.cell? ⟨bi, 0, none⟩ = some (.int .i64 id)) (h : Calls Tryz.prog 43 #[.pointer (some ⟨R, 0, none⟩), .int .i64 id] w fun e w' => ∃ v, e = .returned v ∧ Post v w') : Calls Tryz.prog 42 #[.pointer (some ⟨R, 0, none⟩), .pointer (some ⟨bi, 0, none⟩)] w fun e w' => ∃ v, e = .returned v ∧ Post v w' := by
  have H := hid h
  clear h
  go_enter Tryz.func42, Tryz.ntmps42
  go_wp2_with fail
  refine H.out.mono ?_
  rintro e z ⟨v, rfl, hp⟩
  have HP := hid hp
  clear hp
  go_wp2_with fail
  go_ret
  exact ⟨_, rfl, HP.out⟩
set_option maxRecDepth 100000 in
set_option maxHeartbeats 1000000 in
/-- A cut of what is not seen. -/
theorem cut_bad (R : Nat) (id st now : Int) (op : Bool) (ca ra : Option Addr) (cn cc rn rc : Nat) (K : Int) (Pp : List (Int × Int)) (na : Addr) (w : World) (gR : w.heap[R]? = some (.cells #[.slice ca cn cc, .int .i64 st, .bool op, .int .i64 now, .slice ra rn rc] 104 (0, 0))) (hg : w.cell? ⟨2, 0, none⟩ = some (.iface 247 (.pointer (some na)))) (hs : ∀ W, Below w.heap.size w W → Calls Tryz.prog 73 #[.agg #[.slice ca cn cc, .int .i64 st, .bool op, .int .i64 now, .slice ra rn rc], .int .i64 id] W fun e w' => SA W K Pp false e w') : Calls Tryz.prog 43 #[.pointer (some ⟨R, 0, none⟩), .int .i64 id] w fun e w' => e = .returned (.iface 111 (.agg #[.int .i64 3, .iface 247 (.pointer (some na))])) ∧ Below w.heap.size w w' := by
  have HS := hid hs
  clear hs
  obtain ⟨⟨d0, d1, d2, d3, d4⟩, _⟩ := cell5g gR
  go_enter Tryz.func43, Tryz.ntmps43
  go_wp2_with fail
  refine (HS.out _ (Below.refl _ _)).mono ?_
  rintro e y hsa
  obtain ⟨a', cap', he, ho, hy⟩ := hsa
  subst he
  have hgy := keepcell hy hg
  have hB := balloc hy (.cells #[.int .i64 K, .slice a' Pp.length cap'] 44)
  have hgz := keepalloc hgy (.cells #[.int .i64 K, .slice a' Pp.length cap'] 44)
  clear ho hy d0 d1 d2 d3 d4 hgy
  generalize Pp.length = pn at *
  go_wp2_with fail
  go_ret
  exact ⟨rfl, hB⟩
set_option maxRecDepth 100000 in
set_option maxHeartbeats 1000000 in
/-- A cut of what is seen. -/
theorem cut_do (R : Nat) (id st now : Int) (op : Bool) (ca ra : Option Addr) (cn cc rn rc : Nat) (K : Int) (Pp : List (Int × Int)) (w : World) (Post : World → Prop) (gR : w.heap[R]? = some (.cells #[.slice ca cn cc, .int .i64 st, .bool op, .int .i64 now, .slice ra rn rc] 104 (0, 0))) (hs : ∀ W, Below w.heap.size w W → Calls Tryz.prog 73 #[.agg #[.slice ca cn cc, .int .i64 st, .bool op, .int .i64 now, .slice ra rn rc], .int .i64 id] W fun e w' => SA W K Pp true e w') (h4 : ∀ (W : World), Below w.heap.size w W → Calls Tryz.prog 63 #[.pointer (some ⟨R, 0, none⟩), .agg #[.int .i64 id, .bool true, .int .i64 0, .slice none 0 0]] W fun e w' => e = .returned (.tuple #[]) ∧ Post w') : Calls Tryz.prog 43 #[.pointer (some ⟨R, 0, none⟩), .int .i64 id] w fun e w' => e = .returned .nilIface ∧ Post w' := by
  have HS := hid hs
  have H4 := hid h4
  clear hs h4
  obtain ⟨⟨d0, d1, d2, d3, d4⟩, _⟩ := cell5g gR
  go_enter Tryz.func43, Tryz.ntmps43
  go_wp2_with fail
  refine (HS.out _ (Below.refl _ _)).mono ?_
  rintro e y hsa
  obtain ⟨a', cap', he, ho, hy⟩ := hsa
  subst he
  have hB := balloc hy (.cells #[.int .i64 K, .slice a' Pp.length cap'] 44)
  clear ho hy d0 d1 d2 d3 d4
  generalize Pp.length = pn at *
  go_wp2_with fail
  refine (H4.out _ hB).mono ?_
  rintro e z ⟨rfl, hp⟩
  have HP := hid hp
  clear hp
  go_wp2_with fail
  go_ret
  exact ⟨rfl, HP.out⟩
set_option maxRecDepth 100000 in
set_option maxHeartbeats 4000000 in
theorem do_pc (now st code : Int) (op : Bool) (a ca : Option Addr) (rn cap tg tn tcc P m cn cc bi : Nat) (w : World) (Post : World → Option Addr → Nat → Nat → Prop) (htm : tn ≤ 1099511627776) (hm : m < tn) (hPt : P ≠ tg) (htw : tg < w.heap.size) (gP : w.heap[P]? = some (.cells #[.int .i64 now, .slice a rn cap, .slice (some ⟨tg, 0, none⟩) tn tcc] 38 (0, 0))) (k0 : w.cell? ⟨tg, 0 + m * 3, none⟩ = some (.int .i64 st)) (k1 : w.cell? ⟨tg, 0 + m * 3 + 1, none⟩ = some (.bool op)) (k2 : w.cell? ⟨tg, 0 + m * 3 + 2, none⟩ = some (.slice ca cn cc)) (z0 : w.frozen? ⟨tg, m * 3, none⟩ = false) (z1 : w.frozen? ⟨tg, m * 3 + 1, none⟩ = false) (z2 : w.frozen? ⟨tg, m * 3 + 2, none⟩ = false) (hst : (∀ (Y : World) (R : Nat), Below w.heap.size w Y → w.heap.size ≤ R → Y.heap[R]? = some (.cells #[.slice ca cn cc, .int .i64 st, .bool op, .int .i64 now, .slice a rn cap] 104 (0, 0)) → Calls Tryz.prog 42 #[.pointer (some ⟨R, 0, none⟩), .pointer (some ⟨bi, 0, none⟩)] Y fun e z => ∃ v na nn nc, e = .returned v ∧ v.oneCell' = true ∧ z.heap[R]? = some (.cells #[.slice na nn nc, .int .i64 st, .bool op, .int .i64 now, .slice a rn cap] 104 (0, 0)) ∧ z.heap[P]? = Y.heap[P]? ∧ z.heap[tg]? = Y.heap[tg]? ∧ Y.heap.size ≤ z.heap.size ∧ (∀ Z : World, Below z.heap.size z Z ∨ (∀ b, b ≠ P → b ≠ tg → Z.heap[b]? = z.heap[b]?) → Calls Tryz.prog 59 #[v] Z fun e w' => e = .returned (.int .i64 code) ∧ Below Z.heap.size Z w') ∧ Post z na nn nc)) : Calls Tryz.prog 60 #[.pointer (some ⟨P, 0, none⟩), .int .i64 m, .func (.func 42) #[] #[.pointer (some ⟨bi, 0, none⟩)]] w fun e w' => e = .returned (.int .i64 code) ∧ ∃ Z na nn nc, Post Z na nn nc ∧ w'.heap[P]? = w.heap[P]? ∧ (∀ b, b < Z.heap.size → b ≠ P → b ≠ tg → w'.heap[b]? = Z.heap[b]?) ∧ w'.heap[tg]? = (((Z.setCell ⟨tg, m * 3, none⟩ (.int .i64 st)).setCell ⟨tg, m * 3 + 1, none⟩ (.bool op)).setCell ⟨tg, m * 3 + 2, none⟩ (.slice na nn nc)).heap[tg]? ∧ Z.heap.size ≤ w'.heap.size ∧ (w'.os = Z.os ∧ w'.tape = Z.tape ∧ w'.output = Z.output) := by
  have gP0 := gP
  have HST := hid hst
  have HAW := hid (atwork_c now a ca rn cap tg 0 tn tcc m cn cc st op w hm htm k0 k1 k2)
  have HK : Hid (∀ z : World, z.heap[tg]? = w.heap[tg]? → (z.cell? ⟨tg, m * 3, none⟩ = some (.int .i64 st) ∧ z.cell? ⟨tg, m * 3 + 1, none⟩ = some (.bool op) ∧ z.cell? ⟨tg, m * 3 + 2, none⟩ = some (.slice ca cn cc)) ∧ z.frozen? ⟨tg, m * 3, none⟩ = false ∧ z.frozen? ⟨tg, m * 3 + 1, none⟩ = false ∧ z.frozen? ⟨tg, m * 3 + 2, none⟩ = false) := hid (fun z hz => by
    rw [Nat.zero_add] at k0 k1 k2
    refine ⟨⟨(World.cell?_of_block hz).trans k0, (World.cell?_of_block hz).trans k1, (World.cell?_of_block hz).trans k2⟩, (World.frozen?_of_block hz).trans z0, (World.frozen?_of_block hz).trans z1, (World.frozen?_of_block hz).trans z2⟩)
  clear k0 k1 k2 z0 z1 z2 hst
  have hPs := lt_of_block gP
  have c0 : (m : Int) < (tn : Int) := by omega
  go_enter Tryz.func60, Tryz.ntmps60
  obtain ⟨⟨d0, d1, d2⟩, _⟩ := cellk3 gP
  go_wp2_with fail
  refine HAW.out.mono ?_
  rintro e y ⟨rfl, hy⟩
  replace gP := keepheapA hy gP
  have hyz := hy.size
  clear d0 d1 d2 HAW
  go_upto_region 2 with fail
  have gR := new_alloc y y.heap.size (.cells #[.slice ca cn cc, .int .i64 st, .bool op, .int .i64 now, .slice a rn cap] 104) rfl
  have hal : Below y.heap.size y (y.alloc (.cells #[.slice ca cn cc, .int .i64 st, .bool op, .int .i64 now, .slice a rn cap] 104)) := balloc (Below.refl _ _) _
  replace gP := keepheapA hal gP
  have hB := btrans hy hal
  clear hal hy
  generalize y.alloc (.cells #[.slice ca cn cc, .int .i64 st, .bool op, .int .i64 now, .slice a rn cap] 104) = Y at *
  have hRl := lt_of_block gR
  generalize y.heap.size = R at *
  go_wp2_with fail
  refine (HST.out Y R hB (by omega) gR).mono ?_
  rintro e z ⟨v, na, nn, nc, rfl, hv, gR2, hzP, hzt, hzs, hcd, hpost⟩
  have HCD := hid hcd
  have HPO := hid hpost
  have gT := hzt.trans (hB.block tg htw)
  replace gP := hzP.trans gP
  clear hcd hpost hzP hzt gR HST
  obtain ⟨⟨f0, f1, f2, f3, f4⟩, _⟩ := cell5g gR2
  obtain ⟨⟨d0, d1, d2⟩, p0, p1, p2⟩ := cellk3 gP
  go_upto_region 4 with fail
  have gP1 : ((z.setCell ⟨P, 0, none⟩ (.int .i64 now)).setCell ⟨P, 1, none⟩ (.slice a rn cap)).heap[P]? = some (.cells #[.int .i64 now, .slice a rn cap, .slice (some ⟨tg, 0, none⟩) tn tcc] 38 (0, 0)) := set_at (k := 1) (u := .slice a rn cap) (set_at (k := 0) (u := .int .i64 now) gP)
  have hfar : ∀ b, b ≠ P → ((z.setCell ⟨P, 0, none⟩ (.int .i64 now)).setCell ⟨P, 1, none⟩ (.slice a rn cap)).heap[b]? = z.heap[b]? := fun b hb => by rw [Below.heap_setCell _ _ _ _ (by dsimp only; omega), Below.heap_setCell _ _ _ _ (by dsimp only; omega)]
  have gR3 := (hfar R (by omega)).trans gR2
  have HFR := hid hfar
  have HEQ : Hid (((z.setCell ⟨P, 0, none⟩ (.int .i64 now)).setCell ⟨P, 1, none⟩ (.slice a rn cap)).os = z.os ∧ ((z.setCell ⟨P, 0, none⟩ (.int .i64 now)).setCell ⟨P, 1, none⟩ (.slice a rn cap)).tape = z.tape ∧ ((z.setCell ⟨P, 0, none⟩ (.int .i64 now)).setCell ⟨P, 1, none⟩ (.slice a rn cap)).output = z.output) := hid ⟨rfl, rfl, rfl⟩
  have hs1 : ((z.setCell ⟨P, 0, none⟩ (.int .i64 now)).setCell ⟨P, 1, none⟩ (.slice a rn cap)).heap.size = z.heap.size := by simp
  clear hfar gP gR2 d0 d1 d2 p0 p1 p2 f0 f1 f2 f3 f4
  generalize ((z.setCell ⟨P, 0, none⟩ (.int .i64 now)).setCell ⟨P, 1, none⟩ (.slice a rn cap)) = V at *
  refine wp_region_held_drew (S := (fun w' => w'.heap[P]? = some (.cells #[.int .i64 now, .slice a rn cap, .slice (some ⟨tg, 0, none⟩) tn tcc] 38 (0, 0)) ∧ w'.heap[R]? = some (.cells #[.slice na nn nc, .int .i64 st, .bool op, .int .i64 now, .slice a rn cap] 104 (0, 0)))) (by kernel_rfl) ?_ (fun hHeld => ?_)
  · exact ⟨gP1, gR3⟩
  replace gP1 : V.drew.heap[P]? = some (.cells #[.int .i64 now, .slice a rn cap, .slice (some ⟨tg, 0, none⟩) tn tcc] 38 (0, 0)) := gP1
  replace gR3 : V.drew.heap[R]? = some (.cells #[.slice na nn nc, .int .i64 st, .bool op, .int .i64 now, .slice a rn cap] 104 (0, 0)) := gR3
  replace HFR : Hid (∀ b, b ≠ P → V.drew.heap[b]? = z.heap[b]?) := hid HFR.out
  replace HEQ : Hid (V.drew.os = z.os ∧ V.drew.tape = z.tape ∧ V.drew.output = z.output) := hid HEQ.out
  replace hs1 : V.drew.heap.size = z.heap.size := hs1
  generalize V.drew = VD at *
  obtain ⟨⟨q0, q1, q2⟩, p0, p1, p2⟩ := HK.out VD ((HFR.out tg (by omega)).trans gT)
  have hs1a := Nat.le_of_eq hs1
  have hs1b := Nat.le_of_eq hs1.symm
  clear hs1
  refine wpAnyH_take (i := 0) (v := ?_) rfl (by kernel_rfl) (by kernel_rfl) (by kernel_rfl) (fun _ _ _ h => h) (Or.inl ⟨by rfl, ?_⟩) hHeld ?_
  rotate_left
  · intro w' hSw; (try dsimp only at hSw); go_simp; try (with_reducible rfl)
  try simp only [sq]
  refine wpAnyH_take (i := 1) (v := ?_) rfl (by kernel_rfl) (by kernel_rfl) (by kernel_rfl) (fun _ _ _ h => h) (Or.inl ⟨by rfl, ?_⟩) hHeld ?_
  rotate_left
  · intro w' hSw; (try dsimp only at hSw); go_simp; try (with_reducible rfl)
  try simp only [sq]
  refine wpAnyH_take (i := 2) (v := ?_) rfl (by kernel_rfl) (by kernel_rfl) (by kernel_rfl) (fun _ _ _ h => h) (Or.inl ⟨by rfl, ?_⟩) hHeld ?_
  rotate_left
  · intro w' hSw; (try dsimp only at hSw); go_simp; try (with_reducible rfl)
  try simp only [sq]
  refine wpAnyH_take (i := 3) (v := ?_) rfl (by kernel_rfl) (by kernel_rfl) (by kernel_rfl) (fun _ _ _ h => h) (Or.inl ⟨by rfl, ?_⟩) hHeld ?_
  rotate_left
  · intro w' hSw; (try dsimp only at hSw); obtain ⟨⟨_, _, _⟩, _⟩ := cellk3 hSw.1; obtain ⟨⟨_, _, _, _, _⟩, _⟩ := cell5g hSw.2; go_simp; try (with_reducible rfl)
  try simp only [sq]
  refine wpAnyH_take (i := 4) (v := ?_) rfl (by kernel_rfl) (by kernel_rfl) (by kernel_rfl) (fun _ _ _ h => h) (Or.inl ⟨by rfl, ?_⟩) hHeld ?_
  rotate_left
  · intro w' hSw; (try dsimp only at hSw); go_simp; try (with_reducible rfl)
  try simp only [sq]
  refine wpAnyH_take (i := 5) (v := ?_) rfl (by kernel_rfl) (by kernel_rfl) (by kernel_rfl) (fun _ _ _ h => h) (Or.inl ⟨by rfl, ?_⟩) hHeld ?_
  rotate_left
  · intro w' hSw; (try dsimp only at hSw); go_simp; try (with_reducible rfl)
  try simp only [sq]
  refine wpAnyH_take (i := 6) (v := ?_) rfl (by kernel_rfl) (by kernel_rfl) (by kernel_rfl) (fun _ _ _ h => h) (Or.inl ⟨by rfl, ?_⟩) hHeld ?_
  rotate_left
  · intro w' hSw; (try dsimp only at hSw); obtain ⟨⟨_, _, _⟩, _⟩ := cellk3 hSw.1; obtain ⟨⟨_, _, _, _, _⟩, _⟩ := cell5g hSw.2; go_simp; try (with_reducible rfl)
  try simp only [sq]
  refine wpAnyH_take (i := 7) (v := ?_) rfl (by kernel_rfl) (by kernel_rfl) (by kernel_rfl) (fun _ _ _ h => h) (Or.inl ⟨by rfl, ?_⟩) hHeld ?_
  rotate_left
  · intro w' hSw; (try dsimp only at hSw); go_simp; try (with_reducible rfl)
  try simp only [sq]
  refine wpAnyH_take (i := 8) (v := ?_) rfl (by kernel_rfl) (by kernel_rfl) (by kernel_rfl) (fun _ _ _ h => h) (Or.inl ⟨by rfl, ?_⟩) hHeld ?_
  rotate_left
  · intro w' hSw; (try dsimp only at hSw); obtain ⟨⟨_, _, _⟩, _⟩ := cellk3 hSw.1; obtain ⟨⟨_, _, _, _, _⟩, _⟩ := cell5g hSw.2; go_simp; try (with_reducible rfl)
  try simp only [sq]
  refine wpAnyH_take (i := 9) (v := ?_) rfl (by kernel_rfl) (by kernel_rfl) (by kernel_rfl) (fun _ _ _ h => h) (Or.inl ⟨by rfl, ?_⟩) hHeld ?_
  rotate_left
  · intro w' hSw; (try dsimp only at hSw); go_simp; try (with_reducible rfl)
  try simp only [sq]
  refine wpAnyH_take (i := 10) (v := ?_) rfl (by kernel_rfl) (by kernel_rfl) (by kernel_rfl) (fun _ _ _ h => h) (Or.inl ⟨by rfl, ?_⟩) hHeld ?_
  rotate_left
  · intro w' hSw; (try dsimp only at hSw); obtain ⟨⟨_, _, _⟩, _⟩ := cellk3 hSw.1; obtain ⟨⟨_, _, _, _, _⟩, _⟩ := cell5g hSw.2; go_simp; try (with_reducible rfl)
  try simp only [sq]
  refine wpAnyH_take (i := 11) (v := ?_) rfl (by kernel_rfl) (by kernel_rfl) (by kernel_rfl) (fun _ _ _ h => h) (Or.inl ⟨by rfl, ?_⟩) hHeld ?_
  rotate_left
  · intro w' hSw; (try dsimp only at hSw); go_simp; try (with_reducible rfl)
  try simp only [sq]
  refine wpAnyH_take (i := 12) (v := ?_) rfl (by kernel_rfl) (by kernel_rfl) (by kernel_rfl) (fun _ _ _ h => h) (Or.inl ⟨by rfl, ?_⟩) hHeld ?_
  rotate_left
  · intro w' hSw; (try dsimp only at hSw); go_simp; try (with_reducible rfl)
  try simp only [sq]
  refine wpAnyH_ready (rs := [13]) (by kernel_rfl) (by simp) ?_
  refine AllReadyH.cons rfl (fun K hK => ?_) AllReadyH.nil
  try simp only [sq]
  go_simp
  have hfar2 : ∀ b, b ≠ tg → (((VD.setCell ⟨tg, m * 3, none⟩ (.int .i64 st)).setCell ⟨tg, m * 3 + 1, none⟩ (.bool op)).setCell ⟨tg, m * 3 + 2, none⟩ (.slice na nn nc)).heap[b]? = VD.heap[b]? := fun b hb => by rw [Below.heap_setCell _ _ _ _ (by dsimp only; omega), Below.heap_setCell _ _ _ _ (by dsimp only; omega), Below.heap_setCell _ _ _ _ (by dsimp only; omega)]
  replace gP1 := (hfar2 P (by omega)).trans gP1
  replace gR3 := (hfar2 R (by omega)).trans gR3
  have HTG : Hid ((((VD.setCell ⟨tg, m * 3, none⟩ (.int .i64 st)).setCell ⟨tg, m * 3 + 1, none⟩ (.bool op)).setCell ⟨tg, m * 3 + 2, none⟩ (.slice na nn nc)).heap[tg]? = (((z.setCell ⟨tg, m * 3, none⟩ (.int .i64 st)).setCell ⟨tg, m * 3 + 1, none⟩ (.bool op)).setCell ⟨tg, m * 3 + 2, none⟩ (.slice na nn nc)).heap[tg]?) := hid (set_cong (set_cong (set_cong (HFR.out tg (by omega)))))
  have hs2 : (((VD.setCell ⟨tg, m * 3, none⟩ (.int .i64 st)).setCell ⟨tg, m * 3 + 1, none⟩ (.bool op)).setCell ⟨tg, m * 3 + 2, none⟩ (.slice na nn nc)).heap.size = VD.heap.size := by simp
  have hs2b := Nat.le_of_eq hs2.symm
  replace HFR : Hid (∀ b, b ≠ P → b ≠ tg → (((VD.setCell ⟨tg, m * 3, none⟩ (.int .i64 st)).setCell ⟨tg, m * 3 + 1, none⟩ (.bool op)).setCell ⟨tg, m * 3 + 2, none⟩ (.slice na nn nc)).heap[b]? = z.heap[b]?) := hid (fun b h2 h3 => (hfar2 b h3).trans (HFR.out b h2))
  replace HEQ : Hid ((((VD.setCell ⟨tg, m * 3, none⟩ (.int .i64 st)).setCell ⟨tg, m * 3 + 1, none⟩ (.bool op)).setCell ⟨tg, m * 3 + 2, none⟩ (.slice na nn nc)).os = z.os ∧ (((VD.setCell ⟨tg, m * 3, none⟩ (.int .i64 st)).setCell ⟨tg, m * 3 + 1, none⟩ (.bool op)).setCell ⟨tg, m * 3 + 2, none⟩ (.slice na nn nc)).tape = z.tape ∧ (((VD.setCell ⟨tg, m * 3, none⟩ (.int .i64 st)).setCell ⟨tg, m * 3 + 1, none⟩ (.bool op)).setCell ⟨tg, m * 3 + 2, none⟩ (.slice na nn nc)).output = z.output) := hid HEQ.out
  refine hK.out _ _ ?_ (fun hHeld => ?_)
  · exact ⟨gP1, gR3⟩
  clear hK K
  try simp only [sq]
  refine wpAnyH_done (by kernel_rfl) ?_ _
  clear hHeld q0 q1 q2 p0 p1 p2 hfar2 hs2 gR3
  generalize (((VD.setCell ⟨tg, m * 3, none⟩ (.int .i64 st)).setCell ⟨tg, m * 3 + 1, none⟩ (.bool op)).setCell ⟨tg, m * 3 + 2, none⟩ (.slice na nn nc)) = F at *
  go_wp2_with fail
  refine (HCD.out _ (.inr HFR.out)).mono ?_
  rintro e x ⟨rfl, hx⟩
  have hxs := hx.size
  have HF1 := hid ((keepheapA hx gP1).trans gP0.symm)
  have HF2 := hid ((hx.block tg (by omega)).trans HTG.out)
  have HF3 : Hid (∀ b, b < z.heap.size → b ≠ P → b ≠ tg → x.heap[b]? = z.heap[b]?) := hid (fun b h1 h2 h3 => (hx.block b (by omega)).trans (HFR.out b h2 h3))
  have HF4 : Hid (x.os = z.os ∧ x.tape = z.tape ∧ x.output = z.output) := hid ⟨hx.os.trans HEQ.out.1, hx.tape.trans HEQ.out.2.1, hx.output.trans HEQ.out.2.2⟩
  have hzx : z.heap.size ≤ x.heap.size := by omega
  clear hx gP1
  go_wp2_with fail
  go_ret
  exact ⟨rfl, z, na, nn, nc, HPO.out, HF1.out, HF3.out, HF2.out, hzx, HF4.out⟩
/-- do, when the step has left the changes of its transaction as PD tells. -/
theorem do_qc (now code : Int) (rn c tg tcc b2 u2 P m g bi : Nat) (ts : List Tx) (px : List (Tx × Value)) (W : World) (htm : ts.length ≤ 1099511627776) (hmt : m < ts.length) (hu : u2 ≤ P) (gP : W.heap[P]? = some (.cells #[.int .i64 now, .slice (some ⟨g, 0, none⟩) rn c, .slice (some ⟨tg, 0, none⟩) ts.length tcc] 38 (0, 0))) (hx : LX KX 63 b2 u2 W (.slice (some ⟨tg, 0, none⟩) ts.length tcc) ts px) (cs2 : List Ch)
    (hst : ∀ (g0 c0 lo up : Nat) (qs : List (Ch × Value)), LX KC 66 lo up W (.slice (some ⟨g0, 0, none⟩) ts[m].2.2.length c0) ts[m].2.2 qs → b2 ≤ lo → up ≤ u2 → (tg < lo ∨ up ≤ tg) → tg < u2 → b2 ≤ tg → ∀ (Y : World) (R : Nat), Below W.heap.size W Y → W.heap.size ≤ R → Y.heap[R]? = some (.cells #[.slice (some ⟨g0, 0, none⟩) ts[m].2.2.length c0, .int .i64 ts[m].1, .bool ts[m].2.1, .int .i64 now, .slice (some ⟨g, 0, none⟩) rn c] 104 (0, 0)) → Calls Tryz.prog 42 #[.pointer (some ⟨R, 0, none⟩), .pointer (some ⟨bi, 0, none⟩)] Y fun e z => ∃ v na nn nc, e = .returned v ∧ v.oneCell' = true ∧ z.heap[R]? = some (.cells #[.slice na nn nc, .int .i64 ts[m].1, .bool ts[m].2.1, .int .i64 now, .slice (some ⟨g, 0, none⟩) rn c] 104 (0, 0)) ∧ z.heap[P]? = Y.heap[P]? ∧ z.heap[tg]? = Y.heap[tg]? ∧ Y.heap.size ≤ z.heap.size ∧ (∀ Z : World, Below z.heap.size z Z ∨ (∀ b, b ≠ P → b ≠ tg → Z.heap[b]? = z.heap[b]?) → Calls Tryz.prog 59 #[v] Z fun e w' => e = .returned (.int .i64 code) ∧ Below Z.heap.size Z w') ∧ PD W P tg lo up cs2 z na nn nc) :
    Calls Tryz.prog 60 #[.pointer (some ⟨P, 0, none⟩), .int .i64 m, .func (.func 42) #[] #[.pointer (some ⟨bi, 0, none⟩)]] W fun e w' => DQ W now code g rn c tg ts.length tcc b2 u2 P (ts.set m (ts[m].1, ts[m].2.1, cs2)) e w' := by
  obtain ⟨sv, lo, up, hsub, hlo, hup, htgs, hbt, htu, k0, k1, k2, HPS⟩ := hx.putS hmt
  obtain ⟨⟨g0, c0, rfl⟩, qs, hlx⟩ := hsub
  obtain ⟨_, z0, z1, z2, _, _⟩ := hx.kt.lc.cells3 hmt
  have hPw := lt_of_block gP
  refine (do_pc now ts[m].1 code ts[m].2.1 (some ⟨g, 0, none⟩) (some ⟨g0, 0, none⟩) rn c tg ts.length tcc P m ts[m].2.2.length c0 bi W (PD W P tg lo up cs2) htm hmt (by omega) (by omega) gP (by simpa using k0) (by simpa using k1) (by simpa using k2) z0 z1 z2 (fun Y R hY hR gR => hst g0 c0 lo up qs hlx hlo hup htgs htu hbt Y R hY hR gR)).mono ?_
  rintro e w' ⟨rfl, Z, na, nn, nc, ⟨hL, hF, hS, ho⟩, hP', hfar, htg', hsz, hos⟩
  have hZt : Z.heap[tg]? = W.heap[tg]? := hF tg (by omega) htgs
  refine ⟨rfl, hP'.trans gP, ?_, by omega, fun b hb hbP hbo => ?_, hos.1.trans ho.1, hos.2.1.trans ho.2.1, hos.2.2.trans ho.2.2⟩
  · refine HPS w' _ _ cs2 (.slice na nn nc) W.heap.size (P + 1) (by omega) (by omega) (by omega) (by omega) (hL w' hfar hsz) (fun b h1 h2 h3 h4 => ?_) ?_
    · exact (hfar b (by omega) (by omega) h3).trans (hF b (by omega) h4)
    · rw [htg']
      exact set_cong (set_cong (set_cong hZt))
  · exact (hfar b (by omega) hbP (by omega)).trans (hF b hb (by omega))
/-- The changes with one cut, in memory. -/
theorem cut_lch {W V z : World} {P tg lo up R g0 c0 u2 : Nat} {id : Int} {cs : List Ch} {qs : List (Ch × Value)} {y1 y2 y3 y4 : Value} (hlx : LX KC 66 lo up W (.slice (some ⟨g0, 0, none⟩) cs.length c0) cs qs) (hu : up ≤ u2) (huP : u2 ≤ P) (hPw : P < W.heap.size) (htg : tg < W.heap.size) (htgs : tg < lo ∨ up ≤ tg) (hV : Below W.heap.size W V) (hR : W.heap.size ≤ R) (hRV : R < V.heap.size)
    (hz : (pl cs id < cs.length ∧ idc cs (pl cs id) = id ∧ z.heap[R]? = some (.cells #[.slice (some ⟨g0, 0, none⟩) cs.length c0, y1, y2, y3, y4] 104 (0, 0)) ∧ z.ownsRow lo 66 4 (.slice (some ⟨g0, 0, none⟩) cs.length c0) cs.length ((flatK KC qs).take (pl cs id * 4) ++ [.int .i64 id, .bool true, .int .i64 0, .slice none 0 0] ++ (flatK KC qs).drop (pl cs id * 4 + 4)) ∧ V.heap.size ≤ z.heap.size ∧ (∀ b, b < V.heap.size → b ≠ g0 → z.heap[b]? = V.heap[b]?) ∧ (z.os = V.os ∧ z.tape = V.tape ∧ z.output = V.output)) ∨
      (¬ (pl cs id < cs.length ∧ idc cs (pl cs id) = id) ∧ pl cs id ≤ cs.length ∧ ∃ g' c'', z.heap[R]? = some (.cells #[.slice (some ⟨g', 0, none⟩) (cs.length + 1) c'', y1, y2, y3, y4] 104 (0, 0)) ∧ z.ownsRow lo 66 4 (.slice (some ⟨g', 0, none⟩) (cs.length + 1) c'') (cs.length + 1) ((flatK KC qs).take (pl cs id * 4) ++ [.int .i64 id, .bool true, .int .i64 0, .slice none 0 0] ++ (flatK KC qs).drop (pl cs id * 4)) ∧ (g' = g0 ∨ V.heap.size ≤ g') ∧ g' ≠ R ∧ V.heap.size ≤ z.heap.size ∧ (∀ b, b < V.heap.size → b ≠ R → b ≠ g0 → z.heap[b]? = V.heap[b]?) ∧ (z.os = V.os ∧ z.tape = V.tape ∧ z.output = V.output))) :
    ∃ na nn nc, z.heap[R]? = some (.cells #[.slice na nn nc, y1, y2, y3, y4] 104 (0, 0)) ∧ z.heap[P]? = V.heap[P]? ∧ z.heap[tg]? = V.heap[tg]? ∧ V.heap.size ≤ z.heap.size ∧ (∀ b, W.heap.size ≤ b → b < V.heap.size → b ≠ R → z.heap[b]? = V.heap[b]?) ∧ PD W P tg lo up (putC cs (id, true, 0, [])) z na nn nc := by
  have hg0 : g0 < up := hlx.2.2.1 g0 rfl
  have hup := hlx.2.2.2.1
  have hlo := (hlx.2.1.lt g0 rfl).1
  have hVs := hV.size
  have hown : ∀ {w' : World}, (∀ b, b < z.heap.size → b ≠ P → b ≠ tg → w'.heap[b]? = z.heap[b]?) → z.heap.size ≤ w'.heap.size → ∀ {gg nn cc : Nat} {xs : List Value}, gg ≠ P → gg ≠ tg → gg < z.heap.size → z.ownsRow lo 66 4 (.slice (some ⟨gg, 0, none⟩) nn cc) nn xs → w'.ownsRow lo 66 4 (.slice (some ⟨gg, 0, none⟩) nn cc) nn xs := by
    intro w' hf hs gg nn cc xs n1 n2 n3 ho
    refine ⟨ho.1, ?_⟩
    rcases ho.2 with ⟨q, _⟩ | ⟨g', c1, cur, e, q1, q2, q3⟩
    · cases q
    · cases e
      exact .inr ⟨gg, cc, cur, rfl, q1, by rw [hf gg n3 n1 n2]; exact q2, q3⟩
  have hsubW : ∀ {w' : World}, z.heap.size ≤ w'.heap.size → V.heap.size ≤ z.heap.size → KN.sub R (R + 1) w' (.slice none 0 0) (id, true, 0, []) := fun h1 h2 => .inr ⟨by omega, rfl, rfl⟩
  rcases hz with ⟨e1, e2, gz, ho, hs, hf, hos⟩ | ⟨e1, e0, g', c'', gz, ho, hgg, hgR, hs, hf, hos⟩
  · refine ⟨some ⟨g0, 0, none⟩, cs.length, c0, gz, hf P (by omega) (by omega), hf tg (by omega) (by omega), hs, fun b h1 h2 h3 => hf b h2 (by omega), fun w' hfar hsz => ?_, fun b hb hbo => (hf b (by omega) (by omega)).trans (hV.block b hb), by omega, hos.1.trans hV.os, hos.2.1.trans hV.tape, hos.2.2.trans hV.output⟩
    have hres := hlx.kn.setH (w' := w') (b0 := lo) (i := pl cs id) (p := R) (S := W.heap.size) (x := (id, true, 0, [])) (sv := .slice none 0 0) e1 (by omega) (by omega) (by omega) (by omega) (hsubW hsz hs) (hown hfar hsz (by omega) (by omega) (by omega) ho) (fun b h1 h2 h3 => ((hfar b (by omega) (by omega) (by omega)).trans (hf b (by omega) h3)).trans (hV.block b (by omega))) (by omega)
    have hpc : putC cs (id, true, 0, []) = cs.set (pl cs id) (id, true, 0, []) := by unfold putC; rw [if_pos ⟨e1, e2⟩]
    rw [hpc]
    exact hres
  · have hgz : g' < z.heap.size := by
      rcases ho.2 with ⟨q, _⟩ | ⟨g2, c1, cur, e, q1, q2, q3⟩
      · cases q
      · cases e; exact lt_of_block q2
    have hgn : g' ≠ P ∧ g' ≠ tg := by rcases hgg with rfl | q <;> constructor <;> omega
    refine ⟨some ⟨g', 0, none⟩, cs.length + 1, c'', gz, hf P (by omega) (by omega) (by omega), hf tg (by omega) (by omega) (by omega), hs, fun b h1 h2 h3 => hf b h2 h3 (by omega), fun w' hfar hsz => ?_, fun b hb hbo => (hf b (by omega) (by omega) (by omega)).trans (hV.block b hb), by omega, hos.1.trans hV.os, hos.2.1.trans hV.tape, hos.2.2.trans hV.output⟩
    have hres := hlx.kn.insH (w' := w') (b0 := lo) (i := pl cs id) (p := R) (S := W.heap.size) (x := (id, true, 0, [])) (sv := .slice none 0 0) e0 (by omega) (by omega) (by omega) (by omega) (hsubW hsz hs) (hown hfar hsz hgn.1 hgn.2 hgz ho) (fun b h1 h2 h3 => ((hfar b (by omega) (by omega) (by omega)).trans (hf b (by omega) (by omega) h3)).trans (hV.block b (by omega))) (by omega) (by rcases hgg with q | q; exact .inl q; exact .inr (by omega)) (by rcases hgg with q | q <;> omega) (by omega)
    have hpc : putC cs (id, true, 0, []) = cs.take (pl cs id) ++ [(id, true, 0, [])] ++ cs.drop (pl cs id) := by unfold putC; rw [if_neg e1]
    rw [hpc]
    exact hres
/-- do with a cut that is refused. -/
theorem docut_bad (now id : Int) (c tg tcc b2 u2 P m g bi : Nat) (rs : List Rw) (ts : List Tx) (px : List (Tx × Value)) (W : World) (na : Addr) (hm : rs.length ≤ 1099511627776) (htm : ts.length ≤ 1099511627776) (hmt : m < ts.length) (hu : u2 ≤ P) (gP : W.heap[P]? = some (.cells #[.int .i64 now, .slice (some ⟨g, 0, none⟩) rs.length c, .slice (some ⟨tg, 0, none⟩) ts.length tcc] 38 (0, 0))) (hr : LC KR u2 P W (.slice (some ⟨g, 0, none⟩) rs.length c) rs) (hx : LX KX 63 b2 u2 W (.slice (some ⟨tg, 0, none⟩) ts.length tcc) ts px) (hcm : ts[m].2.2.length ≤ 1099511627776) (hrb : rowsb now rs = true) (hed : edb ts[m].2.2 = true) (hno : seB rs ts[m].2.2 id ts[m].1 = false) (g1 : W.cell? ⟨bi, 0, none⟩ = some (.int .i64 id)) (hgb : W.cell? ⟨2, 0, none⟩ = some (.iface 247 (.pointer (some na)))) (he : W.cell? ⟨3, 0, none⟩ = some (.iface 173 (.agg #[.pointer (some ⟨4, 73, none⟩)]))) (heP : 3 < b2) :
    Calls Tryz.prog 60 #[.pointer (some ⟨P, 0, none⟩), .int .i64 m, .func (.func 42) #[] #[.pointer (some ⟨bi, 0, none⟩)]] W fun e w' => DQ W now 3 g rs.length c tg ts.length tcc b2 u2 P ts e w' := by
  have hset : ts.set m (ts[m].1, ts[m].2.1, ts[m].2.2) = ts := List.set_getElem_self hmt
  have hPw := lt_of_block gP
  refine (do_qc now 3 rs.length c tg tcc b2 u2 P m g bi ts px W htm hmt hu gP hx ts[m].2.2 (fun g0 c0 lo up qs hlx h1 h2 h3 h4 h5 Y R hY hR gR => ?_)).mono (fun e w' h => by rw [hset] at h; exact h)
  refine (cut_clo R bi id Y (fun v z => v = .iface 111 (.agg #[.int .i64 3, .iface 247 (.pointer (some na))]) ∧ Below Y.heap.size Y z) (keepcell hY g1) ((cut_bad R id ts[m].1 now ts[m].2.1 (some ⟨g0, 0, none⟩) (some ⟨g, 0, none⟩) ts[m].2.2.length c0 rs.length c _ _ na Y gR (keepcell hY hgb) (fun V hV => by
    have := impl_seen now (some ⟨g, 0, none⟩) (some ⟨g0, 0, none⟩) c c0 rs ts[m].2.2 ts[m].1 ts[m].2.1 id V hm hcm (hr.below (btrans hY hV)).rws (hlx.below (btrans hY hV)).lc.chs hrb hed
    rw [hno] at this
    exact this)).mono (fun e w' ⟨q1, q2⟩ => ⟨_, q1, rfl, q2⟩))).mono ?_
  rintro e z ⟨v, rfl, rfl, hz⟩
  have hYz := hz.size
  have hWY := hY.size
  refine ⟨_, some ⟨g0, 0, none⟩, ts[m].2.2.length, c0, rfl, rfl, keepheapA hz gR, hz.block P (by omega), hz.block tg (by omega), hz.size, fun Z hZ => ?_, fun w' hfar hsz => ?_, fun b hb _ => (hz.block b (by omega)).trans (hY.block b hb), by omega, hz.os.trans hY.os, hz.tape.trans hY.tape, hz.output.trans hY.output⟩
  · refine code_ref 3 _ Z rfl ?_
    have hez := keepcell hz (keepcell hY he)
    rcases hZ with hZ | hZ
    · exact keepcell hZ hez
    · rw [World.cell?_of_block (hZ 3 (by omega) (by omega))]; exact hez
  · have hq : LC KC lo up W (.slice (some ⟨g0, 0, none⟩) ts[m].2.2.length c0) ts[m].2.2 := hlx.lc
    have hf : LC KC lo up w' (.slice (some ⟨g0, 0, none⟩) ts[m].2.2.length c0) ts[m].2.2 := hq.frame (fun b c1 c2 => ((hfar b (by have := hq.1; omega) (by have := hq.1; omega) (by omega)).trans (hz.block b (by have := hq.1; omega))).trans (hY.block b (by have := hq.1; omega))) (by omega)
    exact ((hf.hole (.inl (Nat.le_refl _))).wide hf.1 (Nat.le_refl _)).kn
/-- do with a cut that is let. -/
theorem docut_ok (now id : Int) (c tg tcc b2 u2 P m g bi : Nat) (rs : List Rw) (ts : List Tx) (px : List (Tx × Value)) (W : World) (hm : rs.length ≤ 1099511627776) (htm : ts.length ≤ 1099511627776) (hmt : m < ts.length) (hu : u2 ≤ P) (gP : W.heap[P]? = some (.cells #[.int .i64 now, .slice (some ⟨g, 0, none⟩) rs.length c, .slice (some ⟨tg, 0, none⟩) ts.length tcc] 38 (0, 0))) (hr : LC KR u2 P W (.slice (some ⟨g, 0, none⟩) rs.length c) rs) (hx : LX KX 63 b2 u2 W (.slice (some ⟨tg, 0, none⟩) ts.length tcc) ts px) (hcm : ts[m].2.2.length ≤ 1099511627776) (hrb : rowsb now rs = true) (hed : edb ts[m].2.2 = true) (hno : seB rs ts[m].2.2 id ts[m].1 = true) (g1 : W.cell? ⟨bi, 0, none⟩ = some (.int .i64 id)) :
    Calls Tryz.prog 60 #[.pointer (some ⟨P, 0, none⟩), .int .i64 m, .func (.func 42) #[] #[.pointer (some ⟨bi, 0, none⟩)]] W fun e w' => DQ W now 0 g rs.length c tg ts.length tcc b2 u2 P (ts.set m (ts[m].1, ts[m].2.1, putC ts[m].2.2 (id, true, 0, []))) e w' := by
  have hasc := edb_asc hed
  have hPw := lt_of_block gP
  refine do_qc now 0 rs.length c tg tcc b2 u2 P m g bi ts px W htm hmt hu gP hx (putC ts[m].2.2 (id, true, 0, [])) (fun g0 c0 lo up qs hlx h1 h2 h3 h4 h5 Y R hY hR gR => ?_)
  have hWY := hY.size
  have hRY := lt_of_block gR
  have hup := hlx.2.2.2.1
  have hg0 : g0 < up := hlx.2.2.1 g0 rfl
  have hlo := (hlx.2.1.lt g0 rfl).1
  refine (cut_clo R bi id Y (fun v z => v = .nilIface ∧ ∃ na nn nc, z.heap[R]? = some (.cells #[.slice na nn nc, .int .i64 ts[m].1, .bool ts[m].2.1, .int .i64 now, .slice (some ⟨g, 0, none⟩) rs.length c] 104 (0, 0)) ∧ z.heap[P]? = Y.heap[P]? ∧ z.heap[tg]? = Y.heap[tg]? ∧ Y.heap.size ≤ z.heap.size ∧ PD W P tg lo up (putC ts[m].2.2 (id, true, 0, [])) z na nn nc) (keepcell hY g1) ((cut_do R id ts[m].1 now ts[m].2.1 (some ⟨g0, 0, none⟩) (some ⟨g, 0, none⟩) ts[m].2.2.length c0 rs.length c _ _ Y (fun z => ∃ na nn nc, z.heap[R]? = some (.cells #[.slice na nn nc, .int .i64 ts[m].1, .bool ts[m].2.1, .int .i64 now, .slice (some ⟨g, 0, none⟩) rs.length c] 104 (0, 0)) ∧ z.heap[P]? = Y.heap[P]? ∧ z.heap[tg]? = Y.heap[tg]? ∧ Y.heap.size ≤ z.heap.size ∧ PD W P tg lo up (putC ts[m].2.2 (id, true, 0, [])) z na nn nc) gR (fun V hV => by
    have := impl_seen now (some ⟨g, 0, none⟩) (some ⟨g0, 0, none⟩) c c0 rs ts[m].2.2 ts[m].1 ts[m].2.1 id V hm hcm (hr.below (btrans hY hV)).rws (hlx.below (btrans hY hV)).lc.chs hrb hed
    rw [hno] at this
    exact this) (fun V hV => ?_)).mono (fun e w' ⟨q1, q2⟩ => ⟨_, q1, rfl, q2⟩))).mono ?_
  · have hWV := btrans hY hV
    have hYV := hV.size
    have hLV := hlx.below hWV
    have hPL := pl_Pl (id := id) hasc
    have gRV := keepheapA hV gR
    have hplc : ∀ W', Below V.heap.size V W' → Calls Tryz.prog 95 #[.slice (some ⟨g0, 0, none⟩) ts[m].2.2.length c0, .int .i64 id] W' fun e w' => e = .returned (.tuple #[.int .i64 (pl ts[m].2.2 id), .bool (decide (pl ts[m].2.2 id < ts[m].2.2.length) && decide (idc ts[m].2.2 (pl ts[m].2.2 id) = id))]) ∧ Below W'.heap.size W' w' := fun W' hW' => (place_c (some ⟨g0, 0, none⟩) c0 ts[m].2.2 id W' hcm (hLV.below hW').lc.chs hasc).mono (fun e w' ⟨i, q1, q2, q3, q4, q5⟩ => by
      have := Pl.uniq ⟨q2, q3, q4⟩ hPL
      subst this
      exact ⟨q1, q5⟩)
    by_cases hq : pl ts[m].2.2 id < ts[m].2.2.length ∧ idc ts[m].2.2 (pl ts[m].2.2 id) = id
    · have hb : (decide (pl ts[m].2.2 id < ts[m].2.2.length) && decide (idc ts[m].2.2 (pl ts[m].2.2 id) = id)) = true := by simp [hq]
      rw [hb] at hplc
      refine (set_old lo R g0 c0 ts[m].2.2.length (pl ts[m].2.2 id) id 0 true none 0 0 _ _ _ _ (flatK KC qs) V hcm hq.1 gRV (by omega) hLV.2.1 (by omega) (by omega) (flatK_one hlx) hplc).mono ?_
      rintro e z ⟨q0, q1, q2, q3, q4, q5⟩
      obtain ⟨na, nn, nc, r1, r2, r3, r4, r5, r6⟩ := cut_lch (z := z) hlx h2 hu hPw (by omega) h3 hWV hR (by omega) (.inl ⟨hq.1, hq.2, q1, q2, q3, q4, q5⟩)
      exact ⟨q0, ⟨na, nn, nc, r1, r2.trans (hV.block P (by omega)), r3.trans (hV.block tg (by omega)), by omega, r6⟩⟩
    · have hb : (decide (pl ts[m].2.2 id < ts[m].2.2.length) && decide (idc ts[m].2.2 (pl ts[m].2.2 id) = id)) = false := by
        cases hd : (decide (pl ts[m].2.2 id < ts[m].2.2.length) && decide (idc ts[m].2.2 (pl ts[m].2.2 id) = id))
        · rfl
        · exact absurd (by simpa using hd) hq
      rw [hb] at hplc
      refine (set_new lo R g0 c0 ts[m].2.2.length (pl ts[m].2.2 id) id 0 true none 0 0 _ _ _ _ (flatK KC qs) V hcm hPL.1 gRV (by omega) hLV.2.1 (by omega) (by omega) (flatK_one hlx) hplc).mono ?_
      rintro e z ⟨q0, g', c'', q1, q2, q3, q4, q5, q6, q7⟩
      obtain ⟨na, nn, nc, r1, r2, r3, r4, r5, r6⟩ := cut_lch (z := z) hlx h2 hu hPw (by omega) h3 hWV hR (by omega) (.inr ⟨hq, hPL.1, g', c'', q1, q2, q3, q4, q5, q6, q7⟩)
      exact ⟨q0, ⟨na, nn, nc, r1, r2.trans (hV.block P (by omega)), r3.trans (hV.block tg (by omega)), by omega, r6⟩⟩
  · rintro e z ⟨v, rfl, rfl, na, nn, nc, r1, r2, r3, r4, r6⟩
    exact ⟨.nilIface, na, nn, nc, rfl, rfl, r1, r2, r3, r4, fun Z _ => code_nil Z, r6⟩
theorem after_cut (now n id : Int) (B D bi : Nat) (rs : List Rw) (ts : List Tx) (w : World) (na nb : Addr) (hm : rs.length ≤ 1099511627776) (htm : ts.length ≤ 1099511627776) (hr : RwsS w B rs) (ht : TxsS w D ts) (hg : w.cell? ⟨0, 0, none⟩ = some (.iface 247 (.pointer (some na)))) (hgb : w.cell? ⟨2, 0, none⟩ = some (.iface 247 (.pointer (some nb)))) (he : w.cell? ⟨3, 0, none⟩ = some (.iface 173 (.agg #[.pointer (some ⟨4, 73, none⟩)]))) (g1 : w.cell? ⟨bi, 0, none⟩ = some (.int .i64 id)) :
    Calls Tryz.prog 30 #[.agg #[.int .i64 now, .slice (some ⟨B, 0, none⟩) rs.length rs.length, .slice (some ⟨D, 0, none⟩) ts.length ts.length], .int .i64 n, .func (.func 42) #[] #[.pointer (some ⟨bi, 0, none⟩)]] w fun e w' => SBS w now rs (ctT now rs ts n id) (ctN now rs ts n id) e w' := by
  unfold ctT ctN
  refine after_x now n (if ctB rs ts n.toNat id = true then 0 else 3) _ (ctX rs ts n.toNat id) B D rs ts w na hm htm hr ht hg he (ctX_len _ _ _ _) (fun m ho hn W' g c tg tcc b2 u2 P hB hb2 hu gP hLC hX => ?_)
  obtain ⟨px, hx⟩ := hX
  have hel := World.block_lt_of_cell? w ⟨3, 0, none⟩ he
  subst hn
  obtain ⟨m', hm', hmt, hrb, _, hed, _⟩ := opn_yes ho
  have hmm : m' = m := by omega
  subst hmm
  rw [show ((m' : Int)).toNat = m' by omega, ctB_at hmt]
  have hcm : ts[m'].2.2.length ≤ 1099511627776 := (ht.2 m' hmt).choose_spec.choose_spec.2.2.1
  cases hpo : seB rs ts[m'].2.2 id ts[m'].1
  · rw [if_neg (by simp), ctX_no hmt hpo]
    exact docut_bad now id c tg tcc b2 u2 P m' g bi rs ts px W' nb hm htm hmt hu gP hLC hx hcm hrb hed hpo (keepcell hB g1) (keepcell hB hgb) (keepcell hB he) (by simp only at hel; omega)
  · rw [if_pos rfl, ctX_yes hmt hpo]
    exact docut_ok now id c tg tcc b2 u2 P m' g bi rs ts px W' hm htm hmt hu gP hLC hx hcm hrb hed hpo (keepcell hB g1)
end Go.Proofs.YtnajddjalagmoaaGreatDoor
namespace Go.Proofs.YtnajddjalagmoaaGreatDoor
open Go.RowKit
set_option linter.unusedSimpArgs false
set_option linter.unusedVariables false
set_option maxRecDepth 100000 in
set_option maxHeartbeats 8000000 in
theorem spec_TxnCut {N1 N2 : Nat → Prop} (now n id : Int) (B D : Nat) (rs : List Rw) (ts : List Tx) (w : World) (hm : rs.length ≤ 1099511627776) (htm : ts.length ≤ 1099511627776) (hcm : ∀ m (h : m < ts.length), ts[m].2.2.length ≤ 1048576) (hr : RwsS w B rs) (hrr : Rws N1 w (some ⟨B, 0, none⟩) rs) (ht : TxsS w D ts) (htt : Txs N2 1099511627776 w (some ⟨D, 0, none⟩) ts) :
    Calls Tryz.prog 16 #[.agg #[.int .i64 now, .slice (some ⟨B, 0, none⟩) rs.length rs.length, .slice (some ⟨D, 0, none⟩) ts.length ts.length], .int .i64 n, .int .i64 id] w fun e w' => SSN w now rs (ctT now rs ts n id) (ctN now rs ts n id) e w' := by
  have HCP := hid (fun (W : World) (hb : Below w.heap.size w W) => spec_copyStoreL now B D ts.length rs ts W hm htm (hr.below hb) (ht.below hb))
  have HOK := hid (fun (W : World) (hb : Below w.heap.size w W) => spec_open now (some ⟨B, 0, none⟩) (some ⟨D, 0, none⟩) rs.length ts.length rs ts n W hm htm (hrr.below hb) (htt.below hb))
  have HTL : Hid (txL ts) := hid (fun j (hj : j < ts.length) => (ht.2 j hj).choose_spec.choose_spec.2.2.1)
  have HNO : Hid (opn now rs ts n = false → ctT now rs ts n id = ts ∧ ctN now rs ts n id = 1) := hid (fun h => by unfold ctT ctN; rw [h]; exact ⟨rfl, rfl⟩)
  have HYE : Hid (opn now rs ts n = true → ∃ (m : Nat) (hmt : m < ts.length), n = (m : Int) ∧ (seB rs ts[m].2.2 id ts[m].1 = true → ctT now rs ts n id = ts.set m (ts[m].1, ts[m].2.1, putC ts[m].2.2 (id, true, 0, [])) ∧ ctN now rs ts n id = 0) ∧ (seB rs ts[m].2.2 id ts[m].1 = false → ctT now rs ts n id = ts ∧ ctN now rs ts n id = 3) ∧ (∀ i j, i < j → j < ts[m].2.2.length → idc ts[m].2.2 i < idc ts[m].2.2 j) ∧ (∀ (W : World), Below w.heap.size w W → Calls Tryz.prog 41 #[.agg #[.int .i64 now, .slice (some ⟨B, 0, none⟩) rs.length rs.length, .slice (some ⟨D, 0, none⟩) ts.length ts.length], .int .i64 m, .int .i64 id] W fun e w' => RA W (seK rs ts[m].2.2 id ts[m].1) (seP rs ts[m].2.2 id ts[m].1) (seB rs ts[m].2.2 id ts[m].1) e w')) := hid (fun h => by
    obtain ⟨m, rfl, hmt, hrb, _, hed, _⟩ := opn_yes h
    refine ⟨m, hmt, rfl, fun hq => ?_, fun hq => ?_, edb_asc hed, fun W hb => spec_sees now _ _ _ _ rs ts m id W hm htm (hrr.below hb) (htt.below hb) hmt hrb (edb_pos hed)⟩
    · unfold ctT ctN; rw [h, if_pos rfl, if_pos rfl, show ((m : Int)).toNat = m by omega, ctX_yes hmt hq, ctB_at hmt, hq]; exact ⟨rfl, rfl⟩
    · unfold ctT ctN; rw [h, if_pos rfl, if_pos rfl, show ((m : Int)).toNat = m by omega, ctX_no hmt hq, ctB_at hmt, hq]; exact ⟨rfl, rfl⟩)
  have HCM := hid hcm
  clear hr hrr ht htt hcm
  generalize ctT now rs ts n id = bt at *
  generalize ctN now rs ts n id = bn at *
  generalize opn now rs ts n = op at *
  obtain ⟨nr, hnr⟩ : ∃ x, x = rs.length := ⟨_, rfl⟩
  obtain ⟨nt, hnt⟩ : ∃ x, x = ts.length := ⟨_, rfl⟩
  have HNR := hid hnr.symm
  have HNT := hid hnt.symm
  rw [← hnr, ← hnt] at HCP HOK
  rw [← hnr, ← hnt]
  clear hnr hnt
  have hB : Below w.heap.size w ((w.alloc (.cells #[.int .i64 now, .slice (some ⟨B, 0, none⟩) nr nr, .slice (some ⟨D, 0, none⟩) nt nt] 38)).alloc (.cells #[.int .i64 0, .slice none 0 0, .slice none 0 0] 38)) := balloc (balloc (Below.refl _ _) _) _
  have gP := old_alloc (o' := .cells #[.int .i64 0, .slice none 0 0, .slice none 0 0] 38) (new_alloc w w.heap.size (.cells #[.int .i64 now, .slice (some ⟨B, 0, none⟩) nr nr, .slice (some ⟨D, 0, none⟩) nt nt] 38) rfl)
  have gZ := new_alloc (w.alloc (.cells #[.int .i64 now, .slice (some ⟨B, 0, none⟩) nr nr, .slice (some ⟨D, 0, none⟩) nt nt] 38)) (w.heap.size + 1) (.cells #[.int .i64 0, .slice none 0 0, .slice none 0 0] 38) (by simp)
  have hWs : w.heap.size + 1 < ((w.alloc (.cells #[.int .i64 now, .slice (some ⟨B, 0, none⟩) nr nr, .slice (some ⟨D, 0, none⟩) nt nt] 38)).alloc (.cells #[.int .i64 0, .slice none 0 0, .slice none 0 0] 38)).heap.size := by simp
  go_enter Tryz.func16, Tryz.ntmps16
  go_upto_region 1 with fail
  generalize ((w.alloc (.cells #[.int .i64 now, .slice (some ⟨B, 0, none⟩) nr nr, .slice (some ⟨D, 0, none⟩) nt nt] 38)).alloc (.cells #[.int .i64 0, .slice none 0 0, .slice none 0 0] 38)) = W at *
  obtain ⟨⟨d0, d1, d2⟩, _⟩ := cellk3 gP
  go_wp2_with fail
  refine (HCP.out _ hB).mono ?_
  rintro e y ⟨a, c, ta, tcc, b1, u1, b2, u2, rfl, ⟨hx1, px, hx2⟩, hu, hu2, e1, e2, hy⟩
  replace gP := keepheapA hy gP
  replace gZ := keepheapA hy gZ
  replace hB := btrans hB hy
  have hyz := hy.size
  have HX1 := hid hx1
  have HX2 := hid hx2.lc
  have hq1 := hx1.1
  have hq2 := hx2.2.2.2.1
  clear hy hx1 hx2 HCP d0 d1 d2
  go_upto_region 2 with fail
  have hal : Below y.heap.size y (y.alloc (.cells #[.int .i64 now, .slice a nr c, .slice ta nt tcc] 38)) := balloc (Below.refl _ _) _
  have gQ := new_alloc y y.heap.size (.cells #[.int .i64 now, .slice a nr c, .slice ta nt tcc] 38) rfl
  replace gP := keepheapA hal gP
  replace gZ := keepheapA hal gZ
  replace hB := btrans hB hal
  replace HX1 := hid (HX1.out.below hal)
  replace HX2 := hid (HX2.out.below hal)
  have hyq : (y.alloc (.cells #[.int .i64 now, .slice a nr c, .slice ta nt tcc] 38)).heap.size = y.heap.size + 1 := by simp
  have hyq1 := Nat.le_of_eq hyq
  have hyq2 := Nat.le_of_eq hyq.symm
  clear hal hyq
  generalize y.alloc (.cells #[.int .i64 now, .slice a nr c, .slice ta nt tcc] 38) = Y at *
  generalize W.heap.size = Wz at *
  generalize y.heap.size = Q at *
  obtain ⟨⟨d0, d1, d2⟩, _⟩ := cellk3 gP
  go_wp2_with fail
  refine (HOK.out _ hB).mono ?_
  rintro e x ⟨rfl, hz⟩
  replace gP := keepheapA hz gP
  replace gZ := keepheapA hz gZ
  replace gQ := keepheapA hz gQ
  replace hB := btrans hB hz
  have hzz := hz.size
  replace HX1 := hid (HX1.out.below hz)
  replace HX2 := hid (HX2.out.below hz)
  clear hz d0 d1 d2 HOK
  cases op
  · obtain ⟨k1, k2⟩ := HNO.out rfl
    clear HNO HYE
    have HB := hid hB
    clear hB
    obtain ⟨⟨v0, v1, v2⟩, s0, s1, s2⟩ := cellk3 gZ
    obtain ⟨⟨t0, t1, t2⟩, _⟩ := cellk3 gQ
    go_wp2_with fail
    have gF := setk3 gZ (.int .i64 now) (.slice a nr c) (.slice ta nt tcc)
    have bF := (bset (bset (bset HB.out (q := w.heap.size + 1) (k := 0) (by omega) (.int .i64 now)) (q := w.heap.size + 1) (k := 1) (by omega) (.slice a nr c)) (q := w.heap.size + 1) (k := 2) (by omega) (.slice ta nt tcc))
    have hfar : ∀ b, b ≠ w.heap.size + 1 → (((x.setCell ⟨w.heap.size + 1, 0, none⟩ (.int .i64 now)).setCell ⟨w.heap.size + 1, 1, none⟩ (.slice a nr c)).setCell ⟨w.heap.size + 1, 2, none⟩ (.slice ta nt tcc)).heap[b]? = x.heap[b]? := fun b hb => by rw [Below.heap_setCell _ _ _ _ (by dsimp only; omega), Below.heap_setCell _ _ _ _ (by dsimp only; omega), Below.heap_setCell _ _ _ _ (by dsimp only; omega)]
    have hszF : (((x.setCell ⟨w.heap.size + 1, 0, none⟩ (.int .i64 now)).setCell ⟨w.heap.size + 1, 1, none⟩ (.slice a nr c)).setCell ⟨w.heap.size + 1, 2, none⟩ (.slice ta nt tcc)).heap.size = x.heap.size := by simp
    have x1 := HX1.out.frame (w' := (((x.setCell ⟨w.heap.size + 1, 0, none⟩ (.int .i64 now)).setCell ⟨w.heap.size + 1, 1, none⟩ (.slice a nr c)).setCell ⟨w.heap.size + 1, 2, none⟩ (.slice ta nt tcc))) (fun b h1 h2 => hfar b (by omega)) (by simp)
    have x2 := HX2.out.frame (w' := (((x.setCell ⟨w.heap.size + 1, 0, none⟩ (.int .i64 now)).setCell ⟨w.heap.size + 1, 1, none⟩ (.slice a nr c)).setCell ⟨w.heap.size + 1, 2, none⟩ (.slice ta nt tcc))) (fun b h1 h2 => hfar b (by omega)) (by simp)
    generalize (((x.setCell ⟨w.heap.size + 1, 0, none⟩ (.int .i64 now)).setCell ⟨w.heap.size + 1, 1, none⟩ (.slice a nr c)).setCell ⟨w.heap.size + 1, 2, none⟩ (.slice ta nt tcc)) = wf at *
    obtain ⟨⟨z0, z1, z2⟩, _⟩ := cellk3 gF
    exact bodyPost_ret (v := .tuple #[.agg #[.int .i64 now, .slice a nr c, .slice ta nt tcc], .int .i64 1]) (by simp [results, Tryz.results16, go_sem, z0, z1, z2]) rfl (ssn_mk k1 k2 HNR.out HNT.out x1 x2 HTL.out bF)
  · obtain ⟨m, hmt, rfl, hyes, hnop, hasc, hsee⟩ := HYE.out rfl
    rw [HNR.out, HNT.out] at hsee
    have HSEE := hid (hsee x hB)
    have HY1 := hid hyes
    have HN1 := hid hnop
    clear HNO HYE hyes hnop hsee
    obtain ⟨⟨d0, d1, d2⟩, _⟩ := cellk3 gP
    go_wp2_with fail
    refine HSEE.out.mono ?_
    rintro e z0 hra
    obtain ⟨ra, rc, he, hra1, hra2, hra3, hz⟩ := hra
    clear hra1 hra2 hra3
    subst he
    replace gZ := keepheapA hz gZ
    replace gQ := keepheapA hz gQ
    replace hB := btrans hB hz
    have hzz2 := hz.size
    replace HX1 := hid (HX1.out.below hz)
    replace HX2 := hid (HX2.out.below hz)
    clear hz d0 d1 d2 gP HSEE
    generalize seK rs ts[m].2.2 id ts[m].1 = sk at *
    generalize (seP rs ts[m].2.2 id ts[m].1).length = sn at *
    generalize seB rs ts[m].2.2 id ts[m].1 = sb at *
    go_upto_region 5 with fail
    have hal : Below z0.heap.size z0 (z0.alloc (.cells #[.int .i64 sk, .slice ra sn rc] 44)) := balloc (Below.refl _ _) _
    replace gZ := keepheapA hal gZ
    replace gQ := keepheapA hal gQ
    replace hB := btrans hB hal
    have hzz3 := hal.size
    replace HX1 := hid (HX1.out.below hal)
    replace HX2 := hid (HX2.out.below hal)
    clear hal
    generalize z0.alloc (.cells #[.int .i64 sk, .slice ra sn rc] 44) = z at *
    cases sb
    · obtain ⟨k1, k2⟩ := HN1.out rfl
      clear HN1 HY1
      have HB := hid hB
      clear hB
      obtain ⟨⟨v0, v1, v2⟩, s0, s1, s2⟩ := cellk3 gZ
      obtain ⟨⟨t0, t1, t2⟩, _⟩ := cellk3 gQ
      go_wp2_with fail
      have gF := setk3 gZ (.int .i64 now) (.slice a nr c) (.slice ta nt tcc)
      have bF := (bset (bset (bset HB.out (q := w.heap.size + 1) (k := 0) (by omega) (.int .i64 now)) (q := w.heap.size + 1) (k := 1) (by omega) (.slice a nr c)) (q := w.heap.size + 1) (k := 2) (by omega) (.slice ta nt tcc))
      have hfar : ∀ b, b ≠ w.heap.size + 1 → (((z.setCell ⟨w.heap.size + 1, 0, none⟩ (.int .i64 now)).setCell ⟨w.heap.size + 1, 1, none⟩ (.slice a nr c)).setCell ⟨w.heap.size + 1, 2, none⟩ (.slice ta nt tcc)).heap[b]? = z.heap[b]? := fun b hb => by rw [Below.heap_setCell _ _ _ _ (by dsimp only; omega), Below.heap_setCell _ _ _ _ (by dsimp only; omega), Below.heap_setCell _ _ _ _ (by dsimp only; omega)]
      have hszF : (((z.setCell ⟨w.heap.size + 1, 0, none⟩ (.int .i64 now)).setCell ⟨w.heap.size + 1, 1, none⟩ (.slice a nr c)).setCell ⟨w.heap.size + 1, 2, none⟩ (.slice ta nt tcc)).heap.size = z.heap.size := by simp
      have x1 := HX1.out.frame (w' := (((z.setCell ⟨w.heap.size + 1, 0, none⟩ (.int .i64 now)).setCell ⟨w.heap.size + 1, 1, none⟩ (.slice a nr c)).setCell ⟨w.heap.size + 1, 2, none⟩ (.slice ta nt tcc))) (fun b h1 h2 => hfar b (by omega)) (by simp)
      have x2 := HX2.out.frame (w' := (((z.setCell ⟨w.heap.size + 1, 0, none⟩ (.int .i64 now)).setCell ⟨w.heap.size + 1, 1, none⟩ (.slice a nr c)).setCell ⟨w.heap.size + 1, 2, none⟩ (.slice ta nt tcc))) (fun b h1 h2 => hfar b (by omega)) (by simp)
      generalize (((z.setCell ⟨w.heap.size + 1, 0, none⟩ (.int .i64 now)).setCell ⟨w.heap.size + 1, 1, none⟩ (.slice a nr c)).setCell ⟨w.heap.size + 1, 2, none⟩ (.slice ta nt tcc)) = wf at *
      obtain ⟨⟨z0, z1, z2⟩, _⟩ := cellk3 gF
      exact bodyPost_ret (v := .tuple #[.agg #[.int .i64 now, .slice a nr c, .slice ta nt tcc], .int .i64 3]) (by simp [results, Tryz.results16, go_sem, z0, z1, z2]) rfl (ssn_mk k1 k2 HNR.out HNT.out x1 x2 HTL.out bF)
    · obtain ⟨k1, k2⟩ := HY1.out rfl
      clear HN1 HY1
      have hL : LC KT b2 u2 z (.slice ta ts.length tcc) ts := by rw [HNT.out]; exact HX2.out
      obtain ⟨g, rfl⟩ := hL.some_form (by omega)
      obtain ⟨hth, hg1', hg2'⟩ := hL.thr
      obtain ⟨ca, cc, lo, up, q2, hchs, hlo, hup, hgl⟩ := hL.at3 hmt
      have hclen := HCM.out m hmt
      have hpl := putC_len ts[m].2.2 (id, true, 0, [])
      have hsn : (ts.set m (ts[m].1, ts[m].2.1, putC ts[m].2.2 (id, true, 0, []))).length = nt := by rw [List.length_set]; exact HNT.out
      have hmn : m < nt := by have := HNT.out; omega
      have c0 : (m : Int) < (nt : Int) := by omega
      have hgz : g < z.heap.size := by omega
      have HTH : Hid (z.there g 0 (nt * 3)) := hid (by rw [← HNT.out]; exact hth)
      have hzw := hB.size
      have hlz := hL.1
      have HSET := hid (fun (W : World) (hb : Below z.heap.size z W) => spec_set (N := fun b => b ≠ g ∧ b ≠ w.heap.size + 1) ca cc ts[m].2.2 (id, true, 0, []) none 0 W (by omega) ((hchs.below hb).imp (fun b q => ⟨by omega, by omega⟩)) hasc (by simp) (by simp) (.inl rfl) (fun b off e => by cases e))
      have HTXP : Hid (∀ (Y2 : World) (hb : Below z.heap.size z Y2) (g' c' : Nat), z.heap.size ≤ g' → (hg2 : g' < Y2.heap.size) → (putC ts[m].2.2 (id, true, 0, [])).length ≤ c' → Chs (fun b => b ≠ g ∧ b ≠ w.heap.size + 1) 1099511627776 Y2 (some ⟨g', 0, none⟩) (putC ts[m].2.2 (id, true, 0, [])) → ∀ (wf : World), (∀ b, b ≠ w.heap.size + 1 → wf.heap[b]? = (Y2.setCell ⟨g, m * 3 + 2, none⟩ (.slice (some ⟨g', 0, none⟩) (putC ts[m].2.2 (id, true, 0, [])).length c')).heap[b]?) → Y2.heap.size ≤ wf.heap.size → Txs (fun _ => True) 1099511627776 wf (some ⟨g, 0, none⟩) (ts.set m (ts[m].1, ts[m].2.1, putC ts[m].2.2 (id, true, 0, [])))) := hid (fun Y2 hb g' c' r1 r2 r3 r4 wf hwf hsz => by
        have hbs := hb.size
        have hYg : ∀ b, b ≠ g → (Y2.setCell ⟨g, m * 3 + 2, none⟩ (.slice (some ⟨g', 0, none⟩) (putC ts[m].2.2 (id, true, 0, [])).length c')).heap[b]? = Y2.heap[b]? := fun b q => by rw [Below.heap_setCell _ _ _ _ (by dsimp only; omega)]
        obtain ⟨uu, qq, _⟩ := there_at (there_below hth hgz hb) (show m * 3 + 2 < ts.length * KT.sz by show m * 3 + 2 < ts.length * 3; omega)
        have hgw : wf.heap[g]? = _ := hwf g (by omega)
        refine hL.txput (g' := g') (c' := c') (w' := wf) (cs2 := putC ts[m].2.2 (id, true, 0, [])) hmt HTL.out (by omega) (fun b h1 h2 h3 => ?_) (fun k hk => ?_) ?_ r3 (by omega) ?_
        · rw [hwf b (by omega), hYg b h3]; exact hb.block b (by omega)
        · rw [World.cell?_of_block hgw, World.cell?_setCell_other _ _ _ _ (by intro q; injection q; omega)]
          exact World.cell?_of_block (hb.block g hgz)
        · rw [World.cell?_of_block hgw]
          exact World.cell?_setCell_same _ _ _ qq
        · refine (r4.moved (w' := wf) ?_ (fun b hb' => ?_) hsz).imp (fun _ _ => trivial)
          · rw [hwf g' (by omega), hYg g' (by omega)]
          · rw [hwf b hb'.2, hYg b hb'.1])
      obtain ⟨F, hF⟩ : ∃ F, F = putC ts[m].2.2 (id, true, 0, []) := ⟨_, rfl⟩
      rw [← hF] at HTXP HSET k1 hsn
      generalize ts[m].2.2.length = cn at *
      generalize ts.set m (ts[m].1, ts[m].2.1, F) = ts2 at *
      simp only [List.length_nil] at HSET
      clear hL hchs hasc hclen hpl HCM hmt HX2 HTL hF HNT hth hlo hup hgl
      obtain ⟨⟨t0, t1, t2⟩, _⟩ := cellk3 gQ
      go_upto_region 7 with fail
      refine wp_region_held_drew (S := fun w' => w'.cell? ⟨Q, 2, none⟩ = some (.slice (some ⟨g, 0, none⟩) nt tcc)) (by kernel_rfl) ?_ (fun hHeld => ?_)
      · exact t2
      have HZ0 : Hid (Below z.heap.size z z.drew) := hid (bdrew (Below.refl _ _))
      replace q2 : z.drew.cell? _ = _ := q2
      have hzz0 : z.drew.heap.size = z.heap.size := rfl
      have hzz1 := Nat.le_of_eq hzz0
      clear hzz0 t0 t1 t2
      generalize z.drew = Z0 at *
      refine wpAnyH_take (i := 0) (v := ?_) rfl (by kernel_rfl) (by kernel_rfl) (by kernel_rfl) (fun _ _ _ h => h) (Or.inl ⟨by rfl, ?_⟩) hHeld ?_
      rotate_left
      · intro w hSw; (try dsimp only at hSw); go_simp; try (with_reducible rfl)
      try simp only [sq]
      refine wpAnyH_take (i := 1) (v := ?_) rfl (by kernel_rfl) (by kernel_rfl) (by kernel_rfl) (fun _ _ _ h => h) (Or.inl ⟨by rfl, ?_⟩) hHeld ?_
      rotate_left
      · intro w hSw; (try dsimp only at hSw); go_simp; try (with_reducible rfl)
      try simp only [sq]
      refine wpAnyH_take (i := 2) (v := ?_) rfl (by kernel_rfl) (by kernel_rfl) (by kernel_rfl) (fun _ _ _ h => h) (Or.inl ⟨by rfl, ?_⟩) hHeld ?_
      rotate_left
      · intro w hSw; (try dsimp only at hSw); go_simp; try (with_reducible rfl)
      try simp only [sq]
      refine wpAnyH_take (i := 3) (v := ?_) rfl (by kernel_rfl) (by kernel_rfl) (by kernel_rfl) (fun _ _ _ h => h) (Or.inl ⟨by rfl, ?_⟩) hHeld ?_
      rotate_left
      · intro w hSw; (try dsimp only at hSw); go_simp; try (with_reducible rfl)
      try simp only [sq]
      refine wpAnyH_take (i := 4) (v := ?_) rfl (by kernel_rfl) (by kernel_rfl) (by kernel_rfl) (fun _ _ _ h => h) (Or.inl ⟨by rfl, ?_⟩) hHeld ?_
      rotate_left
      · intro w hSw; (try dsimp only at hSw); go_simp; try (with_reducible rfl)
      try simp only [sq]
      refine wpAnyH_take (i := 5) (v := ?_) rfl (by kernel_rfl) (by kernel_rfl) (by kernel_rfl) (fun _ _ _ h => h) (Or.inl ⟨by rfl, ?_⟩) hHeld ?_
      rotate_left
      · intro w hSw; (try dsimp only at hSw); go_simp; try (with_reducible rfl)
      try simp only [sq]
      refine wpAnyH_take (i := 6) (v := ?_) rfl (by kernel_rfl) (by kernel_rfl) (by kernel_rfl) (fun _ _ _ h => h) (Or.inl ⟨by rfl, ?_⟩) hHeld ?_
      rotate_left
      · intro w hSw; (try dsimp only at hSw); go_simp; try (with_reducible rfl)
      try simp only [sq]
      refine wpAnyH_take (i := 7) (v := ?_) rfl (by kernel_rfl) (by kernel_rfl) (by kernel_rfl) (fun _ _ _ h => h) (Or.inl ⟨by rfl, ?_⟩) hHeld ?_
      rotate_left
      · intro w hSw; (try dsimp only at hSw); go_simp; try (with_reducible rfl)
      try simp only [sq]
      refine wpAnyH_take (i := 9) (v := ?_) rfl (by kernel_rfl) (by kernel_rfl) (by kernel_rfl) (fun _ _ _ h => h) (Or.inl ⟨by rfl, ?_⟩) hHeld ?_
      rotate_left
      · intro w hSw; (try dsimp only at hSw); go_simp; try (with_reducible rfl)
      try simp only [sq]
      refine wpAnyH_take (i := 10) (v := ?_) rfl (by kernel_rfl) (by kernel_rfl) (by kernel_rfl) (fun _ _ _ h => h) (Or.inl ⟨by rfl, ?_⟩) hHeld ?_
      rotate_left
      · intro w hSw; (try dsimp only at hSw); go_simp; try (with_reducible rfl)
      try simp only [sq]
      refine wpAnyH_ready (rs := [8]) (by kernel_rfl) (by simp) ?_
      refine AllReadyH.cons rfl (fun K hK => ?_) AllReadyH.nil
      try simp only [sq]
      go_simp
      refine hK.out _ _ ?_ (fun hHeld => ?_)
      · exact hHeld
      clear hK K
      try simp only [sq]
      refine wpAnyH_ready (rs := [11]) (by kernel_rfl) (by simp) ?_
      refine AllReadyH.cons rfl (fun K hK => ?_) AllReadyH.nil
      try simp only [sq]
      go_simp
      go_at_call 25
      refine (HSET.out Z0 HZ0.out).mono ?_
      rintro e Y2 hsq
      obtain ⟨g', c', he, hg1, hg2, hg3, hch, hY2⟩ := hsq
      subst he
      have HCH := hid hch
      clear hch
      go_wp2_with fail
      refine hK.out _ _ ?_ (fun hHeld => ?_)
      · exact keepcell hY2 hHeld
      clear hK K
      try simp only [sq]
      refine wpAnyH_take (i := 12) (v := ?_) rfl (by kernel_rfl) (by kernel_rfl) (by kernel_rfl) (fun _ _ _ h => h) (Or.inl ⟨by rfl, ?_⟩) hHeld ?_
      rotate_left
      · intro w hSw; (try dsimp only at hSw); go_simp; try (with_reducible rfl)
      try simp only [sq]
      refine wpAnyH_take (i := 13) (v := ?_) rfl (by kernel_rfl) (by kernel_rfl) (by kernel_rfl) (fun _ _ _ h => h) (Or.inl ⟨by rfl, ?_⟩) hHeld ?_
      rotate_left
      · intro w hSw; (try dsimp only at hSw); go_simp; try (with_reducible rfl)
      try simp only [sq]
      have hZY : Below z.heap.size z Y2 := btrans HZ0.out hY2
      obtain ⟨uu, qq, pp⟩ := there_at (there_below HTH.out hgz hZY) (show m * 3 + 2 < nt * 3 by omega)
      refine wpAnyH_ready (rs := [14]) (by kernel_rfl) (by simp) ?_
      refine AllReadyH.cons rfl (fun K hK => ?_) AllReadyH.nil
      try simp only [sq]
      go_simp
      refine hK.out _ _ ?_ (fun hHeld => ?_)
      · exact keepset hHeld (by dsimp only; omega)
      clear hK K
      try simp only [sq]
      refine wpAnyH_done (by kernel_rfl) ?_ _
      clear hHeld q2 qq pp
      replace gZ := keepheapA hZY gZ
      replace gQ := keepheapA hZY gQ
      have hYs := hZY.size
      have HTX := hid (HTXP.out Y2 hZY g' c' (by have h1 := HZ0.out.size; omega) hg2 hg3 HCH.out)
      have hB2 := btrans hB hZY
      replace HX1 := hid (HX1.out.below hZY)
      have HB := hid (bset hB2 (q := g) (k := m * 3 + 2) (by omega) (.slice (some ⟨g', 0, none⟩) F.length c'))
      have hfr : ∀ b, b ≠ g → (Y2.setCell ⟨g, m * 3 + 2, none⟩ (.slice (some ⟨g', 0, none⟩) F.length c')).heap[b]? = Y2.heap[b]? := fun b hb => by rw [Below.heap_setCell _ _ _ _ (by dsimp only; omega)]
      have hs3 : (Y2.setCell ⟨g, m * 3 + 2, none⟩ (.slice (some ⟨g', 0, none⟩) F.length c')).heap.size = Y2.heap.size := by simp
      replace gZ := (hfr _ (by omega)).trans gZ
      replace gQ := (hfr _ (by omega)).trans gQ
      replace HX1 := hid (HX1.out.frame (w' := (Y2.setCell ⟨g, m * 3 + 2, none⟩ (.slice (some ⟨g', 0, none⟩) F.length c'))) (fun b h1 h2 => hfr b (by omega)) (by omega))
      have hs3a := Nat.le_of_eq hs3
      have hs3b := Nat.le_of_eq hs3.symm
      clear hs3 hfr hB2 hB hZY hY2 HSET HTXP HCH HTH
      generalize Y2.setCell ⟨g, m * 3 + 2, none⟩ (.slice (some ⟨g', 0, none⟩) F.length c') = V3 at *
      obtain ⟨⟨v0, v1, v2⟩, s0, s1, s2⟩ := cellk3 gZ
      obtain ⟨⟨t0, t1, t2⟩, _⟩ := cellk3 gQ
      go_wp2_with fail
      have gF := setk3 gZ (.int .i64 now) (.slice a nr c) (.slice (some ⟨g, 0, none⟩) nt tcc)
      have bF := (bset (bset (bset HB.out (q := w.heap.size + 1) (k := 0) (by omega) (.int .i64 now)) (q := w.heap.size + 1) (k := 1) (by omega) (.slice a nr c)) (q := w.heap.size + 1) (k := 2) (by omega) (.slice (some ⟨g, 0, none⟩) nt tcc))
      have hfar : ∀ b, b ≠ w.heap.size + 1 → (((V3.setCell ⟨w.heap.size + 1, 0, none⟩ (.int .i64 now)).setCell ⟨w.heap.size + 1, 1, none⟩ (.slice a nr c)).setCell ⟨w.heap.size + 1, 2, none⟩ (.slice (some ⟨g, 0, none⟩) nt tcc)).heap[b]? = V3.heap[b]? := fun b hb => by rw [Below.heap_setCell _ _ _ _ (by dsimp only; omega), Below.heap_setCell _ _ _ _ (by dsimp only; omega), Below.heap_setCell _ _ _ _ (by dsimp only; omega)]
      have hszF : (((V3.setCell ⟨w.heap.size + 1, 0, none⟩ (.int .i64 now)).setCell ⟨w.heap.size + 1, 1, none⟩ (.slice a nr c)).setCell ⟨w.heap.size + 1, 2, none⟩ (.slice (some ⟨g, 0, none⟩) nt tcc)).heap.size = V3.heap.size := by simp
      have x1 := HX1.out.frame (w' := (((V3.setCell ⟨w.heap.size + 1, 0, none⟩ (.int .i64 now)).setCell ⟨w.heap.size + 1, 1, none⟩ (.slice a nr c)).setCell ⟨w.heap.size + 1, 2, none⟩ (.slice (some ⟨g, 0, none⟩) nt tcc))) (fun b h1 h2 => hfar b (by omega)) (by simp)
      have x2 := HTX.out (((V3.setCell ⟨w.heap.size + 1, 0, none⟩ (.int .i64 now)).setCell ⟨w.heap.size + 1, 1, none⟩ (.slice a nr c)).setCell ⟨w.heap.size + 1, 2, none⟩ (.slice (some ⟨g, 0, none⟩) nt tcc)) (fun b h => hfar b h) (by omega)
      generalize (((V3.setCell ⟨w.heap.size + 1, 0, none⟩ (.int .i64 now)).setCell ⟨w.heap.size + 1, 1, none⟩ (.slice a nr c)).setCell ⟨w.heap.size + 1, 2, none⟩ (.slice (some ⟨g, 0, none⟩) nt tcc)) = wf at *
      obtain ⟨⟨z0, z1, z2⟩, _⟩ := cellk3 gF
      exact bodyPost_ret (v := .tuple #[.agg #[.int .i64 now, .slice a nr c, .slice (some ⟨g, 0, none⟩) nt tcc], .int .i64 0]) (by simp [results, Tryz.results16, go_sem, z0, z1, z2]) rfl (ssn_mk2 k1 k2 HNR.out hsn x1 x2 bF)
end Go.Proofs.YtnajddjalagmoaaGreatDoor
namespace Go.Proofs.YtnajddjalagmoaaGreatDoor
open Go.RowKit
set_option linter.unusedSimpArgs false
set_option linter.unusedVariables false
set_option maxRecDepth 100000 in
set_option maxHeartbeats 4000000 in
theorem impl_TxnCut (now n id : Int) (B D : Nat) (rs : List Rw) (ts : List Tx) (w : World) (na nb : Addr) (hm : rs.length ≤ 1099511627776) (htm : ts.length ≤ 1099511627776) (hr : RwsS w B rs) (ht : TxsS w D ts) (hg : w.cell? ⟨0, 0, none⟩ = some (.iface 247 (.pointer (some na)))) (hgb : w.cell? ⟨2, 0, none⟩ = some (.iface 247 (.pointer (some nb)))) (he : w.cell? ⟨3, 0, none⟩ = some (.iface 173 (.agg #[.pointer (some ⟨4, 73, none⟩)]))) :
    Calls Tryz.prog 17 #[.agg #[.int .i64 now, .slice (some ⟨B, 0, none⟩) rs.length rs.length, .slice (some ⟨D, 0, none⟩) ts.length ts.length], .int .i64 n, .int .i64 id] w fun e w' => SBS w now rs (ctT now rs ts n id) (ctN now rs ts n id) e w' := by
  have HA := hid (fun (bi : Nat) (W : World) (hb : Below w.heap.size w W) c1 => after_cut now n id B D bi rs ts W na nb hm htm (hr.below hb) (ht.below hb) (keepcell hb hg) (keepcell hb hgb) (keepcell hb he) c1)
  clear hr ht hg hgb he
  generalize ctT now rs ts n id = bt at *
  generalize ctN now rs ts n id = bn at *
  unfold SBS at HA
  obtain ⟨nr, hnr⟩ : ∃ x, x = rs.length := ⟨_, rfl⟩
  obtain ⟨nt, hnt⟩ : ∃ x, x = ts.length := ⟨_, rfl⟩
  obtain ⟨nb', hnb⟩ : ∃ x, x = bt.length := ⟨_, rfl⟩
  have HNR := hid hnr.symm
  have HNB := hid hnb.symm
  rw [← hnr, ← hnt, ← hnb] at HA
  rw [← hnr, ← hnt]
  clear hnr hnt hnb
  have hB : Below w.heap.size w (((w.alloc (.cells #[.int .i64 now, .slice (some ⟨B, 0, none⟩) nr nr, .slice (some ⟨D, 0, none⟩) nt nt] 38)).alloc (.cells #[.int .i64 id] 3)).alloc (.cells #[.int .i64 0, .slice none 0 0, .slice none 0 0] 38)) := balloc (balloc (balloc (Below.refl _ _) _) _) _
  have gP := old_alloc (o' := .cells #[.int .i64 0, .slice none 0 0, .slice none 0 0] 38) (old_alloc (o' := .cells #[.int .i64 id] 3) (new_alloc w w.heap.size (.cells #[.int .i64 now, .slice (some ⟨B, 0, none⟩) nr nr, .slice (some ⟨D, 0, none⟩) nt nt] 38) rfl))
  have gI := old_alloc (o' := .cells #[.int .i64 0, .slice none 0 0, .slice none 0 0] 38) (new_alloc (w.alloc (.cells #[.int .i64 now, .slice (some ⟨B, 0, none⟩) nr nr, .slice (some ⟨D, 0, none⟩) nt nt] 38)) (w.heap.size + 1) (.cells #[.int .i64 id] 3) (by simp))
  have gZ := new_alloc ((w.alloc (.cells #[.int .i64 now, .slice (some ⟨B, 0, none⟩) nr nr, .slice (some ⟨D, 0, none⟩) nt nt] 38)).alloc (.cells #[.int .i64 id] 3)) (w.heap.size + 1 + 1) (.cells #[.int .i64 0, .slice none 0 0, .slice none 0 0] 38) (by simp)
  have hWs : w.heap.size + 1 + 1 < (((w.alloc (.cells #[.int .i64 now, .slice (some ⟨B, 0, none⟩) nr nr, .slice (some ⟨D, 0, none⟩) nt nt] 38)).alloc (.cells #[.int .i64 id] 3)).alloc (.cells #[.int .i64 0, .slice none 0 0, .slice none 0 0] 38)).heap.size := by simp
  go_enter Tryz.func17, Tryz.ntmps17
  go_upto_region 1 with fail
  generalize (((w.alloc (.cells #[.int .i64 now, .slice (some ⟨B, 0, none⟩) nr nr, .slice (some ⟨D, 0, none⟩) nt nt] 38)).alloc (.cells #[.int .i64 id] 3)).alloc (.cells #[.int .i64 0, .slice none 0 0, .slice none 0 0] 38)) = W at *
  obtain ⟨⟨d0, d1, d2⟩, _⟩ := cellk3 gP
  have HA2 := hid (HA.out (w.heap.size + 1) W hB (by simp [World.cell?, gI]))
  clear HA gI
  go_wp2_with fail
  refine HA2.out.mono ?_
  rintro e y ⟨a', c', ta', tcc', b1, u1, b2, u2, rfl, hx1, hx2, e1, e2, hy⟩
  replace gZ := keepheapA hy gZ
  have HB := hid (btrans hB hy)
  have HX1 := hid hx1
  have HX2 := hid hx2
  have hyz := hy.size
  clear hy hx1 hx2 HA2 d0 d1 d2 gP hB
  obtain ⟨⟨v0, v1, v2⟩, s0, s1, s2⟩ := cellk3 gZ
  go_wp2_with fail
  have gF := setk3 gZ (.int .i64 now) (.slice a' nr c') (.slice ta' nb' tcc')
  have bF := (bset (bset (bset HB.out (q := w.heap.size + 1 + 1) (k := 0) (by omega) (.int .i64 now)) (q := w.heap.size + 1 + 1) (k := 1) (by omega) (.slice a' nr c')) (q := w.heap.size + 1 + 1) (k := 2) (by omega) (.slice ta' nb' tcc'))
  have hfar : ∀ b, b ≠ w.heap.size + 1 + 1 → (((y.setCell ⟨w.heap.size + 1 + 1, 0, none⟩ (.int .i64 now)).setCell ⟨w.heap.size + 1 + 1, 1, none⟩ (.slice a' nr c')).setCell ⟨w.heap.size + 1 + 1, 2, none⟩ (.slice ta' nb' tcc')).heap[b]? = y.heap[b]? := fun b hb => by rw [Below.heap_setCell _ _ _ _ (by dsimp only; omega), Below.heap_setCell _ _ _ _ (by dsimp only; omega), Below.heap_setCell _ _ _ _ (by dsimp only; omega)]
  have x1 := HX1.out.frame (w' := (((y.setCell ⟨w.heap.size + 1 + 1, 0, none⟩ (.int .i64 now)).setCell ⟨w.heap.size + 1 + 1, 1, none⟩ (.slice a' nr c')).setCell ⟨w.heap.size + 1 + 1, 2, none⟩ (.slice ta' nb' tcc'))) (fun b h1 h2 => hfar b (by omega)) (by simp)
  have x2 := HX2.out.frame (w' := (((y.setCell ⟨w.heap.size + 1 + 1, 0, none⟩ (.int .i64 now)).setCell ⟨w.heap.size + 1 + 1, 1, none⟩ (.slice a' nr c')).setCell ⟨w.heap.size + 1 + 1, 2, none⟩ (.slice ta' nb' tcc'))) (fun b h1 h2 h3 => hfar b (by omega)) (by simp)
  generalize (((y.setCell ⟨w.heap.size + 1 + 1, 0, none⟩ (.int .i64 now)).setCell ⟨w.heap.size + 1 + 1, 1, none⟩ (.slice a' nr c')).setCell ⟨w.heap.size + 1 + 1, 2, none⟩ (.slice ta' nb' tcc')) = wf at *
  obtain ⟨⟨z0, z1, z2⟩, _⟩ := cellk3 gF
  exact bodyPost_ret (v := .tuple #[.agg #[.int .i64 now, .slice a' nr c', .slice ta' nb' tcc'], .int .i64 bn]) (by simp [results, Tryz.results17, go_sem, z0, z1, z2]) rfl (sbs_mk rfl rfl HNR.out HNB.out x1 x2 (by omega) (by omega) bF)
theorem ctX_S {rs : List Rw} {ts : List Tx} {m : Nat} {id : Int} (h : txS ts) (hc : ∀ (hm : m < ts.length), ts[m].2.2.length + 1 ≤ 1048576) : txS (ctX rs ts m id) := by
  unfold ctX
  split
  · rename_i hm
    split
    · refine ⟨by rw [List.length_set]; exact h.1, fun j hj => ?_⟩
      rw [List.getElem_set]
      split
      · have hl := putC_len ts[m].2.2 (id, true, 0, [])
        refine ⟨by have := hc hm; simp only; omega, fun k hk => ?_⟩
        simp only
        have hmem := List.getElem_mem hk
        simp only at hmem
        have hsub : ∀ y ∈ putC ts[m].2.2 (id, true, 0, []), y ∈ ts[m].2.2 ∨ y = (id, true, 0, []) := by
          intro y hy
          unfold putC at hy
          split at hy
          · rcases List.mem_or_eq_of_mem_set hy with q | q
            · exact .inl q
            · exact .inr q
          · simp only [List.mem_append, List.mem_singleton] at hy
            rcases hy with (q | q) | q
            · exact .inl (List.mem_of_mem_take q)
            · exact .inr q
            · exact .inl (List.mem_of_mem_drop q)
        rcases hsub _ hmem with q | q
        · obtain ⟨i, hi, e⟩ := List.getElem_of_mem q
          rw [← e]
          exact (h.2 m hm).2 i hi
        · rw [q]; simp
      · exact h.2 _ _
    · exact h
  · exact h
end Go.Proofs.YtnajddjalagmoaaGreatDoor
namespace Go.Proofs.YtnajddjalagmoaaGreatDoor
open Go.RowKit
set_option linter.unusedVariables false
/-- Rows that may be written into, from block B on, below hi. -/
def Own3 (hi : Nat) (w : World) (B : Nat) (rs : List Rw) : Prop := B < hi ∧ hi ≤ w.heap.size ∧ w.there B 0 (rs.length * 5) ∧ RwsO hi w B rs
theorem Own3.below {hi : Nat} {w w' : World} {B : Nat} {rs : List Rw} (h : Own3 hi w B rs) (H : Below w.heap.size w w') : Own3 hi w' B rs :=
  ⟨h.1, Nat.le_trans h.2.1 H.size, there_below h.2.2.1 (Nat.lt_of_lt_of_le h.1 h.2.1) H, h.2.2.2.below h.2.1 H⟩
def BS (Y w : World) : Prop := Below Y.heap.size Y w
theorem BS.below {Y a b : World} (h : BS Y a) (H : Below a.heap.size a b) : BS Y b := btrans h H
def SizeLe (Y : World) (n : Nat) : Prop := Y.heap.size ≤ n
theorem bs_mid {Y a b : World} {lo hi : Nat} (h : BS Y a) (m : Mid lo hi a b) (hl : SizeLe Y lo) : BS Y b := mid_B h m hl h.size
end Go.Proofs.YtnajddjalagmoaaGreatDoor
namespace Go.Proofs.YtnajddjalagmoaaGreatDoor
open Go.RowKit
set_option linter.unusedSimpArgs false
set_option linter.unusedVariables false
theorem cellsCh : Tryz.prog.cellsOf 160 = 4 := by kernel_rfl
theorem cellsTx : Tryz.prog.cellsOf 89 = 3 := by kernel_rfl
theorem cellsSt : Tryz.prog.cellsOf 27 = 3 := by kernel_rfl
theorem cellsRws : Tryz.prog.cellsOf 24 = 2 := by kernel_rfl
set_option maxRecDepth 100000 in
theorem open_ch {H : Type} {enc : TypeId × Value → H} {W : World} {base fuel : Nat} {cs : List Value} {x : DataW H × List MemPlace} (h : DataW.trod enc Tryz.prog W base (fun _ => true) true fuel 160 cs = some x) : ∃ (r : Ch) (a : Option Addr) (cap : Nat), cs = [.int .i64 r.1, .bool r.2.1, .int .i64 r.2.2.1, .slice a r.2.2.2.length cap] ∧ PtsIn W a cap r.2.2.2 := by
  obtain ⟨xs, n, _, _, hlen, hxl, hf⟩ := DataW.trod_struct Tryz.underlying160 h
  rw [cellsCh] at hlen
  match xs, hxl, cs, hlen with
  | [y0, y1, y2], _, [v0, v1, v2, v3], _ =>
    have g0 : DataW.trod enc Tryz.prog W base (fun _ => true) true n 3 (([v0, v1, v2, v3].drop 0).take (Tryz.prog.cellsOf 3)) = some y0 := hf 0 _ rfl
    have g1 : DataW.trod enc Tryz.prog W base (fun _ => true) true n 4 (([v0, v1, v2, v3].drop 1).take (Tryz.prog.cellsOf 4)) = some y1 := hf 1 _ rfl
    have g2 : DataW.trod enc Tryz.prog W base (fun _ => true) true n 30 (([v0, v1, v2, v3].drop 2).take (Tryz.prog.cellsOf 30)) = some y2 := hf 2 _ rfl
    rw [show Tryz.prog.cellsOf 3 = 1 by kernel_rfl] at g0
    rw [show Tryz.prog.cellsOf 4 = 1 by kernel_rfl] at g1
    rw [cellsShape] at g2
    simp at g0 g1 g2
    obtain ⟨z0, e0, _, _⟩ := DataW.trod_int Tryz.underlying3 g0
    obtain ⟨z1, e1, _⟩ := DataW.trod_bool Tryz.underlying4 g1
    obtain ⟨xs', n', _, _, _, hxl', hf'⟩ := DataW.trod_struct Tryz.underlying30 g2
    match xs', hxl' with
    | [u0, u1], _ =>
      have q0 : DataW.trod enc Tryz.prog W base (fun _ => true) true n' 3 (([v2, v3].drop 0).take (Tryz.prog.cellsOf 3)) = some u0 := hf' 0 _ rfl
      have q1 : DataW.trod enc Tryz.prog W base (fun _ => true) true n' 28 (([v2, v3].drop 1).take (Tryz.prog.cellsOf 28)) = some u1 := hf' 1 _ rfl
      rw [show Tryz.prog.cellsOf 3 = 1 by kernel_rfl] at q0
      rw [show Tryz.prog.cellsOf 28 = 1 by kernel_rfl] at q1
      simp at q0 q1
      obtain ⟨z3, e3, _, _⟩ := DataW.trod_int Tryz.underlying3 q0
      obtain ⟨a, cap, ps, e4, hp⟩ := open_points q1
      simp at e0 e1 e3
      exact ⟨(z0, z1, z3, ps), a, cap, by simp [e0, e1, e3, e4], hp⟩
theorem open_chs {H : Type} {enc : TypeId × Value → H} {W : World} {base fuel : Nat} {v : Value} {x : DataW H × List MemPlace} (h : DataW.trod enc Tryz.prog W base (fun _ => true) true fuel 87 [v] = some x) : ∃ (a : Option Addr) (cap : Nat) (xs : List Ch), v = .slice a xs.length cap ∧ xs.length ≤ cap ∧ xs.length ≤ 9223372036854775807 ∧ Chs (fun _ => True) 9223372036854775807 W a xs := by
  rcases Go.Deep.open_slice Tryz.underlying87 h with ⟨hcs, _⟩ | ⟨a, len, cap, m, n, D, Pl, hcs, _, hl, hm, hmm, _, hall⟩
  · simp at hcs
    exact ⟨none, 0, [], hcs, by simp, by simp, .inl rfl⟩
  · simp at hcs
    have hlm : len ≤ m := by rw [hmm]; simp; exact hl
    have hM : len ≤ 9223372036854775807 := Nat.le_trans hl hm
    by_cases h0 : len = 0
    · subst h0
      exact ⟨some a, cap, [], hcs, by simp, by simp, .inl rfl⟩
    rw [cellsCh] at hall
    have each : ∀ j : Nat, ∃ r : Ch, j < len → ∃ (a' : Option Addr) (cap' : Nat), W.cells? base (a.add (j * 4)) 4 = some [.int .i64 r.1, .bool r.2.1, .int .i64 r.2.2.1, .slice a' r.2.2.2.length cap'] ∧ PtsIn W a' cap' r.2.2.2 := by
      intro j
      by_cases hj : j < len
      · obtain ⟨cs', h1, h2⟩ := hall j (by omega)
        obtain ⟨r, a', cap', e, hp⟩ := open_ch h2
        subst e
        exact ⟨r, fun _ => ⟨a', cap', h1, hp⟩⟩
      · exact ⟨(0, false, 0, []), fun h' => absurd h' hj⟩
    have ⟨f, hf⟩ := Classical.axiomOfChoice each
    have hspot : a.spot = none := by
      obtain ⟨_, _, h1, _⟩ := hf 0 (by omega)
      have h00 := (World.cells?_some h1).2.2 0 (by omega)
      simp only [Nat.zero_mul, Addr.add, if_true] at h00
      unfold World.cell? at h00
      split at h00
      · split at h00
        · cases h00
        · rename_i q; simpa using q
      · cases h00
    obtain ⟨b, o, s⟩ := a
    simp only at hspot
    subst hspot
    have hblk : b < W.heap.size := by
      obtain ⟨_, _, h1, _⟩ := hf 0 (by omega)
      have h00 := (World.cells?_some h1).2.2 0 (by omega)
      rw [Go.Deep.add_add, Addr.add_mid] at h00
      exact World.block_lt_of_cell? W _ (h00.trans rfl)
    refine ⟨some ⟨b, o, none⟩, cap, (List.range len).map f, by simpa using hcs, by simpa using hl, by simpa using hM, .inr ⟨b, o, rfl, hblk, fun j hj => ?_⟩⟩
    simp only [List.length_map, List.length_range] at hj
    have e : ((List.range len).map f)[j]'(by simpa using hj) = f j := by simp
    rw [e]
    obtain ⟨a', cap', h1, hp⟩ := hf j hj
    have hc := (World.cells?_some h1).2.2
    have c0 := hc 0 (by omega)
    have c1 := hc 1 (by omega)
    have c2 := hc 2 (by omega)
    have c3 := hc 3 (by omega)
    rw [Go.Deep.add_add, Addr.add_mid] at c0 c1 c2 c3
    exact ⟨a', cap', c0, c1, c2, c3, hp.2.1, Nat.le_trans hp.2.1 hp.2.2, hp.1, fun _ _ _ => trivial⟩
set_option maxRecDepth 100000 in
theorem open_tx {H : Type} {enc : TypeId × Value → H} {W : World} {base fuel : Nat} {cs : List Value} {x : DataW H × List MemPlace} (h : DataW.trod enc Tryz.prog W base (fun _ => true) true fuel 89 cs = some x) : ∃ (r : Tx) (a : Option Addr) (cap : Nat), cs = [.int .i64 r.1, .bool r.2.1, .slice a r.2.2.length cap] ∧ (r.2.2.length ≤ cap ∧ r.2.2.length ≤ 9223372036854775807 ∧ Chs (fun _ => True) 9223372036854775807 W a r.2.2) := by
  obtain ⟨xs, n, _, _, hlen, hxl, hf⟩ := DataW.trod_struct Tryz.underlying89 h
  rw [cellsTx] at hlen
  match xs, hxl, cs, hlen with
  | [y0, y1, y2], _, [v0, v1, v2], _ =>
    have g0 : DataW.trod enc Tryz.prog W base (fun _ => true) true n 3 (([v0, v1, v2].drop 0).take (Tryz.prog.cellsOf 3)) = some y0 := hf 0 _ rfl
    have g1 : DataW.trod enc Tryz.prog W base (fun _ => true) true n 4 (([v0, v1, v2].drop 1).take (Tryz.prog.cellsOf 4)) = some y1 := hf 1 _ rfl
    have g2 : DataW.trod enc Tryz.prog W base (fun _ => true) true n 87 (([v0, v1, v2].drop 2).take (Tryz.prog.cellsOf 87)) = some y2 := hf 2 _ rfl
    rw [show Tryz.prog.cellsOf 3 = 1 by kernel_rfl] at g0
    rw [show Tryz.prog.cellsOf 4 = 1 by kernel_rfl] at g1
    rw [show Tryz.prog.cellsOf 87 = 1 by kernel_rfl] at g2
    simp at g0 g1 g2
    obtain ⟨z0, e0, _, _⟩ := DataW.trod_int Tryz.underlying3 g0
    obtain ⟨z1, e1, _⟩ := DataW.trod_bool Tryz.underlying4 g1
    obtain ⟨a, cap, ps, e4, h1, h2, hp⟩ := open_chs g2
    simp at e0 e1
    exact ⟨(z0, z1, ps), a, cap, by simp [e0, e1, e4], h1, h2, hp⟩
theorem open_txs {H : Type} {enc : TypeId × Value → H} {W : World} {base fuel : Nat} {v : Value} {x : DataW H × List MemPlace} (h : DataW.trod enc Tryz.prog W base (fun _ => true) true fuel 25 [v] = some x) : ∃ (a : Option Addr) (cap : Nat) (xs : List Tx), v = .slice a xs.length cap ∧ xs.length ≤ cap ∧ xs.length ≤ 9223372036854775807 ∧ Txs (fun _ => True) 9223372036854775807 W a xs := by
  rcases Go.Deep.open_slice Tryz.underlying25 h with ⟨hcs, _⟩ | ⟨a, len, cap, m, n, D, Pl, hcs, _, hl, hm, hmm, _, hall⟩
  · simp at hcs
    exact ⟨none, 0, [], hcs, by simp, by simp, .inl rfl⟩
  · simp at hcs
    have hlm : len ≤ m := by rw [hmm]; simp; exact hl
    have hM : len ≤ 9223372036854775807 := Nat.le_trans hl hm
    by_cases h0 : len = 0
    · subst h0
      exact ⟨some a, cap, [], hcs, by simp, by simp, .inl rfl⟩
    rw [cellsTx] at hall
    have each : ∀ j : Nat, ∃ r : Tx, j < len → ∃ (a' : Option Addr) (cap' : Nat), W.cells? base (a.add (j * 3)) 3 = some [.int .i64 r.1, .bool r.2.1, .slice a' r.2.2.length cap'] ∧ (r.2.2.length ≤ cap' ∧ r.2.2.length ≤ 9223372036854775807 ∧ Chs (fun _ => True) 9223372036854775807 W a' r.2.2) := by
      intro j
      by_cases hj : j < len
      · obtain ⟨cs', h1, h2⟩ := hall j (by omega)
        obtain ⟨r, a', cap', e, hp⟩ := open_tx h2
        subst e
        exact ⟨r, fun _ => ⟨a', cap', h1, hp⟩⟩
      · exact ⟨(0, false, []), fun h' => absurd h' hj⟩
    have ⟨f, hf⟩ := Classical.axiomOfChoice each
    have hspot : a.spot = none := by
      obtain ⟨_, _, h1, _⟩ := hf 0 (by omega)
      have h00 := (World.cells?_some h1).2.2 0 (by omega)
      simp only [Nat.zero_mul, Addr.add, if_true] at h00
      unfold World.cell? at h00
      split at h00
      · split at h00
        · cases h00
        · rename_i q; simpa using q
      · cases h00
    obtain ⟨b, o, s⟩ := a
    simp only at hspot
    subst hspot
    have hblk : b < W.heap.size := by
      obtain ⟨_, _, h1, _⟩ := hf 0 (by omega)
      have h00 := (World.cells?_some h1).2.2 0 (by omega)
      rw [Go.Deep.add_add, Addr.add_mid] at h00
      exact World.block_lt_of_cell? W _ (h00.trans rfl)
    refine ⟨some ⟨b, o, none⟩, cap, (List.range len).map f, by simpa using hcs, by simpa using hl, by simpa using hM, .inr ⟨b, o, rfl, hblk, fun j hj => ?_⟩⟩
    simp only [List.length_map, List.length_range] at hj
    have e : ((List.range len).map f)[j]'(by simpa using hj) = f j := by simp
    rw [e]
    obtain ⟨a', cap', h1, hp⟩ := hf j hj
    have hc := (World.cells?_some h1).2.2
    have c0 := hc 0 (by omega)
    have c1 := hc 1 (by omega)
    have c2 := hc 2 (by omega)
    rw [Go.Deep.add_add, Addr.add_mid] at c0 c1 c2
    exact ⟨a', cap', c0, c1, c2, hp.1, hp.2.1, hp.2.2, fun _ _ _ => trivial⟩
set_option maxRecDepth 100000 in
theorem open_store {H : Type} {enc : TypeId × Value → H} {W : World} {base fuel : Nat} {cs : List Value} {x : DataW H × List MemPlace} (h : DataW.trod enc Tryz.prog W base (fun _ => true) true fuel 27 cs = some x) : ∃ (now : Int) (a : Option Addr) (cap : Nat) (rs : List Rw) (ta : Option Addr) (tcap : Nat) (ts : List Tx), cs = [.int .i64 now, .slice a rs.length cap, .slice ta ts.length tcap] ∧ rs.length ≤ 9223372036854775807 ∧ RwsL W a rs ∧ ts.length ≤ 9223372036854775807 ∧ Txs (fun _ => True) 9223372036854775807 W ta ts := by
  obtain ⟨xs, n, _, _, hlen, hxl, hf⟩ := DataW.trod_struct Tryz.underlying27 h
  rw [cellsSt] at hlen
  match xs, hxl, cs, hlen with
  | [y0, y1], _, [v0, v1, v2], _ =>
    have g0 : DataW.trod enc Tryz.prog W base (fun _ => true) true n 24 (([v0, v1, v2].drop 0).take (Tryz.prog.cellsOf 24)) = some y0 := hf 0 _ rfl
    have g1 : DataW.trod enc Tryz.prog W base (fun _ => true) true n 25 (([v0, v1, v2].drop 2).take (Tryz.prog.cellsOf 25)) = some y1 := hf 1 _ rfl
    rw [cellsRws] at g0
    rw [show Tryz.prog.cellsOf 25 = 1 by kernel_rfl] at g1
    simp at g0 g1
    obtain ⟨xs', n', _, _, _, hxl', hf'⟩ := DataW.trod_struct Tryz.underlying24 g0
    match xs', hxl' with
    | [u0, u1], _ =>
      have q0 : DataW.trod enc Tryz.prog W base (fun _ => true) true n' 3 (([v0, v1].drop 0).take (Tryz.prog.cellsOf 3)) = some u0 := hf' 0 _ rfl
      have q1 : DataW.trod enc Tryz.prog W base (fun _ => true) true n' 22 (([v0, v1].drop 1).take (Tryz.prog.cellsOf 22)) = some u1 := hf' 1 _ rfl
      rw [show Tryz.prog.cellsOf 3 = 1 by kernel_rfl] at q0
      rw [show Tryz.prog.cellsOf 22 = 1 by kernel_rfl] at q1
      simp at q0 q1
      obtain ⟨z0, e0, _, _⟩ := DataW.trod_int Tryz.underlying3 q0
      obtain ⟨a, cap, rs, e1, hl, hr⟩ := open_rows q1
      obtain ⟨ta, tcap, ts, e2, _, htl, htx⟩ := open_txs g1
      simp at e0
      exact ⟨z0, a, cap, rs, ta, tcap, ts, by simp [e0, e1, e2], hl, hr, htl, htx⟩
theorem setk3a {w : World} {p : Nat} {o0 o1 o2 : Value} {t : TypeId} (h : w.heap[p]? = some (.cells #[o0, o1, o2] t (0, 0))) (a b : Value) : ((w.setCell ⟨p, 0, none⟩ a).setCell ⟨p, 1, none⟩ b).heap[p]? = some (.cells #[a, b, o2] t (0, 0)) := by
  have st : ∀ (W : World) (cs : Array Value) (k : Nat) (u : Value), W.heap[p]? = some (.cells cs t (0, 0)) → (W.setCell ⟨p, k, none⟩ u).heap[p]? = some (.cells (cs.setIfInBounds k u) t (0, 0)) := by
    intro W cs k u h
    have hlt := lt_of_block h
    have h' : W.heap[p] = .cells cs t (0, 0) := by simpa [Array.getElem?_eq_getElem hlt] using h
    show (W.heap.modify p _)[p]? = _
    rw [Array.getElem?_eq_getElem (by simpa using hlt), Array.getElem_modify_self, h']
    rfl
  have e4 := st _ _ 1 b (st _ _ 0 a h)
  simpa using e4
end Go.Proofs.YtnajddjalagmoaaGreatDoor
