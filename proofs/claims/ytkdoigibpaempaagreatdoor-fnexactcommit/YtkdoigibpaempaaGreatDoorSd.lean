import Derived.Test.YtkdoigibpaempaaGreatDoorSb
import Derived.Test.YtkdoigibpaempaaGreatDoorJ14
set_option linter.unusedSimpArgs false
set_option linter.unusedVariables false
namespace Go.Proofs.YtkdoigibpaempaaGreatDoor
open Go.RowKit
def chd : Ch := (0, false, 0, [])
def chb (x : Ch) : Bool := idb x.1 && (x.2.1 || shok x.2.2.1 x.2.2.2)
def asc (cs : List Ch) (i : Nat) : Bool := decide (i = 0) || decide ((cs.getD (i - 1) chd).1 < (cs.getD i chd).1)
def edi (cs : List Ch) (i : Nat) : Bool := chb (cs.getD i chd) && asc cs i
def edb (cs : List Ch) : Bool := (List.range cs.length).all (edi cs)
theorem edb_no {cs : List Ch} {i : Nat} (hi : i < cs.length) (h : edi cs i = false) : edb cs = false := by
  unfold edb
  rw [List.all_eq_false]
  exact ⟨i, List.mem_range.2 hi, by simp [h]⟩
theorem edb_yes {cs : List Ch} (h : ∀ i, i < cs.length → edi cs i = true) : edb cs = true := by
  unfold edb
  rw [List.all_eq_true]
  exact fun i hi => h i (List.mem_range.1 hi)
theorem getD_ch {cs : List Ch} {i : Nat} (h : i < cs.length) : cs.getD i chd = cs[i] := by
  rw [List.getD_eq_getElem?_getD, List.getElem?_eq_getElem h]; rfl
set_option maxRecDepth 100000 in
set_option maxHeartbeats 4000000 in
theorem impl_edits {N : Nat → Prop} (a : Option Addr) (cap : Nat) (cs : List Ch) (w : World) (hm : cs.length ≤ 1099511627776) (h : Chs N 1099511627776 w a cs) : Calls Tryz.prog 114 #[.slice a cs.length cap] w fun e w' => e = .returned (.bool (edb cs)) ∧ Below w.heap.size w w' := by
  have HR := hid h
  clear h
  have HNO : Hid (∀ i, i < cs.length → edi cs i = false → edb cs = false) := hid (fun i hi h => edb_no hi h)
  have HYE : Hid ((∀ i, i < cs.length → edi cs i = true) → edb cs = true) := hid edb_yes
  generalize edb cs = eb at *
  obtain ⟨n, hn⟩ : ∃ n, n = cs.length := ⟨_, rfl⟩
  have HN := hid hn.symm
  rw [← hn] at hm ⊢
  clear hn
  go_enter Tryz.func114, Tryz.ntmps114
  go_wp2_with fail
  go_loopw [8] (fun ti wr => ∃ i : Nat, ti = .int .i64 i ∧ i ≤ n ∧ Hid (∀ m, m < i → edi cs m = true) ∧ Hid (Below w.heap.size w wr)) (fun ti _ => n - (intOf ti).toNat)
  case atStart => exact ⟨0, rfl, Nat.zero_le _, hid (fun m hh => absurd hh (by omega)), hid (Below.refl _ _)⟩
  case round =>
    obtain ⟨i, rfl, hi, HA, HBW⟩ := hrel
    by_cases hlt : i < n
    · have c1 : (i : Int) < (n : Int) := by omega
      have hir : i < cs.length := by rw [HN.out]; exact hlt
      obtain ⟨b, o, rfl, hbs, hall⟩ : ∃ b o, a = some ⟨b, o, none⟩ ∧ b < wr.heap.size ∧ ChsAt N 1099511627776 wr b o cs := by
        rcases HR.out.below HBW.out with h | h
        · rw [h] at hir; simp at hir
        · exact h
      obtain ⟨a', cap', k0, k1, k2, q1, q2, q3, q4, _⟩ := hall i hir
      have HALL : Hid (∀ k, k + 1 = i → wr.cell? ⟨b, o + k * 4, none⟩ = some (.int .i64 (cs.getD k chd).1)) := hid (fun k hk => by
        have hkr : k < cs.length := by omega
        obtain ⟨_, _, z0, _⟩ := hall k hkr
        rw [getD_ch hkr]; exact z0)
      have HSO := hid (fun (W : World) (hb : Below wr.heap.size wr W) => impl_ShapeOk cs[i].2.2.1 a' cap' cs[i].2.2.2 W q3 q2 (q4.below hb))
      unfold shv at HSO
      have HE : Hid (edi cs i = ((idb cs[i].1 && (cs[i].2.1 || shok cs[i].2.2.1 cs[i].2.2.2)) && asc cs i)) := hid (by unfold edi chb; rw [getD_ch hir])
      have HAS : Hid (asc cs i = (decide (i = 0) || decide ((cs.getD (i - 1) chd).1 < cs[i].1))) := hid (by unfold asc; rw [getD_ch hir])
      have HNOI := hid (HNO.out i hir)
      have HNEXT : Hid (edi cs i = true → ∀ m, m < i + 1 → edi cs m = true) := hid (fun e1 m hm => by
        by_cases e : m = i
        · subst e; exact e1
        · exact HA.out m (by omega))
      have HIDc := hid (fun w => impl_id cs[i].1 w)
      clear q2 q3 q4 hall
      generalize edi cs i = ei at HE HNOI HNEXT
      generalize asc cs i = ab at HE HAS
      generalize cs[i].1 = id at *
      generalize cs[i].2.1 = go at *
      generalize cs[i].2.2.1 = kd at *
      generalize cs[i].2.2.2 = ps at *
      go_upto_region 4 with fail
      have hBx : Below wr.heap.size wr (wr.alloc (.cells #[.int .i64 id, .bool go, .int .i64 kd, .slice a' ps.length cap'] 54)) := balloc (Below.refl _ _) _
      have gx := new_alloc wr wr.heap.size (.cells #[.int .i64 id, .bool go, .int .i64 kd, .slice a' ps.length cap'] 54) rfl
      have HBX := hid hBx
      have HB1 := hid (btrans HBW.out hBx)
      have HP1 : Hid (∀ k, k + 1 = i → (wr.alloc (.cells #[.int .i64 id, .bool go, .int .i64 kd, .slice a' ps.length cap'] 54)).cell? ⟨b, o + k * 4, none⟩ = some (.int .i64 (cs.getD k chd).1)) := hid (fun k hk => keepalloc (HALL.out k hk) _)
      clear hBx k0 k1 k2 q1 HALL
      generalize wr.alloc (.cells #[.int .i64 id, .bool go, .int .i64 kd, .slice a' ps.length cap'] 54) = W1 at *
      obtain ⟨X, hX⟩ : ∃ X, X = wr.heap.size := ⟨_, rfl⟩
      have HXE := hid hX
      rw [← hX] at gx ⊢
      clear hX
      obtain ⟨⟨x0, x1, x2, x3⟩, _⟩ := cellk4 gx
      go_cut [5] (fun t5 wx => t5 = .bool ab ∧ Hid (Below W1.heap.size W1 wx))
      case first =>
        rcases Nat.eq_zero_or_pos i with hz | hp
        · have HAB : Hid (ab = true) := hid (by rw [HAS.out, hz]; rfl)
          clear HAS
          subst hz
          refine wp_region_held_drew (S := (fun w' => w'.cell? ⟨X, 0, none⟩ = some (.int .i64 id))) (by kernel_rfl) ?_ (fun hHeld => ?_)
          · (repeat' apply And.intro) <;> (with_reducible repeat (first | assumption | refine keepdrew ?_ | refine keepcell (by assumption) ?_ | refine keepalloc ?_ _))
          refine wpAnyH_take (i := 0) (v := ?_) rfl (by kernel_rfl) (by kernel_rfl) (by kernel_rfl) (fun _ _ _ h => h) (Or.inl ⟨by rfl, ?_⟩) hHeld ?_
          rotate_left
          · intro w hSw; (try dsimp only at hSw); go_simp; try (with_reducible rfl)
          try simp only [sq]
          refine wpAnyH_take (i := 1) (v := ?_) rfl (by kernel_rfl) (by kernel_rfl) (by kernel_rfl) (fun _ _ _ h => h) (Or.inl ⟨by rfl, ?_⟩) hHeld ?_
          rotate_left
          · intro w hSw; (try dsimp only at hSw); go_simp; try (with_reducible rfl)
          try simp only [sq]
          refine wpAnyH_take (i := 2) (v := ?_) rfl (by kernel_rfl) (by kernel_rfl) (by kernel_rfl) (fun _ _ _ h => h) (Or.inl ⟨by rfl, ?_⟩) hHeld ?_
          rotate_left
          · intro w hSw; (try dsimp only at hSw); go_simp; try (with_reducible rfl)
          try simp only [sq]
          refine wpAnyH_take (i := 3) (v := undef) rfl (by kernel_rfl) (by kernel_rfl) (by kernel_rfl) (fun _ _ _ h => h) (Or.inr ⟨by rfl, rfl⟩) hHeld ?_
          try simp only [sq]
          refine wpAnyH_take (i := 4) (v := undef) rfl (by kernel_rfl) (by kernel_rfl) (by kernel_rfl) (fun _ _ _ h => h) (Or.inr ⟨by rfl, rfl⟩) hHeld ?_
          try simp only [sq]
          refine wpAnyH_take (i := 5) (v := undef) rfl (by kernel_rfl) (by kernel_rfl) (by kernel_rfl) (fun _ _ _ h => h) (Or.inr ⟨by rfl, rfl⟩) hHeld ?_
          try simp only [sq]
          refine wpAnyH_take (i := 6) (v := undef) rfl (by kernel_rfl) (by kernel_rfl) (by kernel_rfl) (fun _ _ _ h => h) (Or.inr ⟨by rfl, rfl⟩) hHeld ?_
          try simp only [sq]
          refine wpAnyH_take (i := 7) (v := undef) rfl (by kernel_rfl) (by kernel_rfl) (by kernel_rfl) (fun _ _ _ h => h) (Or.inr ⟨by rfl, rfl⟩) hHeld ?_
          try simp only [sq]
          refine wpAnyH_take (i := 8) (v := undef) rfl (by kernel_rfl) (by kernel_rfl) (by kernel_rfl) (fun _ _ _ h => h) (Or.inr ⟨by rfl, rfl⟩) hHeld ?_
          try simp only [sq]
          refine wpAnyH_take (i := 9) (v := undef) rfl (by kernel_rfl) (by kernel_rfl) (by kernel_rfl) (fun _ _ _ h => h) (Or.inr ⟨by rfl, rfl⟩) hHeld ?_
          try simp only [sq]
          refine wpAnyH_take (i := 10) (v := undef) rfl (by kernel_rfl) (by kernel_rfl) (by kernel_rfl) (fun _ _ _ h => h) (Or.inr ⟨by rfl, rfl⟩) hHeld ?_
          try simp only [sq]
          refine wpAnyH_take (i := 11) (v := undef) rfl (by kernel_rfl) (by kernel_rfl) (by kernel_rfl) (fun _ _ _ h => h) (Or.inr ⟨by rfl, rfl⟩) hHeld ?_
          try simp only [sq]
          refine wpAnyH_take (i := 12) (v := ?_) rfl (by kernel_rfl) (by kernel_rfl) (by kernel_rfl) (fun _ _ _ h => h) (Or.inl ⟨by rfl, ?_⟩) hHeld ?_
          rotate_left
          · intro w hSw; (try dsimp only at hSw); go_simp; try (with_reducible rfl)
          try simp only [sq]
          refine wpAnyH_take (i := 13) (v := ?_) rfl (by kernel_rfl) (by kernel_rfl) (by kernel_rfl) (fun _ _ _ h => h) (Or.inl ⟨by rfl, ?_⟩) hHeld ?_
          rotate_left
          · intro w hSw; (try dsimp only at hSw); go_simp; try (with_reducible rfl)
          try simp only [sq]
          refine wpAnyH_done (by kernel_rfl) ?_ _
          go_wp2_with fail
          go_meet
          exact ⟨by rw [HAB.out], hid (by show Below _ _ _; (with_reducible repeat (first | exact Below.refl _ _ | refine bdrew ?_)))⟩
        · obtain ⟨k, rfl⟩ : ∃ k, i = k + 1 := ⟨i - 1, by omega⟩
          have y0 := HP1.out k rfl
          have hk1 : ¬ (k + 1 = 0) := by omega
          simp only [Nat.add_sub_cancel] at HAS
          generalize (cs.getD k chd).1 = pid at y0 HAS
          have HAB : Hid (ab = decide (pid < id)) := hid (by rw [HAS.out]; simp)
          clear HAS
          have hz1 : ((((k + 1 : Nat) : Int)) == 0) = false := by simp; omega
          have hw1 : IntKind.i64.wrap (((k + 1 : Nat) : Int) - 1) = (k : Int) := by rw [IntKind.wrap_i64]; omega
          have hw2 : IntKind.i64.wrap (k : Int) = (k : Int) := by rw [IntKind.wrap_i64]; omega
          have hk0 : (0 : Int) ≤ (k : Int) := by omega
          have hkn : (k : Int) < (n : Int) := by omega
          refine wp_region_held_drew (S := (fun w' => w'.cell? ⟨X, 0, none⟩ = some (.int .i64 id) ∧ w'.cell? ⟨b, o + k * 4, none⟩ = some (.int .i64 pid))) (by kernel_rfl) ?_ (fun hHeld => ?_)
          · (repeat' apply And.intro) <;> (with_reducible repeat (first | assumption | refine keepdrew ?_ | refine keepcell (by assumption) ?_ | refine keepalloc ?_ _))
          refine wpAnyH_take (i := 0) (v := ?_) rfl (by kernel_rfl) (by kernel_rfl) (by kernel_rfl) (fun _ _ _ h => h) (Or.inl ⟨by rfl, ?_⟩) hHeld ?_
          rotate_left
          · intro w hSw; (try dsimp only at hSw); go_simp; try (with_reducible rfl)
          try simp only [sq]
          refine wpAnyH_take (i := 1) (v := ?_) rfl (by kernel_rfl) (by kernel_rfl) (by kernel_rfl) (fun _ _ _ h => h) (Or.inl ⟨by rfl, ?_⟩) hHeld ?_
          rotate_left
          · intro w hSw; (try dsimp only at hSw); go_simp; try (with_reducible rfl)
          try simp only [sq]
          refine wpAnyH_take (i := 2) (v := ?_) rfl (by kernel_rfl) (by kernel_rfl) (by kernel_rfl) (fun _ _ _ h => h) (Or.inl ⟨by rfl, ?_⟩) hHeld ?_
          rotate_left
          · intro w hSw; (try dsimp only at hSw); go_simp; try (with_reducible rfl)
          try simp only [sq]
          refine wpAnyH_take (i := 3) (v := ?_) rfl (by kernel_rfl) (by kernel_rfl) (by kernel_rfl) (fun _ _ _ h => h) (Or.inl ⟨by rfl, ?_⟩) hHeld ?_
          rotate_left
          · intro w hSw; (try dsimp only at hSw); go_simp; try (with_reducible rfl)
          try simp only [sq]
          refine wpAnyH_take (i := 4) (v := ?_) rfl (by kernel_rfl) (by kernel_rfl) (by kernel_rfl) (fun _ _ _ h => h) (Or.inl ⟨by rfl, ?_⟩) hHeld ?_
          rotate_left
          · intro w hSw; (try dsimp only at hSw); go_simp; try (with_reducible rfl)
          try simp only [sq]
          refine wpAnyH_take (i := 5) (v := ?_) rfl (by kernel_rfl) (by kernel_rfl) (by kernel_rfl) (fun _ _ _ h => h) (Or.inl ⟨by rfl, ?_⟩) hHeld ?_
          rotate_left
          · intro w hSw; (try dsimp only at hSw); go_simp; try (with_reducible rfl)
          try simp only [sq]
          refine wpAnyH_take (i := 6) (v := ?_) rfl (by kernel_rfl) (by kernel_rfl) (by kernel_rfl) (fun _ _ _ h => h) (Or.inl ⟨by rfl, ?_⟩) hHeld ?_
          rotate_left
          · intro w hSw; (try dsimp only at hSw); go_simp; try (with_reducible rfl)
          try simp only [sq]
          refine wpAnyH_take (i := 7) (v := ?_) rfl (by kernel_rfl) (by kernel_rfl) (by kernel_rfl) (fun _ _ _ h => h) (Or.inl ⟨by rfl, ?_⟩) hHeld ?_
          rotate_left
          · intro w hSw; (try dsimp only at hSw); go_simp; try (with_reducible rfl)
          try simp only [sq]
          refine wpAnyH_take (i := 8) (v := ?_) rfl (by kernel_rfl) (by kernel_rfl) (by kernel_rfl) (fun _ _ _ h => h) (Or.inl ⟨by rfl, ?_⟩) hHeld ?_
          rotate_left
          · intro w hSw; (try dsimp only at hSw); go_simp; try (with_reducible rfl)
          try simp only [sq]
          refine wpAnyH_take (i := 9) (v := ?_) rfl (by kernel_rfl) (by kernel_rfl) (by kernel_rfl) (fun _ _ _ h => h) (Or.inl ⟨by rfl, ?_⟩) hHeld ?_
          rotate_left
          · intro w hSw; (try dsimp only at hSw); go_simp; try (with_reducible rfl)
          try simp only [sq]
          refine wpAnyH_take (i := 10) (v := ?_) rfl (by kernel_rfl) (by kernel_rfl) (by kernel_rfl) (fun _ _ _ h => h) (Or.inl ⟨by rfl, ?_⟩) hHeld ?_
          rotate_left
          · intro w hSw; (try dsimp only at hSw); go_simp; try (with_reducible rfl)
          try simp only [sq]
          refine wpAnyH_take (i := 11) (v := ?_) rfl (by kernel_rfl) (by kernel_rfl) (by kernel_rfl) (fun _ _ _ h => h) (Or.inl ⟨by rfl, ?_⟩) hHeld ?_
          rotate_left
          · intro w hSw; (try dsimp only at hSw); go_simp; try (with_reducible rfl)
          try simp only [sq]
          refine wpAnyH_take (i := 12) (v := ?_) rfl (by kernel_rfl) (by kernel_rfl) (by kernel_rfl) (fun _ _ _ h => h) (Or.inl ⟨by rfl, ?_⟩) hHeld ?_
          rotate_left
          · intro w hSw; (try dsimp only at hSw); go_simp; try (with_reducible rfl)
          try simp only [sq]
          refine wpAnyH_take (i := 13) (v := ?_) rfl (by kernel_rfl) (by kernel_rfl) (by kernel_rfl) (fun _ _ _ h => h) (Or.inl ⟨by rfl, ?_⟩) hHeld ?_
          rotate_left
          · intro w hSw; (try dsimp only at hSw); go_simp; try (with_reducible rfl)
          try simp only [sq]
          refine wpAnyH_done (by kernel_rfl) ?_ _
          go_wp2_with fail
          go_meet
          exact ⟨by rw [HAB.out, show ((k : Int) + 1 == 0) = false from by (simp; omega)]; rfl, hid (by show Below _ _ _; (with_reducible repeat (first | exact Below.refl _ _ | refine bdrew ?_)))⟩
      case rest =>
        obtain ⟨rfl, HBc⟩ := hcut
        replace gx := keepheap2 HBc.out gx
        have HBW2 := hid (btrans HB1.out HBc.out)
        have HBS : Hid (Below wr.heap.size wr wc) := hid (btrans HBX.out HBc.out)
        clear x0 x1 x2 x3
        obtain ⟨⟨x0, x1, x2, x3⟩, _⟩ := cellk4 gx
        clear gx
        generalize idb id = ib at *
        generalize shok kd ps = sb at *
        cases ab
        · have HF := hid (HNOI.out (by rw [HE.out]; simp))
          go_wp2_with fail
          go_ret
          exact ⟨by rw [HF.out]; rfl, HBW2.out⟩
        cases ib
        · have HF := hid (HNOI.out (by rw [HE.out]; simp))
          go_wp2_with fail
          refine (HIDc.out _).mono ?_
          rintro e z ⟨rfl, hw⟩
          replace hw := hw.symm
          subst hw
          go_wp2_with fail
          go_ret
          exact ⟨by rw [HF.out]; rfl, HBW2.out⟩
        cases go
        rotate_left
        · have HF := hid (HNEXT.out (by rw [HE.out]; simp))
          go_wp2_with fail
          refine (HIDc.out _).mono ?_
          rintro e z ⟨rfl, hw⟩
          replace hw := hw.symm
          subst hw
          go_wp2_with fail
          go_roundw
          case rel => exact ⟨i + 1, by go_num, by omega, HF, HBW2⟩
          case measure => simp [intOf]; omega
        cases sb
        · have HF := hid (HNOI.out (by rw [HE.out]; simp))
          go_wp2_with fail
          refine (HIDc.out _).mono ?_
          rintro e z ⟨rfl, hw⟩
          replace hw := hw.symm
          subst hw
          go_wp2_with fail
          refine (HSO.out _ HBS.out).mono ?_
          rintro e z2 ⟨rfl, hz2⟩
          have HB3 := hid (btrans HBW2.out hz2)
          go_wp2_with fail
          go_ret
          exact ⟨by rw [HF.out]; rfl, HB3.out⟩
        · have HF := hid (HNEXT.out (by rw [HE.out]; simp))
          go_wp2_with fail
          refine (HIDc.out _).mono ?_
          rintro e z ⟨rfl, hw⟩
          replace hw := hw.symm
          subst hw
          go_wp2_with fail
          refine (HSO.out _ HBS.out).mono ?_
          rintro e z2 ⟨rfl, hz2⟩
          have HB3 := hid (btrans HBW2.out hz2)
          clear hz2
          go_wp2_with fail
          go_roundw
          case rel => exact ⟨i + 1, by go_num, by omega, HF, HB3⟩
          case measure => simp [intOf]; omega
    · have c1 : (n : Int) ≤ (i : Int) := by omega
      have HF := hid (HYE.out (fun m hm => HA.out m (by have := HN.out; omega)))
      go_wp2_with fail
      go_ret
      exact ⟨by rw [HF.out]; rfl, HBW.out⟩
def txb (now : Int) (x : Tx) : Bool := ((decide (0 ≤ x.1) && decide (x.1 ≤ now)) && (x.2.1 || decide (x.2.2.length = 0))) && edb x.2.2
set_option maxRecDepth 100000 in
set_option maxHeartbeats 2000000 in
theorem impl_txRight {N : Nat → Prop} (now : Int) (x : Tx) (a : Option Addr) (cap : Nat) (w : World) (hm : x.2.2.length ≤ 1099511627776) (h : Chs N 1099511627776 w a x.2.2) : Calls Tryz.prog 91 #[txv x a cap, .int .i64 now] w fun e w' => e = .returned (.bool (txb now x)) ∧ Below w.heap.size w w' := by
  obtain ⟨st, op, cs⟩ := x
  unfold txv
  simp only at *
  have HE := hid (fun (W : World) (hb : Below w.heap.size w W) => impl_edits a cap cs W hm (h.below hb))
  have HT : Hid (txb now (st, op, cs) = (((decide (0 ≤ st) && decide (st ≤ now)) && (op || decide (cs.length = 0))) && edb cs)) := hid rfl
  clear h
  generalize txb now (st, op, cs) = tb at *
  generalize edb cs = eb at *
  generalize cs.length = n at *
  have hB : Below w.heap.size w (w.alloc (.cells #[.int .i64 st, .bool op, .slice a n cap] 48)) := balloc (Below.refl _ _) _
  by_cases h1 : 0 ≤ st
  rotate_left
  · have hf : tb = false := by rw [HT.out]; simp [h1]
    subst hf
    have h1' : st < 0 := by omega
    go_enter Tryz.func91, Tryz.ntmps91
    go_wp2_with fail
    go_ret
    exact ⟨rfl, hB⟩
  by_cases h2 : st ≤ now
  rotate_left
  · have hf : tb = false := by rw [HT.out]; simp [h2]
    subst hf
    have h2' : now < st := by omega
    go_enter Tryz.func91, Tryz.ntmps91
    go_wp2_with fail
    go_ret
    exact ⟨rfl, hB⟩
  cases op
  · by_cases h3 : n = 0
    · have hf : tb = eb := by rw [HT.out]; simp [h1, h2, h3]
      subst hf
      clear HT
      subst h3
      go_enter Tryz.func91, Tryz.ntmps91
      go_wp2_with fail
      refine (HE.out _ hB).mono ?_
      rintro e z ⟨rfl, hz⟩
      have HZ := hid (btrans hB hz)
      clear hz
      go_wp2_with fail
      go_ret
      exact ⟨rfl, HZ.out⟩
    · have hf : tb = false := by rw [HT.out]; simp [h3]
      subst hf
      have h3' : ((n : Int) == 0) = false := by simp; omega
      clear h3
      go_enter Tryz.func91, Tryz.ntmps91
      go_wp2_with fail
      go_ret
      exact ⟨rfl, hB⟩
  · have hf : tb = eb := by rw [HT.out]; simp [h1, h2]
    subst hf
    clear HT
    go_enter Tryz.func91, Tryz.ntmps91
    go_wp2_with fail
    refine (HE.out _ hB).mono ?_
    rintro e z ⟨rfl, hz⟩
    have HZ := hid (btrans hB hz)
    clear hz
    go_wp2_with fail
    go_ret
    exact ⟨rfl, HZ.out⟩
end Go.Proofs.YtkdoigibpaempaaGreatDoor
