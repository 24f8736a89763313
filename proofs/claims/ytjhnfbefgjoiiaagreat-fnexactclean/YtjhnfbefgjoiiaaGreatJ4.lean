/- Texts of stores, joined: Sd, Se, Sf. -/
import Derived.Test.YtjhnfbefgjoiiaaGreatJ1
import Derived.Test.YtjhnfbefgjoiiaaGreatJ2
namespace Go.Proofs.YtjhnfbefgjoiiaaGreat
open Go.RowKit
set_option linter.unusedSimpArgs false
set_option linter.unusedVariables false
def chd : Ch := (0, false, 0, [])
def chb (x : Ch) : Bool := idb x.1 && (x.2.1 || shok x.2.2.1 x.2.2.2)
def asc (cs : List Ch) (i : Nat) : Bool := decide (i = 0) || decide ((cs.getD (i - 1) chd).1 < (cs.getD i chd).1)
def edi (cs : List Ch) (i : Nat) : Bool := chb (cs.getD i chd) && asc cs i
/-- Whether changes can stand in a store. -/
def edb (cs : List Ch) : Bool := (List.range cs.length).all (edi cs)
theorem edb_no {cs : List Ch} {i : Nat} (hi : i < cs.length) (h : edi cs i = false) : edb cs = false := by
  unfold edb
  rw [List.all_eq_false]
  exact ⟨i, List.mem_range.2 hi, by simp [h]⟩
theorem edb_yes {cs : List Ch} (h : ∀ i, i < cs.length → edi cs i = true) : edb cs = true := by
  unfold edb
  rw [List.all_eq_true]
  exact fun i hi => h i (List.mem_range.1 hi)
theorem getD_ch {cs : List Ch} {i : Nat} (h : i < cs.length) : cs.getD i chd = cs[i] := by
  rw [List.getD_eq_getElem?_getD, List.getElem?_eq_getElem h]; rfl
set_option maxRecDepth 100000 in
set_option maxHeartbeats 4000000 in
theorem impl_edits {N : Nat → Prop} (a : Option Addr) (cap : Nat) (cs : List Ch) (w : World) (hm : cs.length ≤ 1099511627776) (h : Chs N 1099511627776 w a cs) : Calls Tryz.prog 106 #[.slice a cs.length cap] w fun e w' => e = .returned (.bool (edb cs)) ∧ Below w.heap.size w w' := by
  have HR := hid h
  clear h
  have HNO : Hid (∀ i, i < cs.length → edi cs i = false → edb cs = false) := hid (fun i hi h => edb_no hi h)
  have HYE : Hid ((∀ i, i < cs.length → edi cs i = true) → edb cs = true) := hid edb_yes
  generalize edb cs = eb at *
  obtain ⟨n, hn⟩ : ∃ n, n = cs.length := ⟨_, rfl⟩
  have HN := hid hn.symm
  rw [← hn] at hm ⊢
  clear hn
  go_enter Tryz.func106, Tryz.ntmps106
  go_wp2_with fail
  go_loopw [8] (fun ti wr => ∃ i : Nat, ti = .int .i64 i ∧ i ≤ n ∧ Hid (∀ m, m < i → edi cs m = true) ∧ Hid (Below w.heap.size w wr)) (fun ti _ => n - (intOf ti).toNat)
  case atStart => exact ⟨0, rfl, Nat.zero_le _, hid (fun m hh => absurd hh (by omega)), hid (Below.refl _ _)⟩
  case round =>
    obtain ⟨i, rfl, hi, HA, HBW⟩ := hrel
    by_cases hlt : i < n
    · have c1 : (i : Int) < (n : Int) := by omega
      have hir : i < cs.length := by rw [HN.out]; exact hlt
      obtain ⟨b, o, rfl, hbs, hall⟩ : ∃ b o, a = some ⟨b, o, none⟩ ∧ b < wr.heap.size ∧ ChsAt N 1099511627776 wr b o cs := by
        rcases HR.out.below HBW.out with h | h
        · rw [h] at hir; simp at hir
        · exact h
      obtain ⟨a', cap', k0, k1, k2, q1, q2, q3, q4, _⟩ := hall i hir
      have HALL : Hid (∀ k, k + 1 = i → wr.cell? ⟨b, o + k * 4, none⟩ = some (.int .i64 (cs.getD k chd).1)) := hid (fun k hk => by
        have hkr : k < cs.length := by omega
        obtain ⟨_, _, z0, _⟩ := hall k hkr
        rw [getD_ch hkr]; exact z0)
      have HSO := hid (fun (W : World) (hb : Below wr.heap.size wr W) => impl_ShapeOk cs[i].2.2.1 a' cap' cs[i].2.2.2 W q3 q2 (q4.below hb))
      unfold shv at HSO
      have HE : Hid (edi cs i = ((idb cs[i].1 && (cs[i].2.1 || shok cs[i].2.2.1 cs[i].2.2.2)) && asc cs i)) := hid (by unfold edi chb; rw [getD_ch hir])
      have HAS : Hid (asc cs i = (decide (i = 0) || decide ((cs.getD (i - 1) chd).1 < cs[i].1))) := hid (by unfold asc; rw [getD_ch hir])
      have HNOI := hid (HNO.out i hir)
      have HNEXT : Hid (edi cs i = true → ∀ m, m < i + 1 → edi cs m = true) := hid (fun e1 m hm => by
        by_cases e : m = i
        · subst e; exact e1
        · exact HA.out m (by omega))
      have HIDc := hid (fun w => impl_id cs[i].1 w)
      clear q2 q3 q4 hall
      generalize edi cs i = ei at HE HNOI HNEXT
      generalize asc cs i = ab at HE HAS
      generalize cs[i].1 = id at *
      generalize cs[i].2.1 = go at *
      generalize cs[i].2.2.1 = kd at *
      generalize cs[i].2.2.2 = ps at *
      go_upto_region 4 with fail
      have hBx : Below wr.heap.size wr (wr.alloc (.cells #[.int .i64 id, .bool go, .int .i64 kd, .slice a' ps.length cap'] 73)) := balloc (Below.refl _ _) _
      have gx := new_alloc wr wr.heap.size (.cells #[.int .i64 id, .bool go, .int .i64 kd, .slice a' ps.length cap'] 73) rfl
      have HBX := hid hBx
      have HB1 := hid (btrans HBW.out hBx)
      have HP1 : Hid (∀ k, k + 1 = i → (wr.alloc (.cells #[.int .i64 id, .bool go, .int .i64 kd, .slice a' ps.length cap'] 73)).cell? ⟨b, o + k * 4, none⟩ = some (.int .i64 (cs.getD k chd).1)) := hid (fun k hk => keepalloc (HALL.out k hk) _)
      clear hBx k0 k1 k2 q1 HALL
      generalize wr.alloc (.cells #[.int .i64 id, .bool go, .int .i64 kd, .slice a' ps.length cap'] 73) = W1 at *
      obtain ⟨X, hX⟩ : ∃ X, X = wr.heap.size := ⟨_, rfl⟩
      have HXE := hid hX
      rw [← hX] at gx ⊢
      clear hX
      obtain ⟨⟨x0, x1, x2, x3⟩, _⟩ := cellk4 gx
      go_cut [5] (fun t5 wx => t5 = .bool ab ∧ Hid (Below W1.heap.size W1 wx))
      case first =>
        rcases Nat.eq_zero_or_pos i with hz | hp
        · have HAB : Hid (ab = true) := hid (by rw [HAS.out, hz]; rfl)
          clear HAS
          subst hz
          refine wp_region_held_drew (S := (fun w' => w'.cell? ⟨X, 0, none⟩ = some (.int .i64 id))) (by kernel_rfl) ?_ (fun hHeld => ?_)
          · (repeat' apply And.intro) <;> (repeat (first | with_reducible assumption | with_reducible refine keepdrew ?_ | with_reducible refine keepcell (by with_reducible assumption) ?_ | with_reducible refine keepalloc ?_ _))
          refine wpAnyH_take (i := 0) (v := ?_) rfl (by kernel_rfl) (by kernel_rfl) (by kernel_rfl) (fun _ _ _ h => h) (Or.inl ⟨by rfl, ?_⟩) hHeld ?_
          rotate_left
          · intro w hSw; (try dsimp only at hSw); go_simp; try (with_reducible rfl)
          try simp only [sq]
          refine wpAnyH_take (i := 1) (v := ?_) rfl (by kernel_rfl) (by kernel_rfl) (by kernel_rfl) (fun _ _ _ h => h) (Or.inl ⟨by rfl, ?_⟩) hHeld ?_
          rotate_left
          · intro w hSw; (try dsimp only at hSw); go_simp; try (with_reducible rfl)
          try simp only [sq]
          refine wpAnyH_take (i := 2) (v := ?_) rfl (by kernel_rfl) (by kernel_rfl) (by kernel_rfl) (fun _ _ _ h => h) (Or.inl ⟨by rfl, ?_⟩) hHeld ?_
          rotate_left
          · intro w hSw; (try dsimp only at hSw); go_simp; try (with_reducible rfl)
          try simp only [sq]
          refine wpAnyH_take (i := 3) (v := undef) rfl (by kernel_rfl) (by kernel_rfl) (by kernel_rfl) (fun _ _ _ h => h) (Or.inr ⟨by rfl, rfl⟩) hHeld ?_
          try simp only [sq]
          refine wpAnyH_take (i := 4) (v := undef) rfl (by kernel_rfl) (by kernel_rfl) (by kernel_rfl) (fun _ _ _ h => h) (Or.inr ⟨by rfl, rfl⟩) hHeld ?_
          try simp only [sq]
          refine wpAnyH_take (i := 5) (v := undef) rfl (by kernel_rfl) (by kernel_rfl) (by kernel_rfl) (fun _ _ _ h => h) (Or.inr ⟨by rfl, rfl⟩) hHeld ?_
          try simp only [sq]
          refine wpAnyH_take (i := 6) (v := undef) rfl (by kernel_rfl) (by kernel_rfl) (by kernel_rfl) (fun _ _ _ h => h) (Or.inr ⟨by rfl, rfl⟩) hHeld ?_
          try simp only [sq]
          refine wpAnyH_take (i := 7) (v := undef) rfl (by kernel_rfl) (by kernel_rfl) (by kernel_rfl) (fun _ _ _ h => h) (Or.inr ⟨by rfl, rfl⟩) hHeld ?_
          try simp only [sq]
          refine wpAnyH_take (i := 8) (v := undef) rfl (by kernel_rfl) (by kernel_rfl) (by kernel_rfl) (fun _ _ _ h => h) (Or.inr ⟨by rfl, rfl⟩) hHeld ?_
          try simp only [sq]
          refine wpAnyH_take (i := 9) (v := undef) rfl (by kernel_rfl) (by kernel_rfl) (by kernel_rfl) (fun _ _ _ h => h) (Or.inr ⟨by rfl, rfl⟩) hHeld ?_
          try simp only [sq]
          refine wpAnyH_take (i := 10) (v := undef) rfl (by kernel_rfl) (by kernel_rfl) (by kernel_rfl) (fun _ _ _ h => h) (Or.inr ⟨by rfl, rfl⟩) hHeld ?_
          try simp only [sq]
          refine wpAnyH_take (i := 11) (v := undef) rfl (by kernel_rfl) (by kernel_rfl) (by kernel_rfl) (fun _ _ _ h => h) (Or.inr ⟨by rfl, rfl⟩) hHeld ?_
          try simp only [sq]
          refine wpAnyH_take (i := 12) (v := ?_) rfl (by kernel_rfl) (by kernel_rfl) (by kernel_rfl) (fun _ _ _ h => h) (Or.inl ⟨by rfl, ?_⟩) hHeld ?_
          rotate_left
          · intro w hSw; (try dsimp only at hSw); go_simp; try (with_reducible rfl)
          try simp only [sq]
          refine wpAnyH_take (i := 13) (v := ?_) rfl (by kernel_rfl) (by kernel_rfl) (by kernel_rfl) (fun _ _ _ h => h) (Or.inl ⟨by rfl, ?_⟩) hHeld ?_
          rotate_left
          · intro w hSw; (try dsimp only at hSw); go_simp; try (with_reducible rfl)
          try simp only [sq]
          refine wpAnyH_done (by kernel_rfl) ?_ _
          go_wp2_with fail
          go_meet
          exact ⟨by rw [HAB.out], hid (by show Below _ _ _; (repeat (first | with_reducible exact Below.refl _ _ | with_reducible refine bdrew ?_)))⟩
        · obtain ⟨k, rfl⟩ : ∃ k, i = k + 1 := ⟨i - 1, by omega⟩
          have y0 := HP1.out k rfl
          have hk1 : ¬ (k + 1 = 0) := by omega
          simp only [Nat.add_sub_cancel] at HAS
          generalize (cs.getD k chd).1 = pid at y0 HAS
          have HAB : Hid (ab = decide (pid < id)) := hid (by rw [HAS.out]; simp)
          clear HAS
          have hz1 : ((((k + 1 : Nat) : Int)) == 0) = false := by simp; omega
          have hw1 : IntKind.i64.wrap (((k + 1 : Nat) : Int) - 1) = (k : Int) := by rw [IntKind.wrap_i64]; omega
          have hw2 : IntKind.i64.wrap (k : Int) = (k : Int) := by rw [IntKind.wrap_i64]; omega
          have hk0 : (0 : Int) ≤ (k : Int) := by omega
          have hkn : (k : Int) < (n : Int) := by omega
          refine wp_region_held_drew (S := (fun w' => w'.cell? ⟨X, 0, none⟩ = some (.int .i64 id) ∧ w'.cell? ⟨b, o + k * 4, none⟩ = some (.int .i64 pid))) (by kernel_rfl) ?_ (fun hHeld => ?_)
          · (repeat' apply And.intro) <;> (repeat (first | with_reducible assumption | with_reducible refine keepdrew ?_ | with_reducible refine keepcell (by with_reducible assumption) ?_ | with_reducible refine keepalloc ?_ _))
          refine wpAnyH_take (i := 0) (v := ?_) rfl (by kernel_rfl) (by kernel_rfl) (by kernel_rfl) (fun _ _ _ h => h) (Or.inl ⟨by rfl, ?_⟩) hHeld ?_
          rotate_left
          · intro w hSw; (try dsimp only at hSw); go_simp; try (with_reducible rfl)
          try simp only [sq]
          refine wpAnyH_take (i := 1) (v := ?_) rfl (by kernel_rfl) (by kernel_rfl) (by kernel_rfl) (fun _ _ _ h => h) (Or.inl ⟨by rfl, ?_⟩) hHeld ?_
          rotate_left
          · intro w hSw; (try dsimp only at hSw); go_simp; try (with_reducible rfl)
          try simp only [sq]
          refine wpAnyH_take (i := 2) (v := ?_) rfl (by kernel_rfl) (by kernel_rfl) (by kernel_rfl) (fun _ _ _ h => h) (Or.inl ⟨by rfl, ?_⟩) hHeld ?_
          rotate_left
          · intro w hSw; (try dsimp only at hSw); go_simp; try (with_reducible rfl)
          try simp only [sq]
          refine wpAnyH_take (i := 3) (v := ?_) rfl (by kernel_rfl) (by kernel_rfl) (by kernel_rfl) (fun _ _ _ h => h) (Or.inl ⟨by rfl, ?_⟩) hHeld ?_
          rotate_left
          · intro w hSw; (try dsimp only at hSw); go_simp; try (with_reducible rfl)
          try simp only [sq]
          refine wpAnyH_take (i := 4) (v := ?_) rfl (by kernel_rfl) (by kernel_rfl) (by kernel_rfl) (fun _ _ _ h => h) (Or.inl ⟨by rfl, ?_⟩) hHeld ?_
          rotate_left
          · intro w hSw; (try dsimp only at hSw); go_simp; try (with_reducible rfl)
          try simp only [sq]
          refine wpAnyH_take (i := 5) (v := ?_) rfl (by kernel_rfl) (by kernel_rfl) (by kernel_rfl) (fun _ _ _ h => h) (Or.inl ⟨by rfl, ?_⟩) hHeld ?_
          rotate_left
          · intro w hSw; (try dsimp only at hSw); go_simp; try (with_reducible rfl)
          try simp only [sq]
          refine wpAnyH_take (i := 6) (v := ?_) rfl (by kernel_rfl) (by kernel_rfl) (by kernel_rfl) (fun _ _ _ h => h) (Or.inl ⟨by rfl, ?_⟩) hHeld ?_
          rotate_left
          · intro w hSw; (try dsimp only at hSw); go_simp; try (with_reducible rfl)
          try simp only [sq]
          refine wpAnyH_take (i := 7) (v := ?_) rfl (by kernel_rfl) (by kernel_rfl) (by kernel_rfl) (fun _ _ _ h => h) (Or.inl ⟨by rfl, ?_⟩) hHeld ?_
          rotate_left
          · intro w hSw; (try dsimp only at hSw); go_simp; try (with_reducible rfl)
          try simp only [sq]
          refine wpAnyH_take (i := 8) (v := ?_) rfl (by kernel_rfl) (by kernel_rfl) (by kernel_rfl) (fun _ _ _ h => h) (Or.inl ⟨by rfl, ?_⟩) hHeld ?_
          rotate_left
          · intro w hSw; (try dsimp only at hSw); go_simp; try (with_reducible rfl)
          try simp only [sq]
          refine wpAnyH_take (i := 9) (v := ?_) rfl (by kernel_rfl) (by kernel_rfl) (by kernel_rfl) (fun _ _ _ h => h) (Or.inl ⟨by rfl, ?_⟩) hHeld ?_
          rotate_left
          · intro w hSw; (try dsimp only at hSw); go_simp; try (with_reducible rfl)
          try simp only [sq]
          refine wpAnyH_take (i := 10) (v := ?_) rfl (by kernel_rfl) (by kernel_rfl) (by kernel_rfl) (fun _ _ _ h => h) (Or.inl ⟨by rfl, ?_⟩) hHeld ?_
          rotate_left
          · intro w hSw; (try dsimp only at hSw); go_simp; try (with_reducible rfl)
          try simp only [sq]
          refine wpAnyH_take (i := 11) (v := ?_) rfl (by kernel_rfl) (by kernel_rfl) (by kernel_rfl) (fun _ _ _ h => h) (Or.inl ⟨by rfl, ?_⟩) hHeld ?_
          rotate_left
          · intro w hSw; (try dsimp only at hSw); go_simp; try (with_reducible rfl)
          try simp only [sq]
          refine wpAnyH_take (i := 12) (v := ?_) rfl (by kernel_rfl) (by kernel_rfl) (by kernel_rfl) (fun _ _ _ h => h) (Or.inl ⟨by rfl, ?_⟩) hHeld ?_
          rotate_left
          · intro w hSw; (try dsimp only at hSw); go_simp; try (with_reducible rfl)
          try simp only [sq]
          refine wpAnyH_take (i := 13) (v := ?_) rfl (by kernel_rfl) (by kernel_rfl) (by kernel_rfl) (fun _ _ _ h => h) (Or.inl ⟨by rfl, ?_⟩) hHeld ?_
          rotate_left
          · intro w hSw; (try dsimp only at hSw); go_simp; try (with_reducible rfl)
          try simp only [sq]
          refine wpAnyH_done (by kernel_rfl) ?_ _
          go_wp2_with fail
          go_meet
          exact ⟨by rw [HAB.out, show ((k : Int) + 1 == 0) = false from by (simp; omega)]; rfl, hid (by show Below _ _ _; (repeat (first | with_reducible exact Below.refl _ _ | with_reducible refine bdrew ?_)))⟩
      case rest =>
        obtain ⟨rfl, HBc⟩ := hcut
        replace gx := keepheap2 HBc.out gx
        have HBW2 := hid (btrans HB1.out HBc.out)
        have HBS : Hid (Below wr.heap.size wr wc) := hid (btrans HBX.out HBc.out)
        clear x0 x1 x2 x3
        obtain ⟨⟨x0, x1, x2, x3⟩, _⟩ := cellk4 gx
        clear gx
        generalize idb id = ib at *
        generalize shok kd ps = sb at *
        cases ab
        · have HF := hid (HNOI.out (by rw [HE.out]; simp))
          go_wp2_with fail
          go_ret
          exact ⟨by rw [HF.out]; rfl, HBW2.out⟩
        cases ib
        · have HF := hid (HNOI.out (by rw [HE.out]; simp))
          go_wp2_with fail
          refine (HIDc.out _).mono ?_
          rintro e z ⟨rfl, hw⟩
          replace hw := hw.symm
          subst hw
          go_wp2_with fail
          go_ret
          exact ⟨by rw [HF.out]; rfl, HBW2.out⟩
        cases go
        rotate_left
        · have HF := hid (HNEXT.out (by rw [HE.out]; simp))
          go_wp2_with fail
          refine (HIDc.out _).mono ?_
          rintro e z ⟨rfl, hw⟩
          replace hw := hw.symm
          subst hw
          go_wp2_with fail
          go_roundw
          case rel => exact ⟨i + 1, by go_num, by omega, HF, HBW2⟩
          case measure => simp [intOf]; omega
        cases sb
        · have HF := hid (HNOI.out (by rw [HE.out]; simp))
          go_wp2_with fail
          refine (HIDc.out _).mono ?_
          rintro e z ⟨rfl, hw⟩
          replace hw := hw.symm
          subst hw
          go_wp2_with fail
          refine (HSO.out _ HBS.out).mono ?_
          rintro e z2 ⟨rfl, hz2⟩
          have HB3 := hid (btrans HBW2.out hz2)
          go_wp2_with fail
          go_ret
          exact ⟨by rw [HF.out]; rfl, HB3.out⟩
        · have HF := hid (HNEXT.out (by rw [HE.out]; simp))
          go_wp2_with fail
          refine (HIDc.out _).mono ?_
          rintro e z ⟨rfl, hw⟩
          replace hw := hw.symm
          subst hw
          go_wp2_with fail
          refine (HSO.out _ HBS.out).mono ?_
          rintro e z2 ⟨rfl, hz2⟩
          have HB3 := hid (btrans HBW2.out hz2)
          clear hz2
          go_wp2_with fail
          go_roundw
          case rel => exact ⟨i + 1, by go_num, by omega, HF, HB3⟩
          case measure => simp [intOf]; omega
    · have c1 : (n : Int) ≤ (i : Int) := by omega
      have HF := hid (HYE.out (fun m hm => HA.out m (by have := HN.out; omega)))
      go_wp2_with fail
      go_ret
      exact ⟨by rw [HF.out]; rfl, HBW.out⟩
/-- Whether a transaction can stand in a store. -/
def txb (now : Int) (x : Tx) : Bool := ((decide (0 ≤ x.1) && decide (x.1 ≤ now)) && (x.2.1 || decide (x.2.2.length = 0))) && edb x.2.2
set_option maxRecDepth 100000 in
set_option maxHeartbeats 2000000 in
theorem impl_txRight {N : Nat → Prop} (now : Int) (x : Tx) (a : Option Addr) (cap : Nat) (w : World) (hm : x.2.2.length ≤ 1099511627776) (h : Chs N 1099511627776 w a x.2.2) : Calls Tryz.prog 74 #[txv x a cap, .int .i64 now] w fun e w' => e = .returned (.bool (txb now x)) ∧ Below w.heap.size w w' := by
  obtain ⟨st, op, cs⟩ := x
  unfold txv
  simp only at *
  have HE := hid (fun (W : World) (hb : Below w.heap.size w W) => impl_edits a cap cs W hm (h.below hb))
  have HT : Hid (txb now (st, op, cs) = (((decide (0 ≤ st) && decide (st ≤ now)) && (op || decide (cs.length = 0))) && edb cs)) := hid rfl
  clear h
  generalize txb now (st, op, cs) = tb at *
  generalize edb cs = eb at *
  generalize cs.length = n at *
  have hB : Below w.heap.size w (w.alloc (.cells #[.int .i64 st, .bool op, .slice a n cap] 101)) := balloc (Below.refl _ _) _
  by_cases h1 : 0 ≤ st
  rotate_left
  · have hf : tb = false := by rw [HT.out]; simp [h1]
    subst hf
    have h1' : st < 0 := by omega
    go_enter Tryz.func74, Tryz.ntmps74
    go_wp2_with fail
    go_ret
    exact ⟨rfl, hB⟩
  by_cases h2 : st ≤ now
  rotate_left
  · have hf : tb = false := by rw [HT.out]; simp [h2]
    subst hf
    have h2' : now < st := by omega
    go_enter Tryz.func74, Tryz.ntmps74
    go_wp2_with fail
    go_ret
    exact ⟨rfl, hB⟩
  cases op
  · by_cases h3 : n = 0
    · have hf : tb = eb := by rw [HT.out]; simp [h1, h2, h3]
      subst hf
      clear HT
      subst h3
      go_enter Tryz.func74, Tryz.ntmps74
      go_wp2_with fail
      refine (HE.out _ hB).mono ?_
      rintro e z ⟨rfl, hz⟩
      have HZ := hid (btrans hB hz)
      clear hz
      go_wp2_with fail
      go_ret
      exact ⟨rfl, HZ.out⟩
    · have hf : tb = false := by rw [HT.out]; simp [h3]
      subst hf
      have h3' : ((n : Int) == 0) = false := by simp; omega
      clear h3
      go_enter Tryz.func74, Tryz.ntmps74
      go_wp2_with fail
      go_ret
      exact ⟨rfl, hB⟩
  · have hf : tb = eb := by rw [HT.out]; simp [h1, h2]
    subst hf
    clear HT
    go_enter Tryz.func74, Tryz.ntmps74
    go_wp2_with fail
    refine (HE.out _ hB).mono ?_
    rintro e z ⟨rfl, hz⟩
    have HZ := hid (btrans hB hz)
    clear hz
    go_wp2_with fail
    go_ret
    exact ⟨rfl, HZ.out⟩
end Go.Proofs.YtjhnfbefgjoiiaaGreat
namespace Go.Proofs.YtjhnfbefgjoiiaaGreat
open Go.RowKit
set_option linter.unusedSimpArgs false
set_option linter.unusedVariables false
set_option maxRecDepth 100000 in
set_option maxHeartbeats 4000000 in
theorem spec_tx {N : Nat → Prop} (now : Int) (x : Tx) (a : Option Addr) (cap : Nat) (w : World) (hm : x.2.2.length ≤ 1099511627776) (h : Chs N 1099511627776 w a x.2.2) : Calls Tryz.prog 69 #[txv x a cap, .int .i64 now] w fun e w' => e = .returned (.bool (txb now x)) ∧ Below w.heap.size w w' := by
  obtain ⟨st, op, cs⟩ := x
  unfold txv
  simp only at *
  have HT : Hid (txb now (st, op, cs) = (((decide (0 ≤ st) && decide (st ≤ now)) && (op || decide (cs.length = 0))) && edb cs)) := hid rfl
  have HR := hid h
  clear h
  have HNO : Hid (∀ i, i < cs.length → edi cs i = false → edb cs = false) := hid (fun i hi h => edb_no hi h)
  have HYE : Hid ((∀ i, i < cs.length → edi cs i = true) → edb cs = true) := hid edb_yes
  have HIN := hid (fun w => in_r st 0 now w)
  generalize txb now (st, op, cs) = tb at *
  generalize edb cs = eb at *
  obtain ⟨n, hn⟩ : ∃ n, n = cs.length := ⟨_, rfl⟩
  have HN := hid hn.symm
  rw [← hn] at hm HT ⊢
  clear hn
  have hB0 : Below w.heap.size w (w.alloc (.cells #[.int .i64 st, .bool op, .slice a n cap] 101)) := balloc (Below.refl _ _) _
  have g0 := new_alloc w w.heap.size (.cells #[.int .i64 st, .bool op, .slice a n cap] 101) rfl
  go_enter Tryz.func69, Tryz.ntmps69
  go_upto_region 1 with fail
  generalize w.alloc (.cells #[.int .i64 st, .bool op, .slice a n cap] 101) = W0 at *
  go_wp2_with fail
  go_loopw [5] (fun ti wr => ∃ i : Nat, ti = .int .i64 i ∧ i ≤ n ∧ Hid (∀ m, m < i → edi cs m = true) ∧ Hid (wr.heap[w.heap.size]? = some (.cells #[.int .i64 st, .bool op, .slice a n cap] 101 (0, 0))) ∧ Hid (Below w.heap.size w wr)) (fun ti _ => n - (intOf ti).toNat)
  case atStart => exact ⟨0, rfl, Nat.zero_le _, hid (fun m hh => absurd hh (by omega)), hid g0, hid hB0⟩
  case round =>
    clear g0 hB0
    obtain ⟨i, rfl, hi, HA, G0, HBW⟩ := hrel
    obtain ⟨⟨d0, d1, d2⟩, _⟩ := cellk3 G0.out
    by_cases hlt : i < n
    · have c1 : (i : Int) < (n : Int) := by omega
      have hir : i < cs.length := by rw [HN.out]; exact hlt
      obtain ⟨b, o, rfl, hbs, hall⟩ : ∃ b o, a = some ⟨b, o, none⟩ ∧ b < wr.heap.size ∧ ChsAt N 1099511627776 wr b o cs := by
        rcases HR.out.below HBW.out with h | h
        · rw [h] at hir; simp at hir
        · exact h
      obtain ⟨a', cap', k0, k1, k2, q1, q2, q3, q4, _⟩ := hall i hir
      have HALL : Hid (∀ k, k + 1 = i → wr.cell? ⟨b, o + k * 4, none⟩ = some (.int .i64 (cs.getD k chd).1)) := hid (fun k hk => by
        have hkr : k < cs.length := by omega
        obtain ⟨_, _, z0, _⟩ := hall k hkr
        rw [getD_ch hkr]; exact z0)
      have HSO := hid (fun (W : World) (hb : Below wr.heap.size wr W) => spec_ShapeOk cs[i].2.2.1 a' cap' cs[i].2.2.2 W q3 q2 (q4.below hb))
      unfold shv at HSO
      have HE : Hid (edi cs i = ((idb cs[i].1 && (cs[i].2.1 || shok cs[i].2.2.1 cs[i].2.2.2)) && asc cs i)) := hid (by unfold edi chb; rw [getD_ch hir])
      have HAS : Hid (asc cs i = (decide (i = 0) || decide ((cs.getD (i - 1) chd).1 < cs[i].1))) := hid (by unfold asc; rw [getD_ch hir])
      have HNOI := hid (HNO.out i hir)
      have HNEXT : Hid (edi cs i = true → ∀ m, m < i + 1 → edi cs m = true) := hid (fun e1 m hm => by
        by_cases e : m = i
        · subst e; exact e1
        · exact HA.out m (by omega))
      have HIDc := hid (fun w => spec_id cs[i].1 w)
      clear q2 q3 q4 hall
      generalize edi cs i = ei at HE HNOI HNEXT
      generalize asc cs i = ab at HE HAS
      generalize cs[i].1 = id at *
      generalize cs[i].2.1 = go at *
      generalize cs[i].2.2.1 = kd at *
      generalize cs[i].2.2.2 = ps at *
      go_upto_region 5 with fail
      have hBx : Below wr.heap.size wr (wr.alloc (.cells #[.int .i64 id, .bool go, .int .i64 kd, .slice a' ps.length cap'] 73)) := balloc (Below.refl _ _) _
      have gx := new_alloc wr wr.heap.size (.cells #[.int .i64 id, .bool go, .int .i64 kd, .slice a' ps.length cap'] 73) rfl
      have g0 := keepheap2 hBx G0.out
      have HBX := hid hBx
      have HB1 := hid (btrans HBW.out hBx)
      have HP1 : Hid (∀ k, k + 1 = i → (wr.alloc (.cells #[.int .i64 id, .bool go, .int .i64 kd, .slice a' ps.length cap'] 73)).cell? ⟨b, o + k * 4, none⟩ = some (.int .i64 (cs.getD k chd).1)) := hid (fun k hk => keepalloc (HALL.out k hk) _)
      clear hBx k0 k1 k2 q1 HALL d0 d1 d2
      generalize wr.alloc (.cells #[.int .i64 id, .bool go, .int .i64 kd, .slice a' ps.length cap'] 73) = W1 at *
      obtain ⟨X, hX⟩ : ∃ X, X = wr.heap.size := ⟨_, rfl⟩
      have HXE := hid hX
      rw [← hX] at gx ⊢
      clear hX
      obtain ⟨⟨x0, x1, x2, x3⟩, _⟩ := cellk4 gx
      obtain ⟨⟨d0, d1, d2⟩, _⟩ := cellk3 g0
      have HG0 := hid g0
      go_cut [49] from 19 to 49 (fun t wx => t = .bool (!ei) ∧ Hid (Below W1.heap.size W1 wx))
      case first =>
        generalize idb id = ib at *
        generalize shok kd ps = sb at *
        cases ib
        · have HEI : Hid (ei = false) := hid (by rw [HE.out]; simp)
          refine wp_region_held_drew (S := (fun w' => w'.cell? ⟨X, 0, none⟩ = some (.int .i64 id) ∧ w'.cell? ⟨X, 1, none⟩ = some (.bool go) ∧ w'.cell? ⟨X, 2, none⟩ = some (.int .i64 kd) ∧ w'.cell? ⟨X, 3, none⟩ = some (.slice a' ps.length cap') ∧ w'.cell? ⟨w.heap.size, 2, none⟩ = some (.slice (some ⟨b, o, none⟩) n cap))) (by kernel_rfl) ?_ (fun hHeld => ?_)
          · (repeat' apply And.intro) <;> (repeat (first | with_reducible assumption | with_reducible refine keepdrew ?_ | with_reducible refine keepcell (by with_reducible assumption) ?_ | with_reducible refine keepalloc ?_ _))
          refine wpAnyH_take (i := 0) (v := ?_) rfl (by kernel_rfl) (by kernel_rfl) (by kernel_rfl) (fun _ _ _ h => h) (Or.inl ⟨by rfl, ?_⟩) hHeld ?_
          rotate_left
          · intro w hSw; (try dsimp only at hSw); go_simp; try (with_reducible rfl)
          try simp only [sq]
          refine wpAnyH_take (i := 1) (v := ?_) rfl (by kernel_rfl) (by kernel_rfl) (by kernel_rfl) (fun _ _ _ h => h) (Or.inl ⟨by rfl, ?_⟩) hHeld ?_
          rotate_left
          · intro w hSw; (try dsimp only at hSw); go_simp; try (with_reducible rfl)
          try simp only [sq]
          refine wpAnyH_ready (rs := [2]) (by kernel_rfl) (by simp) ?_
          refine AllReadyH.cons rfl (fun K hK => ?_) AllReadyH.nil
          try simp only [sq]
          go_simp
          (first
              | (go_at_call 53; refine (HIDc.out _).mono ?_; rintro e z ⟨rfl, hw⟩; replace hw := hw.symm; subst hw))
          go_wp2_with fail
          refine hK.out _ _ ?_ (fun hHeld => ?_)
          · (repeat' apply And.intro) <;> (repeat (first | with_reducible assumption | with_reducible refine keepdrew ?_ | with_reducible refine keepcell (by with_reducible assumption) ?_ | with_reducible refine keepalloc ?_ _))
          clear hK K
          try simp only [sq]
          refine wpAnyH_take (i := 3) (v := ?_) rfl (by kernel_rfl) (by kernel_rfl) (by kernel_rfl) (fun _ _ _ h => h) (Or.inl ⟨by rfl, ?_⟩) hHeld ?_
          rotate_left
          · intro w hSw; (try dsimp only at hSw); go_simp; try (with_reducible rfl)
          try simp only [sq]
          refine wpAnyH_take (i := 4) (v := ?_) rfl (by kernel_rfl) (by kernel_rfl) (by kernel_rfl) (fun _ _ _ h => h) (Or.inl ⟨by rfl, ?_⟩) hHeld ?_
          rotate_left
          · intro w hSw; (try dsimp only at hSw); go_simp; try (with_reducible rfl)
          try simp only [sq]
          refine wpAnyH_take (i := 5) (v := undef) rfl (by kernel_rfl) (by kernel_rfl) (by kernel_rfl) (fun _ _ _ h => h) (Or.inr ⟨by rfl, rfl⟩) hHeld ?_
          try simp only [sq]
          refine wpAnyH_take (i := 6) (v := undef) rfl (by kernel_rfl) (by kernel_rfl) (by kernel_rfl) (fun _ _ _ h => h) (Or.inr ⟨by rfl, rfl⟩) hHeld ?_
          try simp only [sq]
          refine wpAnyH_take (i := 7) (v := undef) rfl (by kernel_rfl) (by kernel_rfl) (by kernel_rfl) (fun _ _ _ h => h) (Or.inr ⟨by rfl, rfl⟩) hHeld ?_
          try simp only [sq]
          refine wpAnyH_take (i := 8) (v := undef) rfl (by kernel_rfl) (by kernel_rfl) (by kernel_rfl) (fun _ _ _ h => h) (Or.inr ⟨by rfl, rfl⟩) hHeld ?_
          try simp only [sq]
          refine wpAnyH_take (i := 9) (v := undef) rfl (by kernel_rfl) (by kernel_rfl) (by kernel_rfl) (fun _ _ _ h => h) (Or.inr ⟨by rfl, rfl⟩) hHeld ?_
          try simp only [sq]
          refine wpAnyH_take (i := 10) (v := undef) rfl (by kernel_rfl) (by kernel_rfl) (by kernel_rfl) (fun _ _ _ h => h) (Or.inr ⟨by rfl, rfl⟩) hHeld ?_
          try simp only [sq]
          refine wpAnyH_take (i := 11) (v := undef) rfl (by kernel_rfl) (by kernel_rfl) (by kernel_rfl) (fun _ _ _ h => h) (Or.inr ⟨by rfl, rfl⟩) hHeld ?_
          try simp only [sq]
          refine wpAnyH_take (i := 12) (v := undef) rfl (by kernel_rfl) (by kernel_rfl) (by kernel_rfl) (fun _ _ _ h => h) (Or.inr ⟨by rfl, rfl⟩) hHeld ?_
          try simp only [sq]
          refine wpAnyH_take (i := 13) (v := undef) rfl (by kernel_rfl) (by kernel_rfl) (by kernel_rfl) (fun _ _ _ h => h) (Or.inr ⟨by rfl, rfl⟩) hHeld ?_
          try simp only [sq]
          refine wpAnyH_take (i := 14) (v := ?_) rfl (by kernel_rfl) (by kernel_rfl) (by kernel_rfl) (fun _ _ _ h => h) (Or.inl ⟨by rfl, ?_⟩) hHeld ?_
          rotate_left
          · intro w hSw; (try dsimp only at hSw); go_simp; try (with_reducible rfl)
          try simp only [sq]
          refine wpAnyH_take (i := 15) (v := ?_) rfl (by kernel_rfl) (by kernel_rfl) (by kernel_rfl) (fun _ _ _ h => h) (Or.inl ⟨by rfl, ?_⟩) hHeld ?_
          rotate_left
          · intro w hSw; (try dsimp only at hSw); go_simp; try (with_reducible rfl)
          try simp only [sq]
          refine wpAnyH_take (i := 16) (v := undef) rfl (by kernel_rfl) (by kernel_rfl) (by kernel_rfl) (fun _ _ _ h => h) (Or.inr ⟨by rfl, rfl⟩) hHeld ?_
          try simp only [sq]
          refine wpAnyH_take (i := 17) (v := undef) rfl (by kernel_rfl) (by kernel_rfl) (by kernel_rfl) (fun _ _ _ h => h) (Or.inr ⟨by rfl, rfl⟩) hHeld ?_
          try simp only [sq]
          refine wpAnyH_take (i := 18) (v := undef) rfl (by kernel_rfl) (by kernel_rfl) (by kernel_rfl) (fun _ _ _ h => h) (Or.inr ⟨by rfl, rfl⟩) hHeld ?_
          try simp only [sq]
          refine wpAnyH_take (i := 19) (v := undef) rfl (by kernel_rfl) (by kernel_rfl) (by kernel_rfl) (fun _ _ _ h => h) (Or.inr ⟨by rfl, rfl⟩) hHeld ?_
          try simp only [sq]
          refine wpAnyH_take (i := 20) (v := undef) rfl (by kernel_rfl) (by kernel_rfl) (by kernel_rfl) (fun _ _ _ h => h) (Or.inr ⟨by rfl, rfl⟩) hHeld ?_
          try simp only [sq]
          refine wpAnyH_take (i := 21) (v := undef) rfl (by kernel_rfl) (by kernel_rfl) (by kernel_rfl) (fun _ _ _ h => h) (Or.inr ⟨by rfl, rfl⟩) hHeld ?_
          try simp only [sq]
          refine wpAnyH_take (i := 22) (v := undef) rfl (by kernel_rfl) (by kernel_rfl) (by kernel_rfl) (fun _ _ _ h => h) (Or.inr ⟨by rfl, rfl⟩) hHeld ?_
          try simp only [sq]
          refine wpAnyH_take (i := 23) (v := undef) rfl (by kernel_rfl) (by kernel_rfl) (by kernel_rfl) (fun _ _ _ h => h) (Or.inr ⟨by rfl, rfl⟩) hHeld ?_
          try simp only [sq]
          refine wpAnyH_take (i := 24) (v := undef) rfl (by kernel_rfl) (by kernel_rfl) (by kernel_rfl) (fun _ _ _ h => h) (Or.inr ⟨by rfl, rfl⟩) hHeld ?_
          try simp only [sq]
          refine wpAnyH_take (i := 25) (v := undef) rfl (by kernel_rfl) (by kernel_rfl) (by kernel_rfl) (fun _ _ _ h => h) (Or.inr ⟨by rfl, rfl⟩) hHeld ?_
          try simp only [sq]
          refine wpAnyH_take (i := 26) (v := undef) rfl (by kernel_rfl) (by kernel_rfl) (by kernel_rfl) (fun _ _ _ h => h) (Or.inr ⟨by rfl, rfl⟩) hHeld ?_
          try simp only [sq]
          refine wpAnyH_take (i := 27) (v := undef) rfl (by kernel_rfl) (by kernel_rfl) (by kernel_rfl) (fun _ _ _ h => h) (Or.inr ⟨by rfl, rfl⟩) hHeld ?_
          try simp only [sq]
          refine wpAnyH_take (i := 28) (v := undef) rfl (by kernel_rfl) (by kernel_rfl) (by kernel_rfl) (fun _ _ _ h => h) (Or.inr ⟨by rfl, rfl⟩) hHeld ?_
          try simp only [sq]
          refine wpAnyH_take (i := 29) (v := undef) rfl (by kernel_rfl) (by kernel_rfl) (by kernel_rfl) (fun _ _ _ h => h) (Or.inr ⟨by rfl, rfl⟩) hHeld ?_
          try simp only [sq]
          refine wpAnyH_take (i := 30) (v := ?_) rfl (by kernel_rfl) (by kernel_rfl) (by kernel_rfl) (fun _ _ _ h => h) (Or.inl ⟨by rfl, ?_⟩) hHeld ?_
          rotate_left
          · intro w hSw; (try dsimp only at hSw); go_simp; try (with_reducible rfl)
          try simp only [sq]
          refine wpAnyH_done (by kernel_rfl) ?_ _
          go_wp2_with fail
          go_meet
          exact ⟨by first | (rw [HEI.out]; done) | (rw [HEI.out]; rfl), hid (by show Below _ _ _; (repeat (first | with_reducible exact Below.refl _ _ | with_reducible assumption | (with_reducible refine btrans ?_ (by with_reducible assumption)) | with_reducible refine bdrew ?_ | with_reducible refine balloc ?_ _)))⟩
        cases go
        rotate_left
        · skip
          rcases Nat.eq_zero_or_pos i with hz | hp
          · have HAB : Hid (ab = true) := hid (by rw [HAS.out, hz]; rfl)
            have HEI : Hid (ei = true) := hid (by rw [HE.out, HAB.out]; simp)
            clear HAS
            subst hz
            refine wp_region_held_drew (S := (fun w' => w'.cell? ⟨X, 0, none⟩ = some (.int .i64 id) ∧ w'.cell? ⟨X, 1, none⟩ = some (.bool true) ∧ w'.cell? ⟨X, 2, none⟩ = some (.int .i64 kd) ∧ w'.cell? ⟨X, 3, none⟩ = some (.slice a' ps.length cap') ∧ w'.cell? ⟨w.heap.size, 2, none⟩ = some (.slice (some ⟨b, o, none⟩) n cap))) (by kernel_rfl) ?_ (fun hHeld => ?_)
            · (repeat' apply And.intro) <;> (repeat (first | with_reducible assumption | with_reducible refine keepdrew ?_ | with_reducible refine keepcell (by with_reducible assumption) ?_ | with_reducible refine keepalloc ?_ _))
            refine wpAnyH_take (i := 0) (v := ?_) rfl (by kernel_rfl) (by kernel_rfl) (by kernel_rfl) (fun _ _ _ h => h) (Or.inl ⟨by rfl, ?_⟩) hHeld ?_
            rotate_left
            · intro w hSw; (try dsimp only at hSw); go_simp; try (with_reducible rfl)
            try simp only [sq]
            refine wpAnyH_take (i := 1) (v := ?_) rfl (by kernel_rfl) (by kernel_rfl) (by kernel_rfl) (fun _ _ _ h => h) (Or.inl ⟨by rfl, ?_⟩) hHeld ?_
            rotate_left
            · intro w hSw; (try dsimp only at hSw); go_simp; try (with_reducible rfl)
            try simp only [sq]
            refine wpAnyH_ready (rs := [2]) (by kernel_rfl) (by simp) ?_
            refine AllReadyH.cons rfl (fun K hK => ?_) AllReadyH.nil
            try simp only [sq]
            go_simp
            (first
                | (go_at_call 53; refine (HIDc.out _).mono ?_; rintro e z ⟨rfl, hw⟩; replace hw := hw.symm; subst hw))
            go_wp2_with fail
            refine hK.out _ _ ?_ (fun hHeld => ?_)
            · (repeat' apply And.intro) <;> (repeat (first | with_reducible assumption | with_reducible refine keepdrew ?_ | with_reducible refine keepcell (by with_reducible assumption) ?_ | with_reducible refine keepalloc ?_ _))
            clear hK K
            try simp only [sq]
            refine wpAnyH_take (i := 3) (v := ?_) rfl (by kernel_rfl) (by kernel_rfl) (by kernel_rfl) (fun _ _ _ h => h) (Or.inl ⟨by rfl, ?_⟩) hHeld ?_
            rotate_left
            · intro w hSw; (try dsimp only at hSw); go_simp; try (with_reducible rfl)
            try simp only [sq]
            refine wpAnyH_take (i := 4) (v := ?_) rfl (by kernel_rfl) (by kernel_rfl) (by kernel_rfl) (fun _ _ _ h => h) (Or.inl ⟨by rfl, ?_⟩) hHeld ?_
            rotate_left
            · intro w hSw; (try dsimp only at hSw); go_simp; try (with_reducible rfl)
            try simp only [sq]
            refine wpAnyH_take (i := 5) (v := ?_) rfl (by kernel_rfl) (by kernel_rfl) (by kernel_rfl) (fun _ _ _ h => h) (Or.inl ⟨by rfl, ?_⟩) hHeld ?_
            rotate_left
            · intro w hSw; (try dsimp only at hSw); go_simp; try (with_reducible rfl)
            try simp only [sq]
            refine wpAnyH_take (i := 6) (v := ?_) rfl (by kernel_rfl) (by kernel_rfl) (by kernel_rfl) (fun _ _ _ h => h) (Or.inl ⟨by rfl, ?_⟩) hHeld ?_
            rotate_left
            · intro w hSw; (try dsimp only at hSw); go_simp; try (with_reducible rfl)
            try simp only [sq]
            refine wpAnyH_take (i := 7) (v := ?_) rfl (by kernel_rfl) (by kernel_rfl) (by kernel_rfl) (fun _ _ _ h => h) (Or.inl ⟨by rfl, ?_⟩) hHeld ?_
            rotate_left
            · intro w hSw; (try dsimp only at hSw); go_simp; try (with_reducible rfl)
            try simp only [sq]
            refine wpAnyH_take (i := 8) (v := ?_) rfl (by kernel_rfl) (by kernel_rfl) (by kernel_rfl) (fun _ _ _ h => h) (Or.inl ⟨by rfl, ?_⟩) hHeld ?_
            rotate_left
            · intro w hSw; (try dsimp only at hSw); go_simp; try (with_reducible rfl)
            try simp only [sq]
            refine wpAnyH_take (i := 9) (v := undef) rfl (by kernel_rfl) (by kernel_rfl) (by kernel_rfl) (fun _ _ _ h => h) (Or.inr ⟨by rfl, rfl⟩) hHeld ?_
            try simp only [sq]
            refine wpAnyH_take (i := 10) (v := undef) rfl (by kernel_rfl) (by kernel_rfl) (by kernel_rfl) (fun _ _ _ h => h) (Or.inr ⟨by rfl, rfl⟩) hHeld ?_
            try simp only [sq]
            refine wpAnyH_take (i := 11) (v := undef) rfl (by kernel_rfl) (by kernel_rfl) (by kernel_rfl) (fun _ _ _ h => h) (Or.inr ⟨by rfl, rfl⟩) hHeld ?_
            try simp only [sq]
            refine wpAnyH_take (i := 12) (v := undef) rfl (by kernel_rfl) (by kernel_rfl) (by kernel_rfl) (fun _ _ _ h => h) (Or.inr ⟨by rfl, rfl⟩) hHeld ?_
            try simp only [sq]
            refine wpAnyH_take (i := 13) (v := ?_) rfl (by kernel_rfl) (by kernel_rfl) (by kernel_rfl) (fun _ _ _ h => h) (Or.inl ⟨by rfl, ?_⟩) hHeld ?_
            rotate_left
            · intro w hSw; (try dsimp only at hSw); go_simp; try (with_reducible rfl)
            try simp only [sq]
            refine wpAnyH_take (i := 14) (v := ?_) rfl (by kernel_rfl) (by kernel_rfl) (by kernel_rfl) (fun _ _ _ h => h) (Or.inl ⟨by rfl, ?_⟩) hHeld ?_
            rotate_left
            · intro w hSw; (try dsimp only at hSw); go_simp; try (with_reducible rfl)
            try simp only [sq]
            refine wpAnyH_take (i := 15) (v := ?_) rfl (by kernel_rfl) (by kernel_rfl) (by kernel_rfl) (fun _ _ _ h => h) (Or.inl ⟨by rfl, ?_⟩) hHeld ?_
            rotate_left
            · intro w hSw; (try dsimp only at hSw); go_simp; try (with_reducible rfl)
            try simp only [sq]
            refine wpAnyH_take (i := 16) (v := ?_) rfl (by kernel_rfl) (by kernel_rfl) (by kernel_rfl) (fun _ _ _ h => h) (Or.inl ⟨by rfl, ?_⟩) hHeld ?_
            rotate_left
            · intro w hSw; (try dsimp only at hSw); go_simp; try (with_reducible rfl)
            try simp only [sq]
            refine wpAnyH_take (i := 17) (v := ?_) rfl (by kernel_rfl) (by kernel_rfl) (by kernel_rfl) (fun _ _ _ h => h) (Or.inl ⟨by rfl, ?_⟩) hHeld ?_
            rotate_left
            · intro w hSw; (try dsimp only at hSw); go_simp; try (with_reducible rfl)
            try simp only [sq]
            refine wpAnyH_take (i := 18) (v := ?_) rfl (by kernel_rfl) (by kernel_rfl) (by kernel_rfl) (fun _ _ _ h => h) (Or.inl ⟨by rfl, ?_⟩) hHeld ?_
            rotate_left
            · intro w hSw; (try dsimp only at hSw); go_simp; try (with_reducible rfl)
            try simp only [sq]
            refine wpAnyH_take (i := 19) (v := undef) rfl (by kernel_rfl) (by kernel_rfl) (by kernel_rfl) (fun _ _ _ h => h) (Or.inr ⟨by rfl, rfl⟩) hHeld ?_
            try simp only [sq]
            refine wpAnyH_take (i := 20) (v := undef) rfl (by kernel_rfl) (by kernel_rfl) (by kernel_rfl) (fun _ _ _ h => h) (Or.inr ⟨by rfl, rfl⟩) hHeld ?_
            try simp only [sq]
            refine wpAnyH_take (i := 21) (v := undef) rfl (by kernel_rfl) (by kernel_rfl) (by kernel_rfl) (fun _ _ _ h => h) (Or.inr ⟨by rfl, rfl⟩) hHeld ?_
            try simp only [sq]
            refine wpAnyH_take (i := 22) (v := undef) rfl (by kernel_rfl) (by kernel_rfl) (by kernel_rfl) (fun _ _ _ h => h) (Or.inr ⟨by rfl, rfl⟩) hHeld ?_
            try simp only [sq]
            refine wpAnyH_take (i := 23) (v := undef) rfl (by kernel_rfl) (by kernel_rfl) (by kernel_rfl) (fun _ _ _ h => h) (Or.inr ⟨by rfl, rfl⟩) hHeld ?_
            try simp only [sq]
            refine wpAnyH_take (i := 24) (v := undef) rfl (by kernel_rfl) (by kernel_rfl) (by kernel_rfl) (fun _ _ _ h => h) (Or.inr ⟨by rfl, rfl⟩) hHeld ?_
            try simp only [sq]
            refine wpAnyH_take (i := 25) (v := undef) rfl (by kernel_rfl) (by kernel_rfl) (by kernel_rfl) (fun _ _ _ h => h) (Or.inr ⟨by rfl, rfl⟩) hHeld ?_
            try simp only [sq]
            refine wpAnyH_take (i := 26) (v := undef) rfl (by kernel_rfl) (by kernel_rfl) (by kernel_rfl) (fun _ _ _ h => h) (Or.inr ⟨by rfl, rfl⟩) hHeld ?_
            try simp only [sq]
            refine wpAnyH_take (i := 27) (v := undef) rfl (by kernel_rfl) (by kernel_rfl) (by kernel_rfl) (fun _ _ _ h => h) (Or.inr ⟨by rfl, rfl⟩) hHeld ?_
            try simp only [sq]
            refine wpAnyH_take (i := 28) (v := undef) rfl (by kernel_rfl) (by kernel_rfl) (by kernel_rfl) (fun _ _ _ h => h) (Or.inr ⟨by rfl, rfl⟩) hHeld ?_
            try simp only [sq]
            refine wpAnyH_take (i := 29) (v := ?_) rfl (by kernel_rfl) (by kernel_rfl) (by kernel_rfl) (fun _ _ _ h => h) (Or.inl ⟨by rfl, ?_⟩) hHeld ?_
            rotate_left
            · intro w hSw; (try dsimp only at hSw); go_simp; try (with_reducible rfl)
            try simp only [sq]
            refine wpAnyH_take (i := 30) (v := ?_) rfl (by kernel_rfl) (by kernel_rfl) (by kernel_rfl) (fun _ _ _ h => h) (Or.inl ⟨by rfl, ?_⟩) hHeld ?_
            rotate_left
            · intro w hSw; (try dsimp only at hSw); go_simp; try (with_reducible rfl)
            try simp only [sq]
            refine wpAnyH_done (by kernel_rfl) ?_ _
            go_wp2_with fail
            go_meet
            exact ⟨by first | (rw [HEI.out]; done) | (rw [HEI.out]; rfl), hid (by show Below _ _ _; (repeat (first | with_reducible exact Below.refl _ _ | with_reducible assumption | (with_reducible refine btrans ?_ (by with_reducible assumption)) | with_reducible refine bdrew ?_ | with_reducible refine balloc ?_ _)))⟩
          · obtain ⟨k, rfl⟩ : ∃ k, i = k + 1 := ⟨i - 1, by omega⟩
            have y0 := HP1.out k rfl
            simp only [Nat.add_sub_cancel] at HAS
            generalize (cs.getD k chd).1 = pid at y0 HAS
            have HAB : Hid (ab = decide (pid < id)) := hid (by rw [HAS.out]; simp)
            have HEI : Hid (ei = decide (pid < id)) := hid (by rw [HE.out, HAB.out]; simp)
            clear HAS
            have hz1 : (0 : Int) < ((k + 1 : Nat) : Int) := by omega
            have hw1 : IntKind.i64.wrap (((k + 1 : Nat) : Int) - 1) = (k : Int) := by rw [IntKind.wrap_i64]; omega
            have hw2 : IntKind.i64.wrap (k : Int) = (k : Int) := by rw [IntKind.wrap_i64]; omega
            have hk0 : (0 : Int) ≤ (k : Int) := by omega
            have hkn : (k : Int) < (n : Int) := by omega
            refine wp_region_held_drew (S := (fun w' => w'.cell? ⟨X, 0, none⟩ = some (.int .i64 id) ∧ w'.cell? ⟨X, 1, none⟩ = some (.bool true) ∧ w'.cell? ⟨X, 2, none⟩ = some (.int .i64 kd) ∧ w'.cell? ⟨X, 3, none⟩ = some (.slice a' ps.length cap') ∧ w'.cell? ⟨w.heap.size, 2, none⟩ = some (.slice (some ⟨b, o, none⟩) n cap) ∧ w'.cell? ⟨b, o + k * 4, none⟩ = some (.int .i64 pid))) (by kernel_rfl) ?_ (fun hHeld => ?_)
            · (repeat' apply And.intro) <;> (repeat (first | with_reducible assumption | with_reducible refine keepdrew ?_ | with_reducible refine keepcell (by with_reducible assumption) ?_ | with_reducible refine keepalloc ?_ _))
            refine wpAnyH_take (i := 0) (v := ?_) rfl (by kernel_rfl) (by kernel_rfl) (by kernel_rfl) (fun _ _ _ h => h) (Or.inl ⟨by rfl, ?_⟩) hHeld ?_
            rotate_left
            · intro w hSw; (try dsimp only at hSw); go_simp; try (with_reducible rfl)
            try simp only [sq]
            refine wpAnyH_take (i := 1) (v := ?_) rfl (by kernel_rfl) (by kernel_rfl) (by kernel_rfl) (fun _ _ _ h => h) (Or.inl ⟨by rfl, ?_⟩) hHeld ?_
            rotate_left
            · intro w hSw; (try dsimp only at hSw); go_simp; try (with_reducible rfl)
            try simp only [sq]
            refine wpAnyH_ready (rs := [2]) (by kernel_rfl) (by simp) ?_
            refine AllReadyH.cons rfl (fun K hK => ?_) AllReadyH.nil
            try simp only [sq]
            go_simp
            (first
                | (go_at_call 53; refine (HIDc.out _).mono ?_; rintro e z ⟨rfl, hw⟩; replace hw := hw.symm; subst hw))
            go_wp2_with fail
            refine hK.out _ _ ?_ (fun hHeld => ?_)
            · (repeat' apply And.intro) <;> (repeat (first | with_reducible assumption | with_reducible refine keepdrew ?_ | with_reducible refine keepcell (by with_reducible assumption) ?_ | with_reducible refine keepalloc ?_ _))
            clear hK K
            try simp only [sq]
            refine wpAnyH_take (i := 3) (v := ?_) rfl (by kernel_rfl) (by kernel_rfl) (by kernel_rfl) (fun _ _ _ h => h) (Or.inl ⟨by rfl, ?_⟩) hHeld ?_
            rotate_left
            · intro w hSw; (try dsimp only at hSw); go_simp; try (with_reducible rfl)
            try simp only [sq]
            refine wpAnyH_take (i := 4) (v := ?_) rfl (by kernel_rfl) (by kernel_rfl) (by kernel_rfl) (fun _ _ _ h => h) (Or.inl ⟨by rfl, ?_⟩) hHeld ?_
            rotate_left
            · intro w hSw; (try dsimp only at hSw); go_simp; try (with_reducible rfl)
            try simp only [sq]
            refine wpAnyH_take (i := 5) (v := ?_) rfl (by kernel_rfl) (by kernel_rfl) (by kernel_rfl) (fun _ _ _ h => h) (Or.inl ⟨by rfl, ?_⟩) hHeld ?_
            rotate_left
            · intro w hSw; (try dsimp only at hSw); go_simp; try (with_reducible rfl)
            try simp only [sq]
            refine wpAnyH_take (i := 6) (v := ?_) rfl (by kernel_rfl) (by kernel_rfl) (by kernel_rfl) (fun _ _ _ h => h) (Or.inl ⟨by rfl, ?_⟩) hHeld ?_
            rotate_left
            · intro w hSw; (try dsimp only at hSw); go_simp; try (with_reducible rfl)
            try simp only [sq]
            refine wpAnyH_take (i := 7) (v := ?_) rfl (by kernel_rfl) (by kernel_rfl) (by kernel_rfl) (fun _ _ _ h => h) (Or.inl ⟨by rfl, ?_⟩) hHeld ?_
            rotate_left
            · intro w hSw; (try dsimp only at hSw); go_simp; try (with_reducible rfl)
            try simp only [sq]
            refine wpAnyH_take (i := 8) (v := ?_) rfl (by kernel_rfl) (by kernel_rfl) (by kernel_rfl) (fun _ _ _ h => h) (Or.inl ⟨by rfl, ?_⟩) hHeld ?_
            rotate_left
            · intro w hSw; (try dsimp only at hSw); go_simp; try (with_reducible rfl)
            try simp only [sq]
            refine wpAnyH_take (i := 9) (v := undef) rfl (by kernel_rfl) (by kernel_rfl) (by kernel_rfl) (fun _ _ _ h => h) (Or.inr ⟨by rfl, rfl⟩) hHeld ?_
            try simp only [sq]
            refine wpAnyH_take (i := 10) (v := undef) rfl (by kernel_rfl) (by kernel_rfl) (by kernel_rfl) (fun _ _ _ h => h) (Or.inr ⟨by rfl, rfl⟩) hHeld ?_
            try simp only [sq]
            refine wpAnyH_take (i := 11) (v := undef) rfl (by kernel_rfl) (by kernel_rfl) (by kernel_rfl) (fun _ _ _ h => h) (Or.inr ⟨by rfl, rfl⟩) hHeld ?_
            try simp only [sq]
            refine wpAnyH_take (i := 12) (v := undef) rfl (by kernel_rfl) (by kernel_rfl) (by kernel_rfl) (fun _ _ _ h => h) (Or.inr ⟨by rfl, rfl⟩) hHeld ?_
            try simp only [sq]
            refine wpAnyH_take (i := 13) (v := ?_) rfl (by kernel_rfl) (by kernel_rfl) (by kernel_rfl) (fun _ _ _ h => h) (Or.inl ⟨by rfl, ?_⟩) hHeld ?_
            rotate_left
            · intro w hSw; (try dsimp only at hSw); go_simp; try (with_reducible rfl)
            try simp only [sq]
            refine wpAnyH_take (i := 14) (v := ?_) rfl (by kernel_rfl) (by kernel_rfl) (by kernel_rfl) (fun _ _ _ h => h) (Or.inl ⟨by rfl, ?_⟩) hHeld ?_
            rotate_left
            · intro w hSw; (try dsimp only at hSw); go_simp; try (with_reducible rfl)
            try simp only [sq]
            refine wpAnyH_take (i := 15) (v := ?_) rfl (by kernel_rfl) (by kernel_rfl) (by kernel_rfl) (fun _ _ _ h => h) (Or.inl ⟨by rfl, ?_⟩) hHeld ?_
            rotate_left
            · intro w hSw; (try dsimp only at hSw); go_simp; try (with_reducible rfl)
            try simp only [sq]
            refine wpAnyH_take (i := 16) (v := ?_) rfl (by kernel_rfl) (by kernel_rfl) (by kernel_rfl) (fun _ _ _ h => h) (Or.inl ⟨by rfl, ?_⟩) hHeld ?_
            rotate_left
            · intro w hSw; (try dsimp only at hSw); go_simp; try (with_reducible rfl)
            try simp only [sq]
            refine wpAnyH_take (i := 17) (v := ?_) rfl (by kernel_rfl) (by kernel_rfl) (by kernel_rfl) (fun _ _ _ h => h) (Or.inl ⟨by rfl, ?_⟩) hHeld ?_
            rotate_left
            · intro w hSw; (try dsimp only at hSw); go_simp; try (with_reducible rfl)
            try simp only [sq]
            refine wpAnyH_take (i := 18) (v := ?_) rfl (by kernel_rfl) (by kernel_rfl) (by kernel_rfl) (fun _ _ _ h => h) (Or.inl ⟨by rfl, ?_⟩) hHeld ?_
            rotate_left
            · intro w hSw; (try dsimp only at hSw); go_simp; try (with_reducible rfl)
            try simp only [sq]
            refine wpAnyH_take (i := 19) (v := ?_) rfl (by kernel_rfl) (by kernel_rfl) (by kernel_rfl) (fun _ _ _ h => h) (Or.inl ⟨by rfl, ?_⟩) hHeld ?_
            rotate_left
            · intro w hSw; (try dsimp only at hSw); go_simp; try (with_reducible rfl)
            try simp only [sq]
            refine wpAnyH_take (i := 20) (v := ?_) rfl (by kernel_rfl) (by kernel_rfl) (by kernel_rfl) (fun _ _ _ h => h) (Or.inl ⟨by rfl, ?_⟩) hHeld ?_
            rotate_left
            · intro w hSw; (try dsimp only at hSw); go_simp; try (with_reducible rfl)
            try simp only [sq]
            refine wpAnyH_take (i := 21) (v := ?_) rfl (by kernel_rfl) (by kernel_rfl) (by kernel_rfl) (fun _ _ _ h => h) (Or.inl ⟨by rfl, ?_⟩) hHeld ?_
            rotate_left
            · intro w hSw; (try dsimp only at hSw); go_simp; try (with_reducible rfl)
            try simp only [sq]
            refine wpAnyH_take (i := 22) (v := ?_) rfl (by kernel_rfl) (by kernel_rfl) (by kernel_rfl) (fun _ _ _ h => h) (Or.inl ⟨by rfl, ?_⟩) hHeld ?_
            rotate_left
            · intro w hSw; (try dsimp only at hSw); go_simp; try (with_reducible rfl)
            try simp only [sq]
            refine wpAnyH_take (i := 23) (v := ?_) rfl (by kernel_rfl) (by kernel_rfl) (by kernel_rfl) (fun _ _ _ h => h) (Or.inl ⟨by rfl, ?_⟩) hHeld ?_
            rotate_left
            · intro w hSw; (try dsimp only at hSw); go_simp; try (with_reducible rfl)
            try simp only [sq]
            refine wpAnyH_take (i := 24) (v := ?_) rfl (by kernel_rfl) (by kernel_rfl) (by kernel_rfl) (fun _ _ _ h => h) (Or.inl ⟨by rfl, ?_⟩) hHeld ?_
            rotate_left
            · intro w hSw; (try dsimp only at hSw); go_simp; try (with_reducible rfl)
            try simp only [sq]
            refine wpAnyH_take (i := 25) (v := ?_) rfl (by kernel_rfl) (by kernel_rfl) (by kernel_rfl) (fun _ _ _ h => h) (Or.inl ⟨by rfl, ?_⟩) hHeld ?_
            rotate_left
            · intro w hSw; (try dsimp only at hSw); go_simp; try (with_reducible rfl)
            try simp only [sq]
            refine wpAnyH_take (i := 26) (v := ?_) rfl (by kernel_rfl) (by kernel_rfl) (by kernel_rfl) (fun _ _ _ h => h) (Or.inl ⟨by rfl, ?_⟩) hHeld ?_
            rotate_left
            · intro w hSw; (try dsimp only at hSw); go_simp; try (with_reducible rfl)
            try simp only [sq]
            refine wpAnyH_take (i := 27) (v := ?_) rfl (by kernel_rfl) (by kernel_rfl) (by kernel_rfl) (fun _ _ _ h => h) (Or.inl ⟨by rfl, ?_⟩) hHeld ?_
            rotate_left
            · intro w hSw; (try dsimp only at hSw); go_simp; try (with_reducible rfl)
            try simp only [sq]
            refine wpAnyH_take (i := 28) (v := ?_) rfl (by kernel_rfl) (by kernel_rfl) (by kernel_rfl) (fun _ _ _ h => h) (Or.inl ⟨by rfl, ?_⟩) hHeld ?_
            rotate_left
            · intro w hSw; (try dsimp only at hSw); go_simp; try (with_reducible rfl)
            try simp only [sq]
            refine wpAnyH_take (i := 29) (v := ?_) rfl (by kernel_rfl) (by kernel_rfl) (by kernel_rfl) (fun _ _ _ h => h) (Or.inl ⟨by rfl, ?_⟩) hHeld ?_
            rotate_left
            · intro w hSw; (try dsimp only at hSw); go_simp; try (with_reducible rfl)
            try simp only [sq]
            refine wpAnyH_take (i := 30) (v := ?_) rfl (by kernel_rfl) (by kernel_rfl) (by kernel_rfl) (fun _ _ _ h => h) (Or.inl ⟨by rfl, ?_⟩) hHeld ?_
            rotate_left
            · intro w hSw; (try dsimp only at hSw); go_simp; try (with_reducible rfl)
            try simp only [sq]
            refine wpAnyH_done (by kernel_rfl) ?_ _
            go_wp2_with fail
            go_meet
            exact ⟨by rw [HEI.out]; congr 1; by_cases hq : pid < id <;> simp [hq] <;> omega, hid (by show Below _ _ _; (repeat (first | with_reducible exact Below.refl _ _ | with_reducible assumption | (with_reducible refine btrans ?_ (by with_reducible assumption)) | with_reducible refine bdrew ?_ | with_reducible refine balloc ?_ _)))⟩
        cases sb
        · have HEI : Hid (ei = false) := hid (by rw [HE.out]; simp)
          refine wp_region_held_drew (S := (fun w' => w'.cell? ⟨X, 0, none⟩ = some (.int .i64 id) ∧ w'.cell? ⟨X, 1, none⟩ = some (.bool false) ∧ w'.cell? ⟨X, 2, none⟩ = some (.int .i64 kd) ∧ w'.cell? ⟨X, 3, none⟩ = some (.slice a' ps.length cap') ∧ w'.cell? ⟨w.heap.size, 2, none⟩ = some (.slice (some ⟨b, o, none⟩) n cap))) (by kernel_rfl) ?_ (fun hHeld => ?_)
          · (repeat' apply And.intro) <;> (repeat (first | with_reducible assumption | with_reducible refine keepdrew ?_ | with_reducible refine keepcell (by with_reducible assumption) ?_ | with_reducible refine keepalloc ?_ _))
          refine wpAnyH_take (i := 0) (v := ?_) rfl (by kernel_rfl) (by kernel_rfl) (by kernel_rfl) (fun _ _ _ h => h) (Or.inl ⟨by rfl, ?_⟩) hHeld ?_
          rotate_left
          · intro w hSw; (try dsimp only at hSw); go_simp; try (with_reducible rfl)
          try simp only [sq]
          refine wpAnyH_take (i := 1) (v := ?_) rfl (by kernel_rfl) (by kernel_rfl) (by kernel_rfl) (fun _ _ _ h => h) (Or.inl ⟨by rfl, ?_⟩) hHeld ?_
          rotate_left
          · intro w hSw; (try dsimp only at hSw); go_simp; try (with_reducible rfl)
          try simp only [sq]
          refine wpAnyH_ready (rs := [2]) (by kernel_rfl) (by simp) ?_
          refine AllReadyH.cons rfl (fun K hK => ?_) AllReadyH.nil
          try simp only [sq]
          go_simp
          (first
              | (go_at_call 53; refine (HIDc.out _).mono ?_; rintro e z ⟨rfl, hw⟩; replace hw := hw.symm; subst hw))
          go_wp2_with fail
          refine hK.out _ _ ?_ (fun hHeld => ?_)
          · (repeat' apply And.intro) <;> (repeat (first | with_reducible assumption | with_reducible refine keepdrew ?_ | with_reducible refine keepcell (by with_reducible assumption) ?_ | with_reducible refine keepalloc ?_ _))
          clear hK K
          try simp only [sq]
          refine wpAnyH_take (i := 3) (v := ?_) rfl (by kernel_rfl) (by kernel_rfl) (by kernel_rfl) (fun _ _ _ h => h) (Or.inl ⟨by rfl, ?_⟩) hHeld ?_
          rotate_left
          · intro w hSw; (try dsimp only at hSw); go_simp; try (with_reducible rfl)
          try simp only [sq]
          refine wpAnyH_take (i := 4) (v := ?_) rfl (by kernel_rfl) (by kernel_rfl) (by kernel_rfl) (fun _ _ _ h => h) (Or.inl ⟨by rfl, ?_⟩) hHeld ?_
          rotate_left
          · intro w hSw; (try dsimp only at hSw); go_simp; try (with_reducible rfl)
          try simp only [sq]
          refine wpAnyH_take (i := 5) (v := ?_) rfl (by kernel_rfl) (by kernel_rfl) (by kernel_rfl) (fun _ _ _ h => h) (Or.inl ⟨by rfl, ?_⟩) hHeld ?_
          rotate_left
          · intro w hSw; (try dsimp only at hSw); go_simp; try (with_reducible rfl)
          try simp only [sq]
          refine wpAnyH_take (i := 6) (v := ?_) rfl (by kernel_rfl) (by kernel_rfl) (by kernel_rfl) (fun _ _ _ h => h) (Or.inl ⟨by rfl, ?_⟩) hHeld ?_
          rotate_left
          · intro w hSw; (try dsimp only at hSw); go_simp; try (with_reducible rfl)
          try simp only [sq]
          refine wpAnyH_take (i := 7) (v := ?_) rfl (by kernel_rfl) (by kernel_rfl) (by kernel_rfl) (fun _ _ _ h => h) (Or.inl ⟨by rfl, ?_⟩) hHeld ?_
          rotate_left
          · intro w hSw; (try dsimp only at hSw); go_simp; try (with_reducible rfl)
          try simp only [sq]
          refine wpAnyH_take (i := 8) (v := ?_) rfl (by kernel_rfl) (by kernel_rfl) (by kernel_rfl) (fun _ _ _ h => h) (Or.inl ⟨by rfl, ?_⟩) hHeld ?_
          rotate_left
          · intro w hSw; (try dsimp only at hSw); go_simp; try (with_reducible rfl)
          try simp only [sq]
          refine wpAnyH_take (i := 9) (v := ?_) rfl (by kernel_rfl) (by kernel_rfl) (by kernel_rfl) (fun _ _ _ h => h) (Or.inl ⟨by rfl, ?_⟩) hHeld ?_
          rotate_left
          · intro w hSw; (try dsimp only at hSw); go_simp; try (with_reducible rfl)
          try simp only [sq]
          refine wpAnyH_take (i := 10) (v := ?_) rfl (by kernel_rfl) (by kernel_rfl) (by kernel_rfl) (fun _ _ _ h => h) (Or.inl ⟨by rfl, ?_⟩) hHeld ?_
          rotate_left
          · intro w hSw; (try dsimp only at hSw); go_simp; try (with_reducible rfl)
          try simp only [sq]
          refine wpAnyH_ready (rs := [11]) (by kernel_rfl) (by simp) ?_
          refine AllReadyH.cons rfl (fun K hK => ?_) AllReadyH.nil
          try simp only [sq]
          go_simp
          (first
              | (go_at_call 55; refine (HSO.out _ (bdrew HBX.out)).mono ?_; rintro e z2 ⟨rfl, hz2⟩))
          go_wp2_with fail
          refine hK.out _ _ ?_ (fun hHeld => ?_)
          · (repeat' apply And.intro) <;> (repeat (first | with_reducible assumption | with_reducible refine keepdrew ?_ | with_reducible refine keepcell (by with_reducible assumption) ?_ | with_reducible refine keepalloc ?_ _))
          clear hK K
          try simp only [sq]
          refine wpAnyH_take (i := 12) (v := ?_) rfl (by kernel_rfl) (by kernel_rfl) (by kernel_rfl) (fun _ _ _ h => h) (Or.inl ⟨by rfl, ?_⟩) hHeld ?_
          rotate_left
          · intro w hSw; (try dsimp only at hSw); go_simp; try (with_reducible rfl)
          try simp only [sq]
          refine wpAnyH_take (i := 13) (v := ?_) rfl (by kernel_rfl) (by kernel_rfl) (by kernel_rfl) (fun _ _ _ h => h) (Or.inl ⟨by rfl, ?_⟩) hHeld ?_
          rotate_left
          · intro w hSw; (try dsimp only at hSw); go_simp; try (with_reducible rfl)
          try simp only [sq]
          refine wpAnyH_take (i := 14) (v := ?_) rfl (by kernel_rfl) (by kernel_rfl) (by kernel_rfl) (fun _ _ _ h => h) (Or.inl ⟨by rfl, ?_⟩) hHeld ?_
          rotate_left
          · intro w hSw; (try dsimp only at hSw); go_simp; try (with_reducible rfl)
          try simp only [sq]
          refine wpAnyH_take (i := 15) (v := ?_) rfl (by kernel_rfl) (by kernel_rfl) (by kernel_rfl) (fun _ _ _ h => h) (Or.inl ⟨by rfl, ?_⟩) hHeld ?_
          rotate_left
          · intro w hSw; (try dsimp only at hSw); go_simp; try (with_reducible rfl)
          try simp only [sq]
          refine wpAnyH_take (i := 16) (v := undef) rfl (by kernel_rfl) (by kernel_rfl) (by kernel_rfl) (fun _ _ _ h => h) (Or.inr ⟨by rfl, rfl⟩) hHeld ?_
          try simp only [sq]
          refine wpAnyH_take (i := 17) (v := undef) rfl (by kernel_rfl) (by kernel_rfl) (by kernel_rfl) (fun _ _ _ h => h) (Or.inr ⟨by rfl, rfl⟩) hHeld ?_
          try simp only [sq]
          refine wpAnyH_take (i := 18) (v := undef) rfl (by kernel_rfl) (by kernel_rfl) (by kernel_rfl) (fun _ _ _ h => h) (Or.inr ⟨by rfl, rfl⟩) hHeld ?_
          try simp only [sq]
          refine wpAnyH_take (i := 19) (v := undef) rfl (by kernel_rfl) (by kernel_rfl) (by kernel_rfl) (fun _ _ _ h => h) (Or.inr ⟨by rfl, rfl⟩) hHeld ?_
          try simp only [sq]
          refine wpAnyH_take (i := 20) (v := undef) rfl (by kernel_rfl) (by kernel_rfl) (by kernel_rfl) (fun _ _ _ h => h) (Or.inr ⟨by rfl, rfl⟩) hHeld ?_
          try simp only [sq]
          refine wpAnyH_take (i := 21) (v := undef) rfl (by kernel_rfl) (by kernel_rfl) (by kernel_rfl) (fun _ _ _ h => h) (Or.inr ⟨by rfl, rfl⟩) hHeld ?_
          try simp only [sq]
          refine wpAnyH_take (i := 22) (v := undef) rfl (by kernel_rfl) (by kernel_rfl) (by kernel_rfl) (fun _ _ _ h => h) (Or.inr ⟨by rfl, rfl⟩) hHeld ?_
          try simp only [sq]
          refine wpAnyH_take (i := 23) (v := undef) rfl (by kernel_rfl) (by kernel_rfl) (by kernel_rfl) (fun _ _ _ h => h) (Or.inr ⟨by rfl, rfl⟩) hHeld ?_
          try simp only [sq]
          refine wpAnyH_take (i := 24) (v := undef) rfl (by kernel_rfl) (by kernel_rfl) (by kernel_rfl) (fun _ _ _ h => h) (Or.inr ⟨by rfl, rfl⟩) hHeld ?_
          try simp only [sq]
          refine wpAnyH_take (i := 25) (v := undef) rfl (by kernel_rfl) (by kernel_rfl) (by kernel_rfl) (fun _ _ _ h => h) (Or.inr ⟨by rfl, rfl⟩) hHeld ?_
          try simp only [sq]
          refine wpAnyH_take (i := 26) (v := undef) rfl (by kernel_rfl) (by kernel_rfl) (by kernel_rfl) (fun _ _ _ h => h) (Or.inr ⟨by rfl, rfl⟩) hHeld ?_
          try simp only [sq]
          refine wpAnyH_take (i := 27) (v := undef) rfl (by kernel_rfl) (by kernel_rfl) (by kernel_rfl) (fun _ _ _ h => h) (Or.inr ⟨by rfl, rfl⟩) hHeld ?_
          try simp only [sq]
          refine wpAnyH_take (i := 28) (v := undef) rfl (by kernel_rfl) (by kernel_rfl) (by kernel_rfl) (fun _ _ _ h => h) (Or.inr ⟨by rfl, rfl⟩) hHeld ?_
          try simp only [sq]
          refine wpAnyH_take (i := 29) (v := undef) rfl (by kernel_rfl) (by kernel_rfl) (by kernel_rfl) (fun _ _ _ h => h) (Or.inr ⟨by rfl, rfl⟩) hHeld ?_
          try simp only [sq]
          refine wpAnyH_take (i := 30) (v := ?_) rfl (by kernel_rfl) (by kernel_rfl) (by kernel_rfl) (fun _ _ _ h => h) (Or.inl ⟨by rfl, ?_⟩) hHeld ?_
          rotate_left
          · intro w hSw; (try dsimp only at hSw); go_simp; try (with_reducible rfl)
          try simp only [sq]
          refine wpAnyH_done (by kernel_rfl) ?_ _
          go_wp2_with fail
          go_meet
          exact ⟨by first | (rw [HEI.out]; done) | (rw [HEI.out]; rfl), hid (by show Below _ _ _; (repeat (first | with_reducible exact Below.refl _ _ | with_reducible assumption | (with_reducible refine btrans ?_ (by with_reducible assumption)) | with_reducible refine bdrew ?_ | with_reducible refine balloc ?_ _)))⟩
        · skip
          rcases Nat.eq_zero_or_pos i with hz | hp
          · have HAB : Hid (ab = true) := hid (by rw [HAS.out, hz]; rfl)
            have HEI : Hid (ei = true) := hid (by rw [HE.out, HAB.out]; simp)
            clear HAS
            subst hz
            refine wp_region_held_drew (S := (fun w' => w'.cell? ⟨X, 0, none⟩ = some (.int .i64 id) ∧ w'.cell? ⟨X, 1, none⟩ = some (.bool false) ∧ w'.cell? ⟨X, 2, none⟩ = some (.int .i64 kd) ∧ w'.cell? ⟨X, 3, none⟩ = some (.slice a' ps.length cap') ∧ w'.cell? ⟨w.heap.size, 2, none⟩ = some (.slice (some ⟨b, o, none⟩) n cap))) (by kernel_rfl) ?_ (fun hHeld => ?_)
            · (repeat' apply And.intro) <;> (repeat (first | with_reducible assumption | with_reducible refine keepdrew ?_ | with_reducible refine keepcell (by with_reducible assumption) ?_ | with_reducible refine keepalloc ?_ _))
            refine wpAnyH_take (i := 0) (v := ?_) rfl (by kernel_rfl) (by kernel_rfl) (by kernel_rfl) (fun _ _ _ h => h) (Or.inl ⟨by rfl, ?_⟩) hHeld ?_
            rotate_left
            · intro w hSw; (try dsimp only at hSw); go_simp; try (with_reducible rfl)
            try simp only [sq]
            refine wpAnyH_take (i := 1) (v := ?_) rfl (by kernel_rfl) (by kernel_rfl) (by kernel_rfl) (fun _ _ _ h => h) (Or.inl ⟨by rfl, ?_⟩) hHeld ?_
            rotate_left
            · intro w hSw; (try dsimp only at hSw); go_simp; try (with_reducible rfl)
            try simp only [sq]
            refine wpAnyH_ready (rs := [2]) (by kernel_rfl) (by simp) ?_
            refine AllReadyH.cons rfl (fun K hK => ?_) AllReadyH.nil
            try simp only [sq]
            go_simp
            (first
                | (go_at_call 53; refine (HIDc.out _).mono ?_; rintro e z ⟨rfl, hw⟩; replace hw := hw.symm; subst hw))
            go_wp2_with fail
            refine hK.out _ _ ?_ (fun hHeld => ?_)
            · (repeat' apply And.intro) <;> (repeat (first | with_reducible assumption | with_reducible refine keepdrew ?_ | with_reducible refine keepcell (by with_reducible assumption) ?_ | with_reducible refine keepalloc ?_ _))
            clear hK K
            try simp only [sq]
            refine wpAnyH_take (i := 3) (v := ?_) rfl (by kernel_rfl) (by kernel_rfl) (by kernel_rfl) (fun _ _ _ h => h) (Or.inl ⟨by rfl, ?_⟩) hHeld ?_
            rotate_left
            · intro w hSw; (try dsimp only at hSw); go_simp; try (with_reducible rfl)
            try simp only [sq]
            refine wpAnyH_take (i := 4) (v := ?_) rfl (by kernel_rfl) (by kernel_rfl) (by kernel_rfl) (fun _ _ _ h => h) (Or.inl ⟨by rfl, ?_⟩) hHeld ?_
            rotate_left
            · intro w hSw; (try dsimp only at hSw); go_simp; try (with_reducible rfl)
            try simp only [sq]
            refine wpAnyH_take (i := 5) (v := ?_) rfl (by kernel_rfl) (by kernel_rfl) (by kernel_rfl) (fun _ _ _ h => h) (Or.inl ⟨by rfl, ?_⟩) hHeld ?_
            rotate_left
            · intro w hSw; (try dsimp only at hSw); go_simp; try (with_reducible rfl)
            try simp only [sq]
            refine wpAnyH_take (i := 6) (v := ?_) rfl (by kernel_rfl) (by kernel_rfl) (by kernel_rfl) (fun _ _ _ h => h) (Or.inl ⟨by rfl, ?_⟩) hHeld ?_
            rotate_left
            · intro w hSw; (try dsimp only at hSw); go_simp; try (with_reducible rfl)
            try simp only [sq]
            refine wpAnyH_take (i := 7) (v := ?_) rfl (by kernel_rfl) (by kernel_rfl) (by kernel_rfl) (fun _ _ _ h => h) (Or.inl ⟨by rfl, ?_⟩) hHeld ?_
            rotate_left
            · intro w hSw; (try dsimp only at hSw); go_simp; try (with_reducible rfl)
            try simp only [sq]
            refine wpAnyH_take (i := 8) (v := ?_) rfl (by kernel_rfl) (by kernel_rfl) (by kernel_rfl) (fun _ _ _ h => h) (Or.inl ⟨by rfl, ?_⟩) hHeld ?_
            rotate_left
            · intro w hSw; (try dsimp only at hSw); go_simp; try (with_reducible rfl)
            try simp only [sq]
            refine wpAnyH_take (i := 9) (v := ?_) rfl (by kernel_rfl) (by kernel_rfl) (by kernel_rfl) (fun _ _ _ h => h) (Or.inl ⟨by rfl, ?_⟩) hHeld ?_
            rotate_left
            · intro w hSw; (try dsimp only at hSw); go_simp; try (with_reducible rfl)
            try simp only [sq]
            refine wpAnyH_take (i := 10) (v := ?_) rfl (by kernel_rfl) (by kernel_rfl) (by kernel_rfl) (fun _ _ _ h => h) (Or.inl ⟨by rfl, ?_⟩) hHeld ?_
            rotate_left
            · intro w hSw; (try dsimp only at hSw); go_simp; try (with_reducible rfl)
            try simp only [sq]
            refine wpAnyH_ready (rs := [11]) (by kernel_rfl) (by simp) ?_
            refine AllReadyH.cons rfl (fun K hK => ?_) AllReadyH.nil
            try simp only [sq]
            go_simp
            (first
                | (go_at_call 55; refine (HSO.out _ (bdrew HBX.out)).mono ?_; rintro e z2 ⟨rfl, hz2⟩))
            go_wp2_with fail
            refine hK.out _ _ ?_ (fun hHeld => ?_)
            · (repeat' apply And.intro) <;> (repeat (first | with_reducible assumption | with_reducible refine keepdrew ?_ | with_reducible refine keepcell (by with_reducible assumption) ?_ | with_reducible refine keepalloc ?_ _))
            clear hK K
            try simp only [sq]
            refine wpAnyH_take (i := 12) (v := ?_) rfl (by kernel_rfl) (by kernel_rfl) (by kernel_rfl) (fun _ _ _ h => h) (Or.inl ⟨by rfl, ?_⟩) hHeld ?_
            rotate_left
            · intro w hSw; (try dsimp only at hSw); go_simp; try (with_reducible rfl)
            try simp only [sq]
            refine wpAnyH_take (i := 13) (v := ?_) rfl (by kernel_rfl) (by kernel_rfl) (by kernel_rfl) (fun _ _ _ h => h) (Or.inl ⟨by rfl, ?_⟩) hHeld ?_
            rotate_left
            · intro w hSw; (try dsimp only at hSw); go_simp; try (with_reducible rfl)
            try simp only [sq]
            refine wpAnyH_take (i := 14) (v := ?_) rfl (by kernel_rfl) (by kernel_rfl) (by kernel_rfl) (fun _ _ _ h => h) (Or.inl ⟨by rfl, ?_⟩) hHeld ?_
            rotate_left
            · intro w hSw; (try dsimp only at hSw); go_simp; try (with_reducible rfl)
            try simp only [sq]
            refine wpAnyH_take (i := 15) (v := ?_) rfl (by kernel_rfl) (by kernel_rfl) (by kernel_rfl) (fun _ _ _ h => h) (Or.inl ⟨by rfl, ?_⟩) hHeld ?_
            rotate_left
            · intro w hSw; (try dsimp only at hSw); go_simp; try (with_reducible rfl)
            try simp only [sq]
            refine wpAnyH_take (i := 16) (v := ?_) rfl (by kernel_rfl) (by kernel_rfl) (by kernel_rfl) (fun _ _ _ h => h) (Or.inl ⟨by rfl, ?_⟩) hHeld ?_
            rotate_left
            · intro w hSw; (try dsimp only at hSw); go_simp; try (with_reducible rfl)
            try simp only [sq]
            refine wpAnyH_take (i := 17) (v := ?_) rfl (by kernel_rfl) (by kernel_rfl) (by kernel_rfl) (fun _ _ _ h => h) (Or.inl ⟨by rfl, ?_⟩) hHeld ?_
            rotate_left
            · intro w hSw; (try dsimp only at hSw); go_simp; try (with_reducible rfl)
            try simp only [sq]
            refine wpAnyH_take (i := 18) (v := ?_) rfl (by kernel_rfl) (by kernel_rfl) (by kernel_rfl) (fun _ _ _ h => h) (Or.inl ⟨by rfl, ?_⟩) hHeld ?_
            rotate_left
            · intro w hSw; (try dsimp only at hSw); go_simp; try (with_reducible rfl)
            try simp only [sq]
            refine wpAnyH_take (i := 19) (v := undef) rfl (by kernel_rfl) (by kernel_rfl) (by kernel_rfl) (fun _ _ _ h => h) (Or.inr ⟨by rfl, rfl⟩) hHeld ?_
            try simp only [sq]
            refine wpAnyH_take (i := 20) (v := undef) rfl (by kernel_rfl) (by kernel_rfl) (by kernel_rfl) (fun _ _ _ h => h) (Or.inr ⟨by rfl, rfl⟩) hHeld ?_
            try simp only [sq]
            refine wpAnyH_take (i := 21) (v := undef) rfl (by kernel_rfl) (by kernel_rfl) (by kernel_rfl) (fun _ _ _ h => h) (Or.inr ⟨by rfl, rfl⟩) hHeld ?_
            try simp only [sq]
            refine wpAnyH_take (i := 22) (v := undef) rfl (by kernel_rfl) (by kernel_rfl) (by kernel_rfl) (fun _ _ _ h => h) (Or.inr ⟨by rfl, rfl⟩) hHeld ?_
            try simp only [sq]
            refine wpAnyH_take (i := 23) (v := undef) rfl (by kernel_rfl) (by kernel_rfl) (by kernel_rfl) (fun _ _ _ h => h) (Or.inr ⟨by rfl, rfl⟩) hHeld ?_
            try simp only [sq]
            refine wpAnyH_take (i := 24) (v := undef) rfl (by kernel_rfl) (by kernel_rfl) (by kernel_rfl) (fun _ _ _ h => h) (Or.inr ⟨by rfl, rfl⟩) hHeld ?_
            try simp only [sq]
            refine wpAnyH_take (i := 25) (v := undef) rfl (by kernel_rfl) (by kernel_rfl) (by kernel_rfl) (fun _ _ _ h => h) (Or.inr ⟨by rfl, rfl⟩) hHeld ?_
            try simp only [sq]
            refine wpAnyH_take (i := 26) (v := undef) rfl (by kernel_rfl) (by kernel_rfl) (by kernel_rfl) (fun _ _ _ h => h) (Or.inr ⟨by rfl, rfl⟩) hHeld ?_
            try simp only [sq]
            refine wpAnyH_take (i := 27) (v := undef) rfl (by kernel_rfl) (by kernel_rfl) (by kernel_rfl) (fun _ _ _ h => h) (Or.inr ⟨by rfl, rfl⟩) hHeld ?_
            try simp only [sq]
            refine wpAnyH_take (i := 28) (v := undef) rfl (by kernel_rfl) (by kernel_rfl) (by kernel_rfl) (fun _ _ _ h => h) (Or.inr ⟨by rfl, rfl⟩) hHeld ?_
            try simp only [sq]
            refine wpAnyH_take (i := 29) (v := ?_) rfl (by kernel_rfl) (by kernel_rfl) (by kernel_rfl) (fun _ _ _ h => h) (Or.inl ⟨by rfl, ?_⟩) hHeld ?_
            rotate_left
            · intro w hSw; (try dsimp only at hSw); go_simp; try (with_reducible rfl)
            try simp only [sq]
            refine wpAnyH_take (i := 30) (v := ?_) rfl (by kernel_rfl) (by kernel_rfl) (by kernel_rfl) (fun _ _ _ h => h) (Or.inl ⟨by rfl, ?_⟩) hHeld ?_
            rotate_left
            · intro w hSw; (try dsimp only at hSw); go_simp; try (with_reducible rfl)
            try simp only [sq]
            refine wpAnyH_done (by kernel_rfl) ?_ _
            go_wp2_with fail
            go_meet
            exact ⟨by first | (rw [HEI.out]; done) | (rw [HEI.out]; rfl), hid (by show Below _ _ _; (repeat (first | with_reducible exact Below.refl _ _ | with_reducible assumption | (with_reducible refine btrans ?_ (by with_reducible assumption)) | with_reducible refine bdrew ?_ | with_reducible refine balloc ?_ _)))⟩
          · obtain ⟨k, rfl⟩ : ∃ k, i = k + 1 := ⟨i - 1, by omega⟩
            have y0 := HP1.out k rfl
            simp only [Nat.add_sub_cancel] at HAS
            generalize (cs.getD k chd).1 = pid at y0 HAS
            have HAB : Hid (ab = decide (pid < id)) := hid (by rw [HAS.out]; simp)
            have HEI : Hid (ei = decide (pid < id)) := hid (by rw [HE.out, HAB.out]; simp)
            clear HAS
            have hz1 : (0 : Int) < ((k + 1 : Nat) : Int) := by omega
            have hw1 : IntKind.i64.wrap (((k + 1 : Nat) : Int) - 1) = (k : Int) := by rw [IntKind.wrap_i64]; omega
            have hw2 : IntKind.i64.wrap (k : Int) = (k : Int) := by rw [IntKind.wrap_i64]; omega
            have hk0 : (0 : Int) ≤ (k : Int) := by omega
            have hkn : (k : Int) < (n : Int) := by omega
            refine wp_region_held_drew (S := (fun w' => w'.cell? ⟨X, 0, none⟩ = some (.int .i64 id) ∧ w'.cell? ⟨X, 1, none⟩ = some (.bool false) ∧ w'.cell? ⟨X, 2, none⟩ = some (.int .i64 kd) ∧ w'.cell? ⟨X, 3, none⟩ = some (.slice a' ps.length cap') ∧ w'.cell? ⟨w.heap.size, 2, none⟩ = some (.slice (some ⟨b, o, none⟩) n cap) ∧ w'.cell? ⟨b, o + k * 4, none⟩ = some (.int .i64 pid))) (by kernel_rfl) ?_ (fun hHeld => ?_)
            · (repeat' apply And.intro) <;> (repeat (first | with_reducible assumption | with_reducible refine keepdrew ?_ | with_reducible refine keepcell (by with_reducible assumption) ?_ | with_reducible refine keepalloc ?_ _))
            refine wpAnyH_take (i := 0) (v := ?_) rfl (by kernel_rfl) (by kernel_rfl) (by kernel_rfl) (fun _ _ _ h => h) (Or.inl ⟨by rfl, ?_⟩) hHeld ?_
            rotate_left
            · intro w hSw; (try dsimp only at hSw); go_simp; try (with_reducible rfl)
            try simp only [sq]
            refine wpAnyH_take (i := 1) (v := ?_) rfl (by kernel_rfl) (by kernel_rfl) (by kernel_rfl) (fun _ _ _ h => h) (Or.inl ⟨by rfl, ?_⟩) hHeld ?_
            rotate_left
            · intro w hSw; (try dsimp only at hSw); go_simp; try (with_reducible rfl)
            try simp only [sq]
            refine wpAnyH_ready (rs := [2]) (by kernel_rfl) (by simp) ?_
            refine AllReadyH.cons rfl (fun K hK => ?_) AllReadyH.nil
            try simp only [sq]
            go_simp
            (first
                | (go_at_call 53; refine (HIDc.out _).mono ?_; rintro e z ⟨rfl, hw⟩; replace hw := hw.symm; subst hw))
            go_wp2_with fail
            refine hK.out _ _ ?_ (fun hHeld => ?_)
            · (repeat' apply And.intro) <;> (repeat (first | with_reducible assumption | with_reducible refine keepdrew ?_ | with_reducible refine keepcell (by with_reducible assumption) ?_ | with_reducible refine keepalloc ?_ _))
            clear hK K
            try simp only [sq]
            refine wpAnyH_take (i := 3) (v := ?_) rfl (by kernel_rfl) (by kernel_rfl) (by kernel_rfl) (fun _ _ _ h => h) (Or.inl ⟨by rfl, ?_⟩) hHeld ?_
            rotate_left
            · intro w hSw; (try dsimp only at hSw); go_simp; try (with_reducible rfl)
            try simp only [sq]
            refine wpAnyH_take (i := 4) (v := ?_) rfl (by kernel_rfl) (by kernel_rfl) (by kernel_rfl) (fun _ _ _ h => h) (Or.inl ⟨by rfl, ?_⟩) hHeld ?_
            rotate_left
            · intro w hSw; (try dsimp only at hSw); go_simp; try (with_reducible rfl)
            try simp only [sq]
            refine wpAnyH_take (i := 5) (v := ?_) rfl (by kernel_rfl) (by kernel_rfl) (by kernel_rfl) (fun _ _ _ h => h) (Or.inl ⟨by rfl, ?_⟩) hHeld ?_
            rotate_left
            · intro w hSw; (try dsimp only at hSw); go_simp; try (with_reducible rfl)
            try simp only [sq]
            refine wpAnyH_take (i := 6) (v := ?_) rfl (by kernel_rfl) (by kernel_rfl) (by kernel_rfl) (fun _ _ _ h => h) (Or.inl ⟨by rfl, ?_⟩) hHeld ?_
            rotate_left
            · intro w hSw; (try dsimp only at hSw); go_simp; try (with_reducible rfl)
            try simp only [sq]
            refine wpAnyH_take (i := 7) (v := ?_) rfl (by kernel_rfl) (by kernel_rfl) (by kernel_rfl) (fun _ _ _ h => h) (Or.inl ⟨by rfl, ?_⟩) hHeld ?_
            rotate_left
            · intro w hSw; (try dsimp only at hSw); go_simp; try (with_reducible rfl)
            try simp only [sq]
            refine wpAnyH_take (i := 8) (v := ?_) rfl (by kernel_rfl) (by kernel_rfl) (by kernel_rfl) (fun _ _ _ h => h) (Or.inl ⟨by rfl, ?_⟩) hHeld ?_
            rotate_left
            · intro w hSw; (try dsimp only at hSw); go_simp; try (with_reducible rfl)
            try simp only [sq]
            refine wpAnyH_take (i := 9) (v := ?_) rfl (by kernel_rfl) (by kernel_rfl) (by kernel_rfl) (fun _ _ _ h => h) (Or.inl ⟨by rfl, ?_⟩) hHeld ?_
            rotate_left
            · intro w hSw; (try dsimp only at hSw); go_simp; try (with_reducible rfl)
            try simp only [sq]
            refine wpAnyH_take (i := 10) (v := ?_) rfl (by kernel_rfl) (by kernel_rfl) (by kernel_rfl) (fun _ _ _ h => h) (Or.inl ⟨by rfl, ?_⟩) hHeld ?_
            rotate_left
            · intro w hSw; (try dsimp only at hSw); go_simp; try (with_reducible rfl)
            try simp only [sq]
            refine wpAnyH_ready (rs := [11]) (by kernel_rfl) (by simp) ?_
            refine AllReadyH.cons rfl (fun K hK => ?_) AllReadyH.nil
            try simp only [sq]
            go_simp
            (first
                | (go_at_call 55; refine (HSO.out _ (bdrew HBX.out)).mono ?_; rintro e z2 ⟨rfl, hz2⟩))
            go_wp2_with fail
            refine hK.out _ _ ?_ (fun hHeld => ?_)
            · (repeat' apply And.intro) <;> (repeat (first | with_reducible assumption | with_reducible refine keepdrew ?_ | with_reducible refine keepcell (by with_reducible assumption) ?_ | with_reducible refine keepalloc ?_ _))
            clear hK K
            try simp only [sq]
            refine wpAnyH_take (i := 12) (v := ?_) rfl (by kernel_rfl) (by kernel_rfl) (by kernel_rfl) (fun _ _ _ h => h) (Or.inl ⟨by rfl, ?_⟩) hHeld ?_
            rotate_left
            · intro w hSw; (try dsimp only at hSw); go_simp; try (with_reducible rfl)
            try simp only [sq]
            refine wpAnyH_take (i := 13) (v := ?_) rfl (by kernel_rfl) (by kernel_rfl) (by kernel_rfl) (fun _ _ _ h => h) (Or.inl ⟨by rfl, ?_⟩) hHeld ?_
            rotate_left
            · intro w hSw; (try dsimp only at hSw); go_simp; try (with_reducible rfl)
            try simp only [sq]
            refine wpAnyH_take (i := 14) (v := ?_) rfl (by kernel_rfl) (by kernel_rfl) (by kernel_rfl) (fun _ _ _ h => h) (Or.inl ⟨by rfl, ?_⟩) hHeld ?_
            rotate_left
            · intro w hSw; (try dsimp only at hSw); go_simp; try (with_reducible rfl)
            try simp only [sq]
            refine wpAnyH_take (i := 15) (v := ?_) rfl (by kernel_rfl) (by kernel_rfl) (by kernel_rfl) (fun _ _ _ h => h) (Or.inl ⟨by rfl, ?_⟩) hHeld ?_
            rotate_left
            · intro w hSw; (try dsimp only at hSw); go_simp; try (with_reducible rfl)
            try simp only [sq]
            refine wpAnyH_take (i := 16) (v := ?_) rfl (by kernel_rfl) (by kernel_rfl) (by kernel_rfl) (fun _ _ _ h => h) (Or.inl ⟨by rfl, ?_⟩) hHeld ?_
            rotate_left
            · intro w hSw; (try dsimp only at hSw); go_simp; try (with_reducible rfl)
            try simp only [sq]
            refine wpAnyH_take (i := 17) (v := ?_) rfl (by kernel_rfl) (by kernel_rfl) (by kernel_rfl) (fun _ _ _ h => h) (Or.inl ⟨by rfl, ?_⟩) hHeld ?_
            rotate_left
            · intro w hSw; (try dsimp only at hSw); go_simp; try (with_reducible rfl)
            try simp only [sq]
            refine wpAnyH_take (i := 18) (v := ?_) rfl (by kernel_rfl) (by kernel_rfl) (by kernel_rfl) (fun _ _ _ h => h) (Or.inl ⟨by rfl, ?_⟩) hHeld ?_
            rotate_left
            · intro w hSw; (try dsimp only at hSw); go_simp; try (with_reducible rfl)
            try simp only [sq]
            refine wpAnyH_take (i := 19) (v := ?_) rfl (by kernel_rfl) (by kernel_rfl) (by kernel_rfl) (fun _ _ _ h => h) (Or.inl ⟨by rfl, ?_⟩) hHeld ?_
            rotate_left
            · intro w hSw; (try dsimp only at hSw); go_simp; try (with_reducible rfl)
            try simp only [sq]
            refine wpAnyH_take (i := 20) (v := ?_) rfl (by kernel_rfl) (by kernel_rfl) (by kernel_rfl) (fun _ _ _ h => h) (Or.inl ⟨by rfl, ?_⟩) hHeld ?_
            rotate_left
            · intro w hSw; (try dsimp only at hSw); go_simp; try (with_reducible rfl)
            try simp only [sq]
            refine wpAnyH_take (i := 21) (v := ?_) rfl (by kernel_rfl) (by kernel_rfl) (by kernel_rfl) (fun _ _ _ h => h) (Or.inl ⟨by rfl, ?_⟩) hHeld ?_
            rotate_left
            · intro w hSw; (try dsimp only at hSw); go_simp; try (with_reducible rfl)
            try simp only [sq]
            refine wpAnyH_take (i := 22) (v := ?_) rfl (by kernel_rfl) (by kernel_rfl) (by kernel_rfl) (fun _ _ _ h => h) (Or.inl ⟨by rfl, ?_⟩) hHeld ?_
            rotate_left
            · intro w hSw; (try dsimp only at hSw); go_simp; try (with_reducible rfl)
            try simp only [sq]
            refine wpAnyH_take (i := 23) (v := ?_) rfl (by kernel_rfl) (by kernel_rfl) (by kernel_rfl) (fun _ _ _ h => h) (Or.inl ⟨by rfl, ?_⟩) hHeld ?_
            rotate_left
            · intro w hSw; (try dsimp only at hSw); go_simp; try (with_reducible rfl)
            try simp only [sq]
            refine wpAnyH_take (i := 24) (v := ?_) rfl (by kernel_rfl) (by kernel_rfl) (by kernel_rfl) (fun _ _ _ h => h) (Or.inl ⟨by rfl, ?_⟩) hHeld ?_
            rotate_left
            · intro w hSw; (try dsimp only at hSw); go_simp; try (with_reducible rfl)
            try simp only [sq]
            refine wpAnyH_take (i := 25) (v := ?_) rfl (by kernel_rfl) (by kernel_rfl) (by kernel_rfl) (fun _ _ _ h => h) (Or.inl ⟨by rfl, ?_⟩) hHeld ?_
            rotate_left
            · intro w hSw; (try dsimp only at hSw); go_simp; try (with_reducible rfl)
            try simp only [sq]
            refine wpAnyH_take (i := 26) (v := ?_) rfl (by kernel_rfl) (by kernel_rfl) (by kernel_rfl) (fun _ _ _ h => h) (Or.inl ⟨by rfl, ?_⟩) hHeld ?_
            rotate_left
            · intro w hSw; (try dsimp only at hSw); go_simp; try (with_reducible rfl)
            try simp only [sq]
            refine wpAnyH_take (i := 27) (v := ?_) rfl (by kernel_rfl) (by kernel_rfl) (by kernel_rfl) (fun _ _ _ h => h) (Or.inl ⟨by rfl, ?_⟩) hHeld ?_
            rotate_left
            · intro w hSw; (try dsimp only at hSw); go_simp; try (with_reducible rfl)
            try simp only [sq]
            refine wpAnyH_take (i := 28) (v := ?_) rfl (by kernel_rfl) (by kernel_rfl) (by kernel_rfl) (fun _ _ _ h => h) (Or.inl ⟨by rfl, ?_⟩) hHeld ?_
            rotate_left
            · intro w hSw; (try dsimp only at hSw); go_simp; try (with_reducible rfl)
            try simp only [sq]
            refine wpAnyH_take (i := 29) (v := ?_) rfl (by kernel_rfl) (by kernel_rfl) (by kernel_rfl) (fun _ _ _ h => h) (Or.inl ⟨by rfl, ?_⟩) hHeld ?_
            rotate_left
            · intro w hSw; (try dsimp only at hSw); go_simp; try (with_reducible rfl)
            try simp only [sq]
            refine wpAnyH_take (i := 30) (v := ?_) rfl (by kernel_rfl) (by kernel_rfl) (by kernel_rfl) (fun _ _ _ h => h) (Or.inl ⟨by rfl, ?_⟩) hHeld ?_
            rotate_left
            · intro w hSw; (try dsimp only at hSw); go_simp; try (with_reducible rfl)
            try simp only [sq]
            refine wpAnyH_done (by kernel_rfl) ?_ _
            go_wp2_with fail
            go_meet
            exact ⟨by rw [HEI.out]; congr 1; by_cases hq : pid < id <;> simp [hq] <;> omega, hid (by show Below _ _ _; (repeat (first | with_reducible exact Below.refl _ _ | with_reducible assumption | (with_reducible refine btrans ?_ (by with_reducible assumption)) | with_reducible refine bdrew ?_ | with_reducible refine balloc ?_ _)))⟩
      case rest =>
        obtain ⟨rfl, HBc⟩ := hcut
        have HG2 := hid (keepheap2 HBc.out HG0.out)
        have HBW2 := hid (btrans HB1.out HBc.out)
        clear x0 x1 x2 x3 d0 d1 d2 gx g0
        cases ei
        · have HF : Hid (tb = false) := hid (by rw [HT.out, HNOI.out rfl]; simp)
          go_wp2_with fail
          go_ret
          exact ⟨by rw [HF.out]; rfl, HBW2.out⟩
        · have HF := hid (HNEXT.out rfl)
          go_wp2_with fail
          go_roundw
          case rel => exact ⟨i + 1, by go_num, by omega, HF, HG2, HBW2⟩
          case measure => simp [intOf]; omega
    · have c1 : (n : Int) ≤ (i : Int) := by omega
      have HF := hid (HYE.out (fun m hm => HA.out m (by have := HN.out; omega)))
      have HT2 : Hid (tb = ((decide (0 ≤ st) && decide (st ≤ now)) && (op || decide (n = 0)))) := hid (by rw [HT.out, HF.out]; simp)
      clear HT HYE HNO HF
      generalize (decide (0 ≤ st) && decide (st ≤ now)) = sb at *
      cases sb
      · go_wp2_with fail
        refine (HIN.out _).mono ?_
        rintro e z ⟨rfl, hw⟩
        replace hw := hw.symm
        subst hw
        go_wp2_with fail
        go_ret
        exact ⟨by rw [HT2.out]; rfl, HBW.out⟩
      · go_wp2_with fail
        refine (HIN.out _).mono ?_
        rintro e z ⟨rfl, hw⟩
        replace hw := hw.symm
        subst hw
        cases op
        · by_cases h3 : n = 0
          · have HF3 : Hid (tb = true) := hid (by rw [HT2.out]; simp [h3])
            have h3' : ((n : Int) == 0) = true := by simp; omega
            clear h3 HT2
            go_wp2_with fail
            go_ret
            exact ⟨by rw [HF3.out]; rfl, HBW.out⟩
          · have HF3 : Hid (tb = false) := hid (by rw [HT2.out]; simp [h3])
            have h3' : ((n : Int) == 0) = false := by simp; omega
            clear h3 HT2
            go_wp2_with fail
            go_ret
            exact ⟨by rw [HF3.out]; rfl, HBW.out⟩
        · have HF3 : Hid (tb = true) := hid (by rw [HT2.out]; simp)
          go_wp2_with fail
          go_ret
          exact ⟨by rw [HF3.out]; rfl, HBW.out⟩
end Go.Proofs.YtjhnfbefgjoiiaaGreat
namespace Go.Proofs.YtjhnfbefgjoiiaaGreat
open Go.RowKit
set_option linter.unusedSimpArgs false
set_option linter.unusedVariables false
def storeb (now : Int) (rs : List Rw) (ts : List Tx) : Bool := rowsb now rs && (decide (ts.length ≤ 40) && ts.all (txb now))
set_option maxRecDepth 100000 in
set_option maxHeartbeats 4000000 in
theorem impl_StoreOk {N1 N2 : Nat → Prop} (now : Int) (a ta : Option Addr) (cap tcap : Nat) (rs : List Rw) (ts : List Tx) (w : World) (hm : rs.length ≤ 1099511627776) (htm : ts.length ≤ 1099511627776) (hr : Rws N1 w a rs) (ht : Txs N2 1099511627776 w ta ts) : Calls Tryz.prog 41 #[.agg #[.int .i64 now, .slice a rs.length cap, .slice ta ts.length tcap]] w fun e w' => e = .returned (.bool (storeb now rs ts)) ∧ Below w.heap.size w w' := by
  have HRK := hid (fun (W : World) (hb : Below w.heap.size w W) => impl_RowsOk now a cap rs W hm (hr.below hb))
  have HR := hid ht
  clear hr ht
  have HD : Hid (storeb now rs ts = (rowsb now rs && (decide (ts.length ≤ 40) && ts.all (txb now)))) := hid rfl
  have HNO : Hid (∀ i (h : i < ts.length), txb now ts[i] = false → ts.all (txb now) = false) := hid (fun i h e => by rw [List.all_eq_false]; exact ⟨ts[i], List.getElem_mem h, by simp [e]⟩)
  have HYE : Hid ((∀ i (h : i < ts.length), txb now ts[i] = true) → ts.all (txb now) = true) := hid (fun hh => by
    rw [List.all_eq_true]
    intro x hx
    obtain ⟨m, hm1, rfl⟩ := List.mem_iff_getElem.1 hx
    exact hh m hm1)
  generalize storeb now rs ts = sb at *
  generalize rowsb now rs = rb at *
  generalize ts.all (txb now) = tb at *
  generalize rs.length = n at *
  obtain ⟨tn, htn⟩ : ∃ tn, tn = ts.length := ⟨_, rfl⟩
  have HN := hid htn.symm
  rw [← htn] at htm HD ⊢
  clear htn
  have hB0 : Below w.heap.size w (w.alloc (.cells #[.int .i64 now, .slice a n cap, .slice ta tn tcap] 40)) := balloc (Below.refl _ _) _
  have g0 := new_alloc w w.heap.size (.cells #[.int .i64 now, .slice a n cap, .slice ta tn tcap] 40) rfl
  go_enter Tryz.func41, Tryz.ntmps41
  go_upto_region 1 with fail
  generalize w.alloc (.cells #[.int .i64 now, .slice a n cap, .slice ta tn tcap] 40) = W0 at *
  obtain ⟨⟨d0, d1, d2⟩, _⟩ := cellk3 g0
  by_cases h4 : 40 < tn
  · have h4' : (40 : Int) < (tn : Int) := by omega
    have HF : Hid (sb = false) := hid (by rw [HD.out, show decide (tn ≤ 40) = false by simpa using h4]; simp)
    clear h4
    go_wp2_with fail
    go_ret
    exact ⟨by rw [HF.out]; rfl, hB0⟩
  have h4' : (tn : Int) ≤ 40 := by omega
  have HD2 : Hid (sb = (rb && tb)) := hid (by rw [HD.out, show decide (tn ≤ 40) = true by simpa using h4]; simp)
  clear h4 HD
  go_wp2_with fail
  refine (HRK.out _ hB0).mono ?_
  rintro e W1 ⟨rfl, hz⟩
  have g1 := keepheap2 hz g0
  have hB1 := btrans hB0 hz
  clear g0 hB0 hz d0 d1 d2 HRK
  obtain ⟨⟨d0, d1, d2⟩, _⟩ := cellk3 g1
  cases rb
  · have HF : Hid (sb = false) := hid (by rw [HD2.out]; rfl)
    go_wp2_with fail
    go_ret
    exact ⟨by rw [HF.out]; rfl, hB1⟩
  have HD3 : Hid (sb = tb) := hid (by rw [HD2.out]; rfl)
  clear HD2
  go_wp2_with fail
  clear d0 d1 d2
  go_loopw [18] (fun ti wr => ∃ i : Nat, ti = .int .i64 i ∧ i ≤ tn ∧ Hid (∀ m (h : m < ts.length), m < i → txb now ts[m] = true) ∧ Hid (wr.heap[w.heap.size]? = some (.cells #[.int .i64 now, .slice a n cap, .slice ta tn tcap] 40 (0, 0))) ∧ Hid (Below w.heap.size w wr)) (fun ti _ => tn - (intOf ti).toNat)
  case atStart => exact ⟨0, rfl, Nat.zero_le _, hid (fun m h hh => absurd hh (by omega)), hid g1, hid hB1⟩
  case round =>
    clear g1 hB1
    obtain ⟨i, rfl, hi, HA, G1, HBW⟩ := hrel
    by_cases hlt : i < tn
    · have c1 : (i : Int) < (tn : Int) := by omega
      have hir : i < ts.length := by rw [HN.out]; exact hlt
      obtain ⟨b, o, rfl, hbs, a', cap', k0, k1, q1, q2, q3, q4, _⟩ := (HR.out.below HBW.out).at i hir
      have HX := hid (fun (W : World) (hb : Below wr.heap.size wr W) => impl_txRight now ts[i] a' cap' W q3 (q4.below hb))
      have HNOI := hid (HNO.out i hir)
      have HNEXT : Hid (txb now ts[i] = true → ∀ m (h : m < ts.length), m < i + 1 → txb now ts[m] = true) := hid (fun e1 m h hm => by
        by_cases e : m = i
        · subst e; exact e1
        · exact HA.out m h (by omega))
      unfold txv at HX
      clear q2 q3 q4
      generalize txb now ts[i] = xb at HX HNOI HNEXT
      generalize ts[i].1 = st at *
      generalize ts[i].2.1 = op at *
      generalize ts[i].2.2.length = np at *
      go_upto_region 6 with fail
      have hBx : Below wr.heap.size wr (wr.alloc (.cells #[.int .i64 st, .bool op, .slice a' np cap'] 101)) := balloc (Below.refl _ _) _
      have gx := new_alloc wr wr.heap.size (.cells #[.int .i64 st, .bool op, .slice a' np cap'] 101) rfl
      have g1 := keepheap2 hBx G1.out
      have HX1 := hid (HX.out _ hBx)
      have HB1 := hid (btrans HBW.out hBx)
      have HG1 := hid g1
      clear hBx k0 k1 q1 HX
      generalize wr.alloc (.cells #[.int .i64 st, .bool op, .slice a' np cap'] 101) = W2 at *
      generalize wr.heap.size = X at *
      obtain ⟨⟨x0, x1, x2⟩, _⟩ := cellk3 gx
      obtain ⟨⟨d0, d1, d2⟩, _⟩ := cellk3 g1
      clear gx g1
      go_wp2_with fail
      refine HX1.out.mono ?_
      rintro e z ⟨rfl, hz⟩
      have HBz := hid (btrans HB1.out hz)
      have HGz := hid (keepheap2 hz HG1.out)
      clear hz x0 x1 x2 d0 d1 d2
      cases xb
      · have HF : Hid (sb = false) := hid (by rw [HD3.out, HNOI.out rfl])
        go_wp2_with fail
        go_ret
        exact ⟨by rw [HF.out]; rfl, HBz.out⟩
      · have HF := hid (HNEXT.out rfl)
        go_wp2_with fail
        go_roundw
        case rel => exact ⟨i + 1, by go_num, by omega, HF, HGz, HBz⟩
        case measure => simp [intOf]; omega
    · have c1 : (tn : Int) ≤ (i : Int) := by omega
      have HF : Hid (sb = true) := hid (by rw [HD3.out]; exact HYE.out (fun m hm1 => HA.out m hm1 (by have := HN.out; omega)))
      go_wp2_with fail
      go_ret
      exact ⟨by rw [HF.out]; rfl, HBW.out⟩
set_option maxRecDepth 100000 in
set_option maxHeartbeats 4000000 in
theorem spec_StoreOk {N1 N2 : Nat → Prop} (now : Int) (a ta : Option Addr) (cap tcap : Nat) (rs : List Rw) (ts : List Tx) (w : World) (hm : rs.length ≤ 1099511627776) (htm : ts.length ≤ 1099511627776) (hr : Rws N1 w a rs) (ht : Txs N2 1099511627776 w ta ts) : Calls Tryz.prog 37 #[.agg #[.int .i64 now, .slice a rs.length cap, .slice ta ts.length tcap]] w fun e w' => e = .returned (.bool (storeb now rs ts)) ∧ Below w.heap.size w w' := by
  have HRK := hid (fun (W : World) (hb : Below w.heap.size w W) => spec_RowsOk now a cap rs W hm (hr.below hb))
  have HR := hid ht
  clear hr ht
  have HD : Hid (storeb now rs ts = (rowsb now rs && (decide (ts.length ≤ 40) && ts.all (txb now)))) := hid rfl
  have HNO : Hid (∀ i (h : i < ts.length), txb now ts[i] = false → ts.all (txb now) = false) := hid (fun i h e => by rw [List.all_eq_false]; exact ⟨ts[i], List.getElem_mem h, by simp [e]⟩)
  have HYE : Hid ((∀ i (h : i < ts.length), txb now ts[i] = true) → ts.all (txb now) = true) := hid (fun hh => by
    rw [List.all_eq_true]
    intro x hx
    obtain ⟨m, hm1, rfl⟩ := List.mem_iff_getElem.1 hx
    exact hh m hm1)
  generalize storeb now rs ts = sb at *
  generalize rowsb now rs = rb at *
  generalize ts.all (txb now) = tb at *
  generalize rs.length = n at *
  obtain ⟨tn, htn⟩ : ∃ tn, tn = ts.length := ⟨_, rfl⟩
  have HN := hid htn.symm
  rw [← htn] at htm HD ⊢
  clear htn
  have hB0 : Below w.heap.size w (w.alloc (.cells #[.int .i64 now, .slice a n cap, .slice ta tn tcap] 40)) := balloc (Below.refl _ _) _
  have g0 := new_alloc w w.heap.size (.cells #[.int .i64 now, .slice a n cap, .slice ta tn tcap] 40) rfl
  go_enter Tryz.func37, Tryz.ntmps37
  go_upto_region 1 with fail
  generalize w.alloc (.cells #[.int .i64 now, .slice a n cap, .slice ta tn tcap] 40) = W0 at *
  obtain ⟨⟨d0, d1, d2⟩, _⟩ := cellk3 g0
  go_wp2_with fail
  refine (HRK.out _ hB0).mono ?_
  rintro e W1 ⟨rfl, hz⟩
  have g1 := keepheap2 hz g0
  have hB1 := btrans hB0 hz
  clear g0 hB0 hz d0 d1 d2 HRK
  obtain ⟨⟨d0, d1, d2⟩, _⟩ := cellk3 g1
  cases rb
  · have HF : Hid (sb = false) := hid (by rw [HD.out]; rfl)
    go_wp2_with fail
    go_ret
    exact ⟨by rw [HF.out]; rfl, hB1⟩
  by_cases h4 : 40 < tn
  · have h4' : (40 : Int) < (tn : Int) := by omega
    have HF : Hid (sb = false) := hid (by rw [HD.out, show decide (tn ≤ 40) = false by simpa using h4]; simp)
    clear h4
    go_wp2_with fail
    go_ret
    exact ⟨by rw [HF.out]; rfl, hB1⟩
  have h4' : (tn : Int) ≤ 40 := by omega
  have HD3 : Hid (sb = tb) := hid (by rw [HD.out, show decide (tn ≤ 40) = true by simpa using h4]; simp)
  clear h4 HD
  go_wp2_with fail
  clear d0 d1 d2
  go_loopw [3] (fun ti wr => ∃ i : Nat, ti = .int .i64 i ∧ i ≤ tn ∧ Hid (∀ m (h : m < ts.length), m < i → txb now ts[m] = true) ∧ Hid (wr.heap[w.heap.size]? = some (.cells #[.int .i64 now, .slice a n cap, .slice ta tn tcap] 40 (0, 0))) ∧ Hid (Below w.heap.size w wr)) (fun ti _ => tn - (intOf ti).toNat)
  case atStart => exact ⟨0, rfl, Nat.zero_le _, hid (fun m h hh => absurd hh (by omega)), hid g1, hid hB1⟩
  case round =>
    clear g1 hB1
    obtain ⟨i, rfl, hi, HA, G1, HBW⟩ := hrel
    obtain ⟨⟨d0, d1, d2⟩, _⟩ := cellk3 G1.out
    by_cases hlt : i < tn
    · have c1 : (i : Int) < (tn : Int) := by omega
      have hir : i < ts.length := by rw [HN.out]; exact hlt
      obtain ⟨b, o, rfl, hbs, a', cap', k0, k1, q1, q2, q3, q4, _⟩ := (HR.out.below HBW.out).at i hir
      have HX := hid (fun (W : World) (hb : Below wr.heap.size wr W) => spec_tx now ts[i] a' cap' W q3 (q4.below hb))
      have HNOI := hid (HNO.out i hir)
      have HNEXT : Hid (txb now ts[i] = true → ∀ m (h : m < ts.length), m < i + 1 → txb now ts[m] = true) := hid (fun e1 m h hm => by
        by_cases e : m = i
        · subst e; exact e1
        · exact HA.out m h (by omega))
      unfold txv at HX
      clear q2 q3 q4
      generalize txb now ts[i] = xb at HX HNOI HNEXT
      generalize ts[i].1 = st at *
      generalize ts[i].2.1 = op at *
      generalize ts[i].2.2.length = np at *
      go_wp2_with fail
      go_region_held3 (fun w' => w'.cell? ⟨w.heap.size, 0, none⟩ = some (.int .i64 now) ∧ w'.cell? ⟨w.heap.size, 2, none⟩ = some (.slice (some ⟨b, o, none⟩) tn tcap) ∧ w'.cell? ⟨b, o + i * 3, none⟩ = some (.int .i64 st) ∧ w'.cell? ⟨b, o + i * 3 + 1, none⟩ = some (.bool op) ∧ w'.cell? ⟨b, o + i * 3 + 2, none⟩ = some (.slice a' np cap')) ((go_split_ands; (repeat' apply And.intro) <;> (repeat (first | with_reducible assumption | with_reducible refine keepset3 ?_ (by dsimp only; omega) | with_reducible refine keepdrew ?_ | with_reducible refine keepcell (by with_reducible assumption) ?_ | with_reducible refine keepalloc ?_ _))))
        (first
          | (go_at_call 69; refine (HX.out _ (bdrew (Below.refl _ _))).mono ?_; rintro e z ⟨rfl, hz⟩))
      have HBz := hid (btrans HBW.out (btrans (bdrew (Below.refl _ _)) hz))
      have HGz := hid (keepheap2 (btrans (bdrew (Below.refl _ _)) hz) G1.out)
      clear hz k0 k1 q1 d0 d1 d2
      cases xb
      · have HF : Hid (sb = false) := hid (by rw [HD3.out, HNOI.out rfl])
        go_wp2_with fail
        go_ret
        exact ⟨by rw [HF.out]; rfl, HBz.out⟩
      · have HF := hid (HNEXT.out rfl)
        go_wp2_with fail
        go_roundw
        case rel => exact ⟨i + 1, by go_num, by omega, HF, HGz, HBz⟩
        case measure => simp [intOf]; omega
    · have c1 : (tn : Int) ≤ (i : Int) := by omega
      have HF : Hid (sb = true) := hid (by rw [HD3.out]; exact HYE.out (fun m hm1 => HA.out m hm1 (by have := HN.out; omega)))
      go_wp2_with fail
      go_ret
      exact ⟨by rw [HF.out]; rfl, HBW.out⟩
set_option maxHeartbeats 1000000 in
theorem sz_store {N : Nat → Prop} (now : Int) (a ta : Option Addr) (cap tcap : Nat) (rs : List Rw) (ts : List Tx) (w : World) (hm : rs.length ≤ 9223372036854775807) (htm : ts.length ≤ 9223372036854775807) (hr : RwsL w a rs) (ht : Txs N 9223372036854775807 w ta ts) : Calls Tryz.prog 13 #[.agg #[.int .i64 now, .slice a rs.length cap, .slice ta ts.length tcap], .int .i64 1048576] w fun e w' => (∃ v : Int, e = .returned (.int .i64 v) ∧ (v = -1 ∨ (0 ≤ v ∧ v ≤ 1048576 ∧ Hid ((rs.length ≤ 1048576 ∧ ∀ m (h : m < rs.length), rs[m].2.2.2.2.length ≤ 1048576) ∧ txS ts)))) ∧ Below w.heap.size w w' := by
  have HR := hid (fun (W : World) (hb : Below w.heap.size w W) => sz_allL now a cap rs W hm (hr.below hb))
  have HT := hid (fun (W : World) (hb : Below w.heap.size w W) (l : Int) (h0 : 0 ≤ l) (h1 : l ≤ 1048576) => sz_txs ta tcap ts l W htm h0 h1 (ht.below hb))
  clear hr ht
  obtain ⟨G, hG⟩ : ∃ G : Prop, G = (rs.length ≤ 1048576 ∧ ∀ m (h : m < rs.length), rs[m].2.2.2.2.length ≤ 1048576) := ⟨_, rfl⟩
  obtain ⟨K, hK⟩ : ∃ K : Prop, K = txS ts := ⟨_, rfl⟩
  rw [← hG] at HR ⊢
  rw [← hK] at HT ⊢
  clear hG hK
  generalize rs.length = n at *
  generalize ts.length = tn at *
  have hB0 : Below w.heap.size w (w.alloc (.cells #[.int .i64 now, .slice a n cap, .slice ta tn tcap] 36)) := balloc (Below.refl _ _) _
  have g0 := new_alloc w w.heap.size (.cells #[.int .i64 now, .slice a n cap, .slice ta tn tcap] 36) rfl
  go_enter Tryz.func13, Tryz.ntmps13
  go_upto_region 1 with fail
  generalize w.alloc (.cells #[.int .i64 now, .slice a n cap, .slice ta tn tcap] 36) = W0 at *
  obtain ⟨⟨d0, d1, d2⟩, _⟩ := cellk3 g0
  go_wp2_with fail
  refine (HR.out _ hB0).mono ?_
  rintro e w1 ⟨⟨v, rfl, hv⟩, hb⟩
  have g1 := keepheap2 hb g0
  have hB := btrans hB0 hb
  clear g0 hB0 hb d0 d1 d2
  obtain ⟨⟨d0, d1, d2⟩, _⟩ := cellk3 g1
  rcases hv with rfl | ⟨hv0, hv1, HV⟩
  · go_wp2_with fail
    go_ret
    exact ⟨⟨_, rfl, .inl rfl⟩, hB⟩
  have hv2 : ¬ v < 0 := by omega
  go_wp2_with fail
  refine (HT.out _ hB v hv0 hv1).mono ?_
  rintro e w2 ⟨⟨u, rfl, hu⟩, hb⟩
  have hB2 := btrans hB hb
  clear hb d0 d1 d2
  rcases hu with rfl | ⟨hu0, hu1, HU⟩
  · go_wp2_with fail
    go_ret
    exact ⟨⟨_, rfl, .inl rfl⟩, hB2⟩
  · have hu2 : ¬ u < 0 := by omega
    go_wp2_with fail
    go_ret
    exact ⟨⟨_, rfl, .inr ⟨hu0, hu1, hid ⟨HV.out, HU.out⟩⟩⟩, hB2⟩
set_option maxHeartbeats 1000000 in
theorem eq_store {N1 N2 N3 N4 : Nat → Prop} (now : Int) (a1 a2 t1 t2 : Option Addr) (c1 c2 e1 e2 : Nat) (rs : List Rw) (ts : List Tx) (w : World) (hm : rs.length ≤ 1099511627776) (htm : ts.length ≤ 1099511627776) (r1 : Rws N1 w a1 rs) (r2 : Rws N2 w a2 rs) (x1 : Txs N3 1099511627776 w t1 ts) (x2 : Txs N4 1099511627776 w t2 ts) : Calls Tryz.prog 17 #[.agg #[.int .i64 now, .slice a1 rs.length c1, .slice t1 ts.length e1], .agg #[.int .i64 now, .slice a2 rs.length c2, .slice t2 ts.length e2]] w fun e w' => e = .returned (.bool true) ∧ Below w.heap.size w w' := by
  have HR := hid (fun (W : World) (hb : Below w.heap.size w W) => eq_rows now a1 a2 c1 c2 rs W hm (r1.below hb) (r2.below hb))
  have HT := hid (fun (W : World) (hb : Below w.heap.size w W) => eq_txs t1 t2 e1 e2 ts W htm (x1.below hb) (x2.below hb))
  clear r1 r2 x1 x2
  generalize rs.length = n at *
  generalize ts.length = tn at *
  have hB0 : Below w.heap.size w ((w.alloc (.cells #[.int .i64 now, .slice a1 n c1, .slice t1 tn e1] 40)).alloc (.cells #[.int .i64 now, .slice a2 n c2, .slice t2 tn e2] 40)) := balloc (balloc (Below.refl _ _) _) _
  have g0 := old_alloc (o' := .cells #[.int .i64 now, .slice a2 n c2, .slice t2 tn e2] 40) (new_alloc w w.heap.size (.cells #[.int .i64 now, .slice a1 n c1, .slice t1 tn e1] 40) rfl)
  have g1 := new_alloc (w.alloc (.cells #[.int .i64 now, .slice a1 n c1, .slice t1 tn e1] 40)) (w.heap.size + 1) (.cells #[.int .i64 now, .slice a2 n c2, .slice t2 tn e2] 40) (by simp)
  go_enter Tryz.func17, Tryz.ntmps17
  go_upto_region 1 with fail
  generalize (w.alloc (.cells #[.int .i64 now, .slice a1 n c1, .slice t1 tn e1] 40)).alloc (.cells #[.int .i64 now, .slice a2 n c2, .slice t2 tn e2] 40) = W0 at *
  obtain ⟨⟨d0, d1, d2⟩, _⟩ := cellk3 g0
  obtain ⟨⟨f0, f1, f2⟩, _⟩ := cellk3 g1
  go_wp2_with fail
  refine (HR.out _ hB0).mono ?_
  rintro e w1 ⟨rfl, hb⟩
  replace g0 := keepheap2 hb g0
  replace g1 := keepheap2 hb g1
  have hB := btrans hB0 hb
  clear hB0 hb d0 d1 d2 f0 f1 f2
  obtain ⟨⟨d0, d1, d2⟩, _⟩ := cellk3 g0
  obtain ⟨⟨f0, f1, f2⟩, _⟩ := cellk3 g1
  go_wp2_with fail
  refine (HT.out _ hB).mono ?_
  rintro e w2 ⟨rfl, hb⟩
  go_wp2_with fail
  go_ret
  exact ⟨rfl, btrans hB hb⟩
end Go.Proofs.YtjhnfbefgjoiiaaGreat
