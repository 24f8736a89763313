import Derived.Test.YtenlhgnobfadgaaGreatDoorHf
import Derived.Test.YtenlhgnobfadgaaGreatDoorDm
import Derived.BigQuiet
set_option maxRecDepth 100000
set_option maxHeartbeats 8000000
set_option linter.unusedSimpArgs false
set_option linter.unusedVariables false
namespace Go.Proofs.YtenlhgnobfadgaaGreatDoor
open Go.RowKit
theorem ext_size (s : ByteArray) (a b : Nat) (hb : b ≤ s.size) : (s.extract a b).size = b - a := by
 have e : (s.extract a b).size = (s.extract a b).data.toList.length := by rw [Array.length_toList]; rfl
 have e2 : s.data.toList.length = s.size := Array.length_toList
 rw [e, Lib.extract_data, List.length_take, List.length_drop, e2]
 omega
theorem keepheapH {w w' : World} (hb : Below w.heap.size w w') {b : Nat} {o : Obj} (h : w.heap[b]? = some o) : w'.heap[b]? = some o := keepheap2 hb h
theorem same_shp (k : Int) (a b : Option Addr) (cap cap' : Nat) (ps : List (Int × Int)) (w : World) (hm : ps.length ≤ 1099511627776) (hc : ps.length ≤ cap) (hc' : ps.length ≤ cap') (h : Pts w a ps) (h' : Pts w b ps) : Calls Tryz.prog 44 #[shv k a ps.length cap, shv k b ps.length cap'] w fun e w' => e = .returned (.bool true) ∧ Below w.heap.size w w' := by
 have HP := hid h
 have HQ := hid h'
 clear h h'
 go_enter Tryz.func44, Tryz.ntmps44
 go_wp2_with fail
 have gA : ((w.alloc (.cells #[.int .i64 k, .slice a ps.length cap] 48)).alloc (.cells #[.int .i64 k, .slice b ps.length cap'] 48)).heap[w.heap.size]? = some (.cells #[.int .i64 k, .slice a ps.length cap] 48 (0, 0)) := old_alloc (new_alloc _ _ _ rfl)
 have gB : ((w.alloc (.cells #[.int .i64 k, .slice a ps.length cap] 48)).alloc (.cells #[.int .i64 k, .slice b ps.length cap'] 48)).heap[w.heap.size + 1]? = some (.cells #[.int .i64 k, .slice b ps.length cap'] 48 (0, 0)) := new_alloc _ _ _ (by simp)
 have hB0 : Below w.heap.size w ((w.alloc (.cells #[.int .i64 k, .slice a ps.length cap] 48)).alloc (.cells #[.int .i64 k, .slice b ps.length cap'] 48)) := balloc (balloc (Below.refl _ _) _) _
 generalize (w.alloc (.cells #[.int .i64 k, .slice a ps.length cap] 48)).alloc (.cells #[.int .i64 k, .slice b ps.length cap'] 48) = W at *
 go_loopw [5] (fun ti wr => ∃ j : Nat, ti = .int .i64 j ∧ j ≤ ps.length ∧ Below W.heap.size W wr) (fun ti _ => ps.length - (intOf ti).toNat)
 case atStart => exact ⟨0, rfl, Nat.zero_le _, Below.refl _ _⟩
 case round =>
  obtain ⟨j, rfl, hj, hb⟩ := hrel
  have hBw := btrans hB0 hb
  obtain ⟨a0, a1, _, _⟩ := cell2g (keepheapH hb gA)
  obtain ⟨b0, b1, _, _⟩ := cell2g (keepheapH hb gB)
  by_cases hlt : j < ps.length
  ·obtain ⟨p, off, rfl, hps, hp⟩ : ∃ p off, a = some ⟨p, off, none⟩ ∧ p < w.heap.size ∧ PtsAt w p off ps := by
    rcases HP.out with h | h
    ·rw [h] at hlt; simp at hlt
    ·exact h
   obtain ⟨q, off', rfl, hqs, hq⟩ : ∃ p off, b = some ⟨p, off, none⟩ ∧ p < w.heap.size ∧ PtsAt w p off ps := by
    rcases HQ.out with h | h
    ·rw [h] at hlt; simp at hlt
    ·exact h
   obtain ⟨c0, c1⟩ := hp.below hps hBw j hlt
   obtain ⟨d0, d1⟩ := hq.below hqs hBw j hlt
   generalize (ps.getD j (0, 0)).1 = x at *
   generalize (ps.getD j (0, 0)).2 = y at *
   clear hp hq
   have hk0 : (0 : Int) ≤ (j : Int) := by omega
   have hk1 : (j : Int) < (ps.length : Int) := by omega
   go_wp2_with fail
   go_quiet (fail)
   go_wp2_with fail
   go_roundw
   case rel => exact ⟨j + 1, by go_num, by omega, by (repeat (first | with_reducible exact hb | with_reducible exact Below.refl _ _ | (with_reducible refine btrans ?_ (by with_reducible assumption)) | with_reducible refine bdrew ?_ | exact ⟨hb.os, hb.tape, hb.output, hb.size, hb.block⟩ | with_reducible refine balloc ?_ _))⟩
   case measure => simp [intOf]; omega
  ·have hk1 : ¬ (j : Int) < (ps.length : Int) := by omega
   go_wp2_with fail
   go_ret
   exact ⟨rfl, hBw⟩
def Strs (w : World) (q m : Nat) : Prop := ∀ k, k < m → ∃ s : ByteArray, s.size ≤ 16 ∧ w.cell? ⟨q, k, none⟩ = some (.string s)
theorem strs_new (w : World) (l : List ByteArray) (t : TypeId) (hz : ∀ s ∈ l, s.size ≤ 16) : Strs (w.alloc (.cells (l.map Value.string).toArray t)) w.heap.size l.length := by
 intro k hk
 refine ⟨l[k], hz _ (List.getElem_mem hk), ?_⟩
 have h := heap_alloc_new w (.cells (l.map Value.string).toArray t)
 rw [cell_of_row _ w.heap.size k _ t (0, 0) h]
 simp [hk]
theorem pick_s (w : World) (p : Nat) (a : Option Addr) (len cap : Nat) (q m : Nat) (h0 : 0 < m) (h1 : m ≤ 1000) (hq : q ≠ p) (hi : Strs w q m) (h : Ready w p a len cap) : Calls Tryz.prog 37 #[.pointer (some ⟨p, 0, none⟩), .slice (some ⟨q, 0, none⟩) m m] w fun e w' => ∃ s : ByteArray, e = .returned (.string s) ∧ s.size ≤ 16 ∧ Ready w' p a len cap ∧ w.grownBy w' (some p) := by
 go_enter Tryz.func37, Tryz.ntmps37
 go_wp2_with fail
 refine (below_r _ p a len cap (m : Int) (by omega) (by omega) h).mono ?_
 rintro e w1 ⟨x, rfl, x0, x1, hr, hg⟩
 obtain ⟨k, rfl⟩ := Int.eq_ofNat_of_zero_le x0
 obtain ⟨z, hz, hc⟩ := hi k (by omega)
 have hc1 := hg.cell hc (fun e => by simp at e; exact hq e)
 clear hc hi h
 go_wp2_with fail
 go_ret
 exact ⟨z, rfl, hz, hr, hg⟩
theorem same_chs {N1 N2 : Nat → Prop} (a b : Option Addr) (cap cap' : Nat) (xs : List Ch) (w : World) (hm : xs.length ≤ 1099511627776) (p1 : Chs N1 1099511627776 w a xs) (p2 : Chs N2 1099511627776 w b xs) : Calls Tryz.prog 15 #[.slice a xs.length cap, .slice b xs.length cap'] w fun e w' => e = .returned (.bool true) ∧ Below w.heap.size w w' := by
 have H1 := hid p1
 have H2 := hid p2
 clear p1 p2
 obtain ⟨n, hn⟩ : ∃ n, n = xs.length := ⟨_, rfl⟩
 have HN := hid hn.symm
 rw [← hn] at hm ⊢
 clear hn
 go_enter Tryz.func15, Tryz.ntmps15
 go_wp2_with fail
 go_loopw [5] (fun ti wr => ∃ j : Nat, ti = .int .i64 j ∧ j ≤ n ∧ Hid (Below w.heap.size w wr)) (fun ti _ => n - (intOf ti).toNat)
 case atStart => exact ⟨0, rfl, Nat.zero_le _, hid (Below.refl _ _)⟩
 case round =>
  obtain ⟨j, rfl, hj, HBW⟩ := hrel
  by_cases hlt : j < n
  ·have c1 : (j : Int) < (n : Int) := by omega
   have hjr : j < xs.length := by rw [HN.out]; exact hlt
   obtain ⟨b1, o1, rfl, hb1, a1, c1', k0, k1, k2, q1, q2, q3, q4, q5⟩ := (H1.out.below HBW.out).at j hjr
   obtain ⟨b2, o2, rfl, hb2, a2, c2', l0, l1, l2, r1, r2, r3, r4, r5⟩ := (H2.out.below HBW.out).at j hjr
   have EQ := hid (fun (W : World) (hb : Below wr.heap.size wr W) => same_shp xs[j].2.2.1 a1 a2 c1' c2' xs[j].2.2.2 W q3 q2 r2 (q4.below hb) (r4.below hb))
   unfold shv at EQ
   clear q2 q3 q4 q5 r2 r3 r4 r5
   generalize xs[j].1 = id at *
   generalize xs[j].2.1 = gn at *
   generalize xs[j].2.2.1 = kd at *
   generalize xs[j].2.2.2.length = np at *
   have hbn := bnes gn
   have hin : ((id : Int) != id) = false := by simp
   have HB0 : Hid (Below wr.heap.size wr wr.drew) := hid (bdrew (Below.refl _ _))
   go_wp2_with fail
   refine wp_region_held_drew (S := (fun w' => w'.cell? ⟨b1, o1 + j * 4, none⟩ = some (.int .i64 id) ∧ w'.cell? ⟨b1, o1 + j * 4 + 1, none⟩ = some (.bool gn) ∧ w'.cell? ⟨b1, o1 + j * 4 + 2, none⟩ = some (.int .i64 kd) ∧ w'.cell? ⟨b1, o1 + j * 4 + 3, none⟩ = some (.slice a1 np c1') ∧ w'.cell? ⟨b2, o2 + j * 4, none⟩ = some (.int .i64 id) ∧ w'.cell? ⟨b2, o2 + j * 4 + 1, none⟩ = some (.bool gn) ∧ w'.cell? ⟨b2, o2 + j * 4 + 2, none⟩ = some (.int .i64 kd) ∧ w'.cell? ⟨b2, o2 + j * 4 + 3, none⟩ = some (.slice a2 np c2'))) (by kernel_rfl) ?_ (fun hHeld => ?_)
   ·(repeat' apply And.intro) <;> (with_reducible repeat (first | assumption | refine keepdrew ?_ | refine keepcell (by assumption) ?_))
   refine tkR ?_ 0 rfl (fun _ _ _ h => h) hHeld ?_ ?_
   rotate_left
   ·intro w hSw; (try dsimp only at hSw); go_simp; try (with_reducible rfl)
   try simp only [sq]
   refine tkR ?_ 1 rfl (fun _ _ _ h => h) hHeld ?_ ?_
   rotate_left
   ·intro w hSw; (try dsimp only at hSw); go_simp; try (with_reducible rfl)
   try simp only [sq]
   refine tkR ?_ 2 rfl (fun _ _ _ h => h) hHeld ?_ ?_
   rotate_left
   ·intro w hSw; (try dsimp only at hSw); go_simp; try (with_reducible rfl)
   try simp only [sq]
   refine tkR ?_ 3 rfl (fun _ _ _ h => h) hHeld ?_ ?_
   rotate_left
   ·intro w hSw; (try dsimp only at hSw); go_simp; try (with_reducible rfl)
   try simp only [sq]
   refine tkR ?_ 4 rfl (fun _ _ _ h => h) hHeld ?_ ?_
   rotate_left
   ·intro w hSw; (try dsimp only at hSw); go_simp; try (with_reducible rfl)
   try simp only [sq]
   refine tkR ?_ 5 rfl (fun _ _ _ h => h) hHeld ?_ ?_
   rotate_left
   ·intro w hSw; (try dsimp only at hSw); go_simp; try (with_reducible rfl)
   try simp only [sq]
   refine tkR ?_ 6 rfl (fun _ _ _ h => h) hHeld ?_ ?_
   rotate_left
   ·intro w hSw; (try dsimp only at hSw); go_simp; try (with_reducible rfl)
   try simp only [sq]
   refine tkR ?_ 7 rfl (fun _ _ _ h => h) hHeld ?_ ?_
   rotate_left
   ·intro w hSw; (try dsimp only at hSw); go_simp; try (with_reducible rfl)
   try simp only [sq]
   refine tkR ?_ 8 rfl (fun _ _ _ h => h) hHeld ?_ ?_
   rotate_left
   ·intro w hSw; (try dsimp only at hSw); go_simp; try (with_reducible rfl)
   try simp only [sq]
   refine tkR ?_ 9 rfl (fun _ _ _ h => h) hHeld ?_ ?_
   rotate_left
   ·intro w hSw; (try dsimp only at hSw); go_simp; try (with_reducible rfl)
   try simp only [sq]
   refine tkR ?_ 10 rfl (fun _ _ _ h => h) hHeld ?_ ?_
   rotate_left
   ·intro w hSw; (try dsimp only at hSw); go_simp; try (with_reducible rfl)
   try simp only [sq]
   refine tkR ?_ 11 rfl (fun _ _ _ h => h) hHeld ?_ ?_
   rotate_left
   ·intro w hSw; (try dsimp only at hSw); go_simp; try (with_reducible rfl)
   try simp only [sq]
   refine tkR ?_ 12 rfl (fun _ _ _ h => h) hHeld ?_ ?_
   rotate_left
   ·intro w hSw; (try dsimp only at hSw); go_simp; try (with_reducible rfl)
   try simp only [sq]
   refine tkR ?_ 13 rfl (fun _ _ _ h => h) hHeld ?_ ?_
   rotate_left
   ·intro w hSw; (try dsimp only at hSw); go_simp; try (with_reducible rfl)
   try simp only [sq]
   refine tkR ?_ 14 rfl (fun _ _ _ h => h) hHeld ?_ ?_
   rotate_left
   ·intro w hSw; (try dsimp only at hSw); go_simp; try (with_reducible rfl)
   try simp only [sq]
   refine tkR ?_ 15 rfl (fun _ _ _ h => h) hHeld ?_ ?_
   rotate_left
   ·intro w hSw; (try dsimp only at hSw); go_simp; try (with_reducible rfl)
   try simp only [sq]
   refine tkR ?_ 16 rfl (fun _ _ _ h => h) hHeld ?_ ?_
   rotate_left
   ·intro w hSw; (try dsimp only at hSw); go_simp; try (with_reducible rfl)
   try simp only [sq]
   refine tkR ?_ 17 rfl (fun _ _ _ h => h) hHeld ?_ ?_
   rotate_left
   ·intro w hSw; (try dsimp only at hSw); go_simp; try (with_reducible rfl)
   try simp only [sq]
   refine tkR ?_ 18 rfl (fun _ _ _ h => h) hHeld ?_ ?_
   rotate_left
   ·intro w hSw; (try dsimp only at hSw); go_simp; try (with_reducible rfl)
   try simp only [sq]
   refine tkR ?_ 19 rfl (fun _ _ _ h => h) hHeld ?_ ?_
   rotate_left
   ·intro w hSw; (try dsimp only at hSw); go_simp; try (with_reducible rfl)
   try simp only [sq]
   refine tkR ?_ 20 rfl (fun _ _ _ h => h) hHeld ?_ ?_
   rotate_left
   ·intro w hSw; (try dsimp only at hSw); go_simp; try (with_reducible rfl)
   try simp only [sq]
   refine tkR ?_ 21 rfl (fun _ _ _ h => h) hHeld ?_ ?_
   rotate_left
   ·intro w hSw; (try dsimp only at hSw); go_simp; try (with_reducible rfl)
   try simp only [sq]
   refine tkR ?_ 22 rfl (fun _ _ _ h => h) hHeld ?_ ?_
   rotate_left
   ·intro w hSw; (try dsimp only at hSw); go_simp; try (with_reducible rfl)
   try simp only [sq]
   refine tkR ?_ 23 rfl (fun _ _ _ h => h) hHeld ?_ ?_
   rotate_left
   ·intro w hSw; (try dsimp only at hSw); go_simp; try (with_reducible rfl)
   try simp only [sq]
   refine tkR ?_ 24 rfl (fun _ _ _ h => h) hHeld ?_ ?_
   rotate_left
   ·intro w hSw; (try dsimp only at hSw); go_simp; try (with_reducible rfl)
   try simp only [sq]
   refine tkR ?_ 25 rfl (fun _ _ _ h => h) hHeld ?_ ?_
   rotate_left
   ·intro w hSw; (try dsimp only at hSw); go_simp; try (with_reducible rfl)
   try simp only [sq]
   refine tkR ?_ 26 rfl (fun _ _ _ h => h) hHeld ?_ ?_
   rotate_left
   ·intro w hSw; (try dsimp only at hSw); go_simp; try (with_reducible rfl)
   try simp only [sq]
   refine tkR ?_ 27 rfl (fun _ _ _ h => h) hHeld ?_ ?_
   rotate_left
   ·intro w hSw; (try dsimp only at hSw); go_simp; try (with_reducible rfl)
   try simp only [sq]
   refine tkR ?_ 28 rfl (fun _ _ _ h => h) hHeld ?_ ?_
   rotate_left
   ·intro w hSw; (try dsimp only at hSw); go_simp; try (with_reducible rfl)
   try simp only [sq]
   refine tkR ?_ 29 rfl (fun _ _ _ h => h) hHeld ?_ ?_
   rotate_left
   ·intro w hSw; (try dsimp only at hSw); go_simp; try (with_reducible rfl)
   try simp only [sq]
   refine tkR ?_ 30 rfl (fun _ _ _ h => h) hHeld ?_ ?_
   rotate_left
   ·intro w hSw; (try dsimp only at hSw); go_simp; try (with_reducible rfl)
   try simp only [sq]
   refine tkR ?_ 31 rfl (fun _ _ _ h => h) hHeld ?_ ?_
   rotate_left
   ·intro w hSw; (try dsimp only at hSw); go_simp; try (with_reducible rfl)
   try simp only [sq]
   refine tkR ?_ 32 rfl (fun _ _ _ h => h) hHeld ?_ ?_
   rotate_left
   ·intro w hSw; (try dsimp only at hSw); go_simp; try (with_reducible rfl)
   try simp only [sq]
   refine tkR ?_ 33 rfl (fun _ _ _ h => h) hHeld ?_ ?_
   rotate_left
   ·intro w hSw; (try dsimp only at hSw); go_simp; try (with_reducible rfl)
   try simp only [sq]
   refine tkR ?_ 34 rfl (fun _ _ _ h => h) hHeld ?_ ?_
   rotate_left
   ·intro w hSw; (try dsimp only at hSw); go_simp; try (with_reducible rfl)
   try simp only [sq]
   refine rd1 35 rfl (fun K hK => ?_)
   try simp only [sq]
   go_simp
   (first
     | (go_at_call 44; refine (EQ.out _ HB0.out).mono ?_; rintro e z1 ⟨rfl, hz⟩))
   go_wp2_with fail
   refine hK.out _ _ ?_ (fun hHeld => ?_)
   ·(repeat' apply And.intro) <;> (with_reducible repeat (first | assumption | refine keepdrew ?_ | refine keepcell (by assumption) ?_))
   clear hK K
   try simp only [sq]
   refine tkR ?_ 36 rfl (fun _ _ _ h => h) hHeld ?_ ?_
   rotate_left
   ·intro w hSw; (try dsimp only at hSw); go_simp; try (with_reducible rfl)
   try simp only [sq]
   refine tkR ?_ 37 rfl (fun _ _ _ h => h) hHeld ?_ ?_
   rotate_left
   ·intro w hSw; (try dsimp only at hSw); go_simp; try (with_reducible rfl)
   try simp only [sq]
   refine wpAnyH_done (by kernel_rfl) ?_ _
   go_wp2_with fail
   go_roundw
   case rel => exact ⟨j + 1, by go_num, by omega, hid (btrans (bdrew HBW.out) hz)⟩
   case measure => simp [intOf]; omega
  ·have c1 : (n : Int) ≤ (j : Int) := by omega
   go_wp2_with fail
   go_ret
   exact ⟨rfl, HBW.out⟩
theorem spoil_r (w : World) (p : Nat) (a : Option Addr) (len cap : Nat) (s : ByteArray) (hs : s.size ≤ 900000) (h : Ready w p a len cap) : Calls Tryz.prog 40 #[.pointer (some ⟨p, 0, none⟩), .string s] w fun e w' => ∃ t : ByteArray, e = .returned (.string t) ∧ t.size ≤ s.size + 16 ∧ Ready w' p a len cap ∧ w.grownBy w' (some p) := by
 have hs' : (s.size : Int) ≤ 900000 := by omega
 have PK := hid (fun (W : World) (q : Nat) (hr : Ready W p a len cap) (hi : Strs W q 5) (hq : q ≠ p) => pick_s W p a len cap q 5 (by omega) (by omega) hq hi hr)
 go_enter Tryz.func40, Tryz.ntmps40
 go_wp2_with fail
 refine (below_r _ p a len cap ((s.size : Int) + 1) (by omega) (by omega) h).mono ?_
 rintro e w1 ⟨x, rfl, x0, x1, hr1, hg1⟩
 obtain ⟨i, rfl⟩ := Int.eq_ofNat_of_zero_le x0
 have hi : i ≤ s.size := by omega
 have ci : (i : Int) ≤ (s.size : Int) := by omega
 clear x0 x1 h
 go_wp2_with fail
 refine (below_r _ p a len cap 6 (by omega) (by omega) hr1).mono ?_
 rintro e w2 ⟨y, rfl, y0, y1, hr2, hg2⟩
 replace hg2 := grown_trans hg1 hg2
 clear hg1 hr1
 by_cases hy0 : y = 0
 ·subst hy0
  go_wp2_with fail
  go_ret
  exact ⟨_, rfl, by rw [ext_size s 0 i hi]; omega, hr2, hg2⟩
 by_cases hy1 : y = 1
 ·subst hy1
  have hci0 : (0 : Int) ≤ (i : Int) := by omega
  have hcat1 : ∀ u : ByteArray, u.size ≤ 16 → ¬ 9223372036854775807 < (s.extract 0 i).size + u.size := fun u hu => by rw [ext_size s 0 i hi]; omega
  have hcat2 : ∀ u : ByteArray, u.size ≤ 16 → ¬ 9223372036854775807 < (s.extract 0 i).size + u.size + (s.extract i s.size).size := fun u hu => by rw [ext_size s 0 i hi, ext_size s i s.size (Nat.le_refl _)]; omega
  have hex1 := ext_size s 0 i hi
  have hex2 := ext_size s i s.size (Nat.le_refl _)
  go_upto_region 6 with fail
  refine wp_region_held_drew (S := (fun _ => True)) (by kernel_rfl) ?_ (fun hHeld => ?_)
  ·trivial
  replace hr2 : Ready w2.drew p a len cap := hr2.bel (bdrew (Below.refl _ _))
  replace hg2 := grown_bel hg2 (bdrew (Below.refl w2.heap.size w2))
  generalize w2.drew = V0 at *
  refine tkR ?_ 0 rfl (fun _ _ _ h => h) hHeld ?_ ?_
  rotate_left
  ·intro w hSw; (try dsimp only at hSw); go_simp; try (with_reducible rfl)
  try simp only [sq]
  refine tkR ?_ 1 rfl (fun _ _ _ h => h) hHeld ?_ ?_
  rotate_left
  ·intro w hSw; (try dsimp only at hSw); go_simp; try (with_reducible rfl)
  try simp only [sq]
  refine tkR ?_ 2 rfl (fun _ _ _ h => h) hHeld ?_ ?_
  rotate_left
  ·intro w hSw; (try dsimp only at hSw); go_simp; try (with_reducible rfl)
  try simp only [sq]
  refine tkR ?_ 3 rfl (fun _ _ _ h => h) hHeld ?_ ?_
  rotate_left
  ·intro w hSw; (try dsimp only at hSw); go_simp; try (with_reducible rfl)
  try simp only [sq]
  refine tkR ?_ 7 rfl (fun _ _ _ h => h) hHeld ?_ ?_
  rotate_left
  ·intro w hSw; (try dsimp only at hSw); go_simp; try (with_reducible rfl)
  try simp only [sq]
  refine tkR ?_ 8 rfl (fun _ _ _ h => h) hHeld ?_ ?_
  rotate_left
  ·intro w hSw; (try dsimp only at hSw); go_simp; try (with_reducible rfl)
  try simp only [sq]
  refine tkR ?_ 9 rfl (fun _ _ _ h => h) hHeld ?_ ?_
  rotate_left
  ·intro w hSw; (try dsimp only at hSw); go_simp; try (with_reducible rfl)
  try simp only [sq]
  refine rd1 4 rfl (fun K hK => ?_)
  try simp only [sq]
  go_simp
  refine hK.out _ _ trivial (fun hHeld => ?_)
  clear hK K
  try simp only [sq]
  have hrZ := hr2.alloc (.cells #[.string ⟨#[32]⟩, .string ⟨#[48]⟩, .string ⟨#[45]⟩, .string ⟨#[120]⟩, .string ⟨#[128]⟩] 9)
  have hsZ : Strs (V0.alloc (.cells #[.string ⟨#[32]⟩, .string ⟨#[48]⟩, .string ⟨#[45]⟩, .string ⟨#[120]⟩, .string ⟨#[128]⟩] 9)) V0.heap.size 5 := strs_new V0 [⟨#[32]⟩, ⟨#[48]⟩, ⟨#[45]⟩, ⟨#[120]⟩, ⟨#[128]⟩] 9 (by decide)
  have hqZ : V0.heap.size ≠ p := by have := hr2.lt; omega
  have hgZ := grown_trans hg2 (grown_alloc V0 (.cells #[.string ⟨#[32]⟩, .string ⟨#[48]⟩, .string ⟨#[45]⟩, .string ⟨#[120]⟩, .string ⟨#[128]⟩] 9) (some p))
  refine rd1 5 rfl (fun K hK => ?_)
  try simp only [sq]
  go_simp
  go_at_call 37
  refine (PK.out _ _ hrZ hsZ hqZ).mono ?_
  rintro e y ⟨u, rfl, hu, hry, hgy⟩
  have hc1 : ¬ 9223372036854775807 < i + u.size := by omega
  have hc2 : ¬ 9223372036854775807 < i + u.size + (s.size - i) := by omega
  go_wp2_with fail
  refine hK.out _ _ trivial (fun hHeld => ?_)
  clear hK K
  try simp only [sq]
  refine tkR ?_ 6 rfl (fun _ _ _ h => h) hHeld ?_ ?_
  rotate_left
  ·intro w hSw; (try dsimp only at hSw); go_simp; try (with_reducible rfl)
  try simp only [sq]
  refine tkR ?_ 10 rfl (fun _ _ _ h => h) hHeld ?_ ?_
  rotate_left
  ·intro w hSw; (try dsimp only at hSw); go_simp; try (with_reducible rfl)
  try simp only [sq]
  refine tkR ?_ 11 rfl (fun _ _ _ h => h) hHeld ?_ ?_
  rotate_left
  ·intro w hSw; (try dsimp only at hSw); go_simp; try (with_reducible rfl)
  try simp only [sq]
  refine wpAnyH_done (by kernel_rfl) ?_ _
  go_wp2_with fail
  go_ret
  exact ⟨_, rfl, by rw [ByteArray.size_append, ByteArray.size_append, ext_size s 0 i (by omega), ext_size s i s.size (Nat.le_refl _)]; omega, hry, grown_trans hgZ hgy⟩
 ·have hy2 : ((y : Int) == 0) = false := by rw [beq_eq_false_iff_ne]; exact hy0
  have hy3 : ((y : Int) == 1) = false := by rw [beq_eq_false_iff_ne]; exact hy1
  go_wp2_with fail
  go_ret
  exact ⟨_, rfl, by omega, hr2, hg2⟩
def DV (w : World) (e : Ending) (w' : World) : Prop := ∃ (now : Int) (ra : Option Addr) (rc : Nat) (rs : List Rw) (xs : List El) (t : Int), e = .returned (.tuple #[.agg #[.int .i64 now, .slice ra rs.length rc], .int .i64 t]) ∧ (-1 ≤ now ∧ now ≤ 20) ∧ rs.length ≤ 301 ∧ RowsX w.heap.size w'.heap.size w' (.slice ra rs.length rc) rs xs ∧ (-1 ≤ t ∧ t ≤ 23) ∧ Below w.heap.size w w'
theorem DV.mk {w w' : World} {now : Int} {ra : Option Addr} {rc : Nat} {rs : List Rw} {xs : List El} {t : Int} (h0 : -1 ≤ now) (h1 : now ≤ 20) (h2 : rs.length ≤ 301) (h3 : RowsX w.heap.size w'.heap.size w' (.slice ra rs.length rc) rs xs) (h4 : -1 ≤ t) (h5 : t ≤ 23) (h6 : Below w.heap.size w w') : DV w (.returned (.tuple #[.agg #[.int .i64 now, .slice ra rs.length rc], .int .i64 t])) w' := ⟨now, ra, rc, rs, xs, t, rfl, ⟨h0, h1⟩, h2, h3, ⟨h4, h5⟩, h6⟩
theorem asked_r (w : World) (a : Option Addr) (len cap : Nat) (hc : CodeAt w a len w.heap.size) : Calls Tryz.prog 28 #[.slice a len cap] w fun e w' => DV w e w' := by
 have hB : Below w.heap.size w (w.alloc (.cells #[.int .i64 0, .slice none 0 0] 32)) := balloc (Below.refl _ _) _
 have gR := heap_alloc_new w (.cells #[.int .i64 0, .slice none 0 0] 32)
 have hc0 : CodeAt (w.alloc (.cells #[.int .i64 0, .slice none 0 0] 32)) a len (w.alloc (.cells #[.int .i64 0, .slice none 0 0] 32)).heap.size := (hc.below hB).mono hB.size
 have hws : w.heap.size < (w.alloc (.cells #[.int .i64 0, .slice none 0 0] 32)).heap.size := by simp
 clear hc
 go_enter Tryz.func28, Tryz.ntmps28
 go_upto_region 1 with fail
 generalize w.alloc (.cells #[.int .i64 0, .slice none 0 0] 32) = W0 at *
 go_wp2_with fail
 refine (new_q _ a len cap hc0).mono ?_
 rintro e v1 ⟨p, rfl, hp0, hr, hold, hb0⟩
 replace gR := hold _ _ gR
 replace hB := btrans hB hb0
 have hp1 := hr.lt
 rw [hp0] at hws
 clear hold hb0 hc0 hp0
 go_wp2_with fail
 refine (rows_r _ p a len cap hr).mono ?_
 rintro e v2 hdr
 obtain ⟨now, v, rs, xs, rfl, ⟨hn0, hn1⟩, hl, hX, hr2, hg⟩ := hdr
 obtain ⟨ra, rc, ev⟩ := kept_form hX
 subst ev
 replace gR := grown_blk hg gR (by omega)
 replace hB := bgrown hB hg (by omega)
 have hv := hg.size
 clear hr hg
 go_upto_region 3 with fail
 have gQ := heap_alloc_new v2 (.cells #[.int .i64 now, .slice ra rs.length rc] 32)
 have hal : Below v2.heap.size v2 (v2.alloc (.cells #[.int .i64 now, .slice ra rs.length rc] 32)) := balloc (Below.refl _ _) _
 replace gR := keepheap2 hal gR
 replace hB := btrans hB hal
 have HX := hid (hX.below hal)
 replace hr2 := hr2.alloc (.cells #[.int .i64 now, .slice ra rs.length rc] 32)
 clear hal hX
 generalize v2.alloc (.cells #[.int .i64 now, .slice ra rs.length rc] 32) = V at *
 have hQp : p < v2.heap.size := by omega
 generalize v2.heap.size = Q at *
 go_wp2_with fail
 refine (once_r _ p a len cap 2 (by omega) (by omega) hr2).mono ?_
 rintro e V2 ⟨b, rfl, hr3, hg⟩
 replace gR := grown_blk hg gR (by omega)
 replace gQ := grown_blk hg gQ (by omega)
 replace hB := bgrown hB hg (by omega)
 replace HX := hid (HX.out.grown hg hp1)
 replace hr2 := hr3
 clear hg hr3
 cases b
 ·have hw3 : IntKind.i64.wrap (now + 2) = now + 2 := by rw [IntKind.wrap_i64]; omega
  go_upto_region 5 with fail
  obtain ⟨q0, q1, _, _⟩ := cell2f gQ
  refine wp_region_held_drew (S := (fun w' => w'.cell? ⟨Q, 0, none⟩ = some (.int .i64 now) ∧ w'.cell? ⟨Q, 1, none⟩ = some (.slice ra rs.length rc))) (by kernel_rfl) ?_ (fun hHeld => ?_)
  ·(repeat' apply And.intro) <;> (repeat (first | with_reducible assumption | exact (cell2f gQ).1 | exact (cell2f gQ).2.1 | with_reducible refine keepset ?_ (by dsimp only; omega)))
  have hdw : Below V2.heap.size V2 V2.drew := bdrew (Below.refl _ _)
  replace gR := keepheap2 hdw gR
  replace gQ := keepheap2 hdw gQ
  replace hB := btrans hB hdw
  replace HX := hid (HX.out.below hdw)
  replace hr2 := hr2.bel hdw
  clear hdw
  generalize V2.drew = V0 at *
  refine tkR ?_ 0 rfl (fun _ _ _ h => h) hHeld ?_ ?_
  rotate_left
  ·intro w hSw; (try dsimp only at hSw); go_simp; try (with_reducible rfl)
  try simp only [sq]
  refine tkR ?_ 1 rfl (fun _ _ _ h => h) hHeld ?_ ?_
  rotate_left
  ·intro w hSw; (try dsimp only at hSw); go_simp; try (with_reducible rfl)
  try simp only [sq]
  refine tkR ?_ 2 rfl (fun _ _ _ h => h) hHeld ?_ ?_
  rotate_left
  ·intro w hSw; (try dsimp only at hSw); go_simp; try (with_reducible rfl)
  try simp only [sq]
  refine tkR ?_ 3 rfl (fun _ _ _ h => h) hHeld ?_ ?_
  rotate_left
  ·intro w hSw; (try dsimp only at hSw); go_simp; try (with_reducible rfl)
  try simp only [sq]
  refine tkR ?_ 4 rfl (fun _ _ _ h => h) hHeld ?_ ?_
  rotate_left
  ·intro w hSw; (try dsimp only at hSw); go_simp; try (with_reducible rfl)
  try simp only [sq]
  refine rd1 5 rfl (fun K hK => ?_)
  try simp only [sq]
  go_simp
  (first
    | ((go_at_call 38; refine (below_r _ p a len cap (now + 2) (by omega) (by omega) hr2).mono ?_; rintro e yx ⟨x, rfl, hx0, hx1, hr3, hg⟩; replace gR := grown_blk hg gR (by omega); replace gQ := grown_blk hg gQ (by omega); replace hB := bgrown hB hg (by omega); replace HX := hid (HX.out.grown hg hp1); replace hr2 := hr3; clear hg hr3)))
  go_wp2_with fail
  refine hK.out _ _ ?_ (fun hHeld => ?_)
  ·(repeat' apply And.intro) <;> (repeat (first | with_reducible assumption | exact (cell2f gQ).1 | exact (cell2f gQ).2.1 | with_reducible refine keepset ?_ (by dsimp only; omega)))
  clear hK K
  try simp only [sq]
  obtain ⟨_, _, s0, s1⟩ := cell2f gR
  refine rd1 6 rfl (fun K hK => ?_)
  try simp only [sq]
  go_simp
  refine hK.out _ _ ?_ (fun hHeld => ?_)
  ·(repeat' apply And.intro) <;> (repeat (first | with_reducible assumption | exact (cell2f gQ).1 | exact (cell2f gQ).2.1 | with_reducible refine keepset ?_ (by dsimp only; omega)))
  clear hK K
  try simp only [sq]
  refine tkR ?_ 7 rfl (fun _ _ _ h => h) hHeld ?_ ?_
  rotate_left
  ·intro w hSw; (try dsimp only at hSw); go_simp; try (with_reducible rfl)
  try simp only [sq]
  refine wpAnyH_done (by kernel_rfl) ?_ _
  clear q0 q1 s0 s1
  have gF := set2r gR (.int .i64 now) (.slice ra rs.length rc)
  have bF := bset (bset hB (q := w.heap.size) (k := 0) (Nat.le_refl _) (.int .i64 now)) (q := w.heap.size) (k := 1) (Nat.le_refl _) (.slice ra rs.length rc)
  have xF := (HX.out.frame (w' := (yx.setCell ⟨w.heap.size, 0, none⟩ (.int .i64 now)).setCell ⟨w.heap.size, 1, none⟩ (.slice ra rs.length rc)) (fun c c1 c2 => by rw [Below.heap_setCell _ _ _ _ (by dsimp only; omega), Below.heap_setCell _ _ _ _ (by dsimp only; omega)]) (by simp)).mono (base' := w.heap.size) (hi' := ((yx.setCell ⟨w.heap.size, 0, none⟩ (.int .i64 now)).setCell ⟨w.heap.size, 1, none⟩ (.slice ra rs.length rc)).heap.size) (by omega) (by have := HX.out.2.2.2.1; simpa using this) (Nat.le_refl _)
  have HF := hid xF
  clear xF HX
  go_wp2_with fail
  generalize (yx.setCell ⟨w.heap.size, 0, none⟩ (.int .i64 now)).setCell ⟨w.heap.size, 1, none⟩ (.slice ra rs.length rc) = wf at *
  obtain ⟨z0, z1, _, _⟩ := cell2f gF
  exact bodyPost_ret (v := .tuple #[.agg #[.int .i64 now, .slice ra rs.length rc], .int .i64 (x)]) (by simp [results, Tryz.results28, go_sem, z0, z1]) rfl (DV.mk hn0 hn1 hl HF.out (by omega) (by omega) bF)
 ·go_upto_region 4 with fail
  obtain ⟨q0, q1, _, _⟩ := cell2f gQ
  refine wp_region_held_drew (S := (fun w' => w'.cell? ⟨Q, 0, none⟩ = some (.int .i64 now) ∧ w'.cell? ⟨Q, 1, none⟩ = some (.slice ra rs.length rc))) (by kernel_rfl) ?_ (fun hHeld => ?_)
  ·(repeat' apply And.intro) <;> (repeat (first | with_reducible assumption | exact (cell2f gQ).1 | exact (cell2f gQ).2.1 | with_reducible refine keepset ?_ (by dsimp only; omega)))
  have hdw : Below V2.heap.size V2 V2.drew := bdrew (Below.refl _ _)
  replace gR := keepheap2 hdw gR
  replace gQ := keepheap2 hdw gQ
  replace hB := btrans hB hdw
  replace HX := hid (HX.out.below hdw)
  replace hr2 := hr2.bel hdw
  clear hdw
  generalize V2.drew = V0 at *
  refine tkR ?_ 0 rfl (fun _ _ _ h => h) hHeld ?_ ?_
  rotate_left
  ·intro w hSw; (try dsimp only at hSw); go_simp; try (with_reducible rfl)
  try simp only [sq]
  refine tkR ?_ 1 rfl (fun _ _ _ h => h) hHeld ?_ ?_
  rotate_left
  ·intro w hSw; (try dsimp only at hSw); go_simp; try (with_reducible rfl)
  try simp only [sq]
  refine tkR ?_ 2 rfl (fun _ _ _ h => h) hHeld ?_ ?_
  rotate_left
  ·intro w hSw; (try dsimp only at hSw); go_simp; try (with_reducible rfl)
  try simp only [sq]
  obtain ⟨_, _, s0, s1⟩ := cell2f gR
  refine rd1 3 rfl (fun K hK => ?_)
  try simp only [sq]
  go_simp
  refine hK.out _ _ ?_ (fun hHeld => ?_)
  ·(repeat' apply And.intro) <;> (repeat (first | with_reducible assumption | exact (cell2f gQ).1 | exact (cell2f gQ).2.1 | with_reducible refine keepset ?_ (by dsimp only; omega)))
  clear hK K
  try simp only [sq]
  refine tkR ?_ 4 rfl (fun _ _ _ h => h) hHeld ?_ ?_
  rotate_left
  ·intro w hSw; (try dsimp only at hSw); go_simp; try (with_reducible rfl)
  try simp only [sq]
  refine wpAnyH_done (by kernel_rfl) ?_ _
  clear q0 q1 s0 s1
  have gF := set2r gR (.int .i64 now) (.slice ra rs.length rc)
  have bF := bset (bset hB (q := w.heap.size) (k := 0) (Nat.le_refl _) (.int .i64 now)) (q := w.heap.size) (k := 1) (Nat.le_refl _) (.slice ra rs.length rc)
  have xF := (HX.out.frame (w' := (V0.setCell ⟨w.heap.size, 0, none⟩ (.int .i64 now)).setCell ⟨w.heap.size, 1, none⟩ (.slice ra rs.length rc)) (fun c c1 c2 => by rw [Below.heap_setCell _ _ _ _ (by dsimp only; omega), Below.heap_setCell _ _ _ _ (by dsimp only; omega)]) (by simp)).mono (base' := w.heap.size) (hi' := ((V0.setCell ⟨w.heap.size, 0, none⟩ (.int .i64 now)).setCell ⟨w.heap.size, 1, none⟩ (.slice ra rs.length rc)).heap.size) (by omega) (by have := HX.out.2.2.2.1; simpa using this) (Nat.le_refl _)
  have HF := hid xF
  clear xF HX
  go_wp2_with fail
  generalize (V0.setCell ⟨w.heap.size, 0, none⟩ (.int .i64 now)).setCell ⟨w.heap.size, 1, none⟩ (.slice ra rs.length rc) = wf at *
  obtain ⟨z0, z1, _, _⟩ := cell2f gF
  exact bodyPost_ret (v := .tuple #[.agg #[.int .i64 now, .slice ra rs.length rc], .int .i64 (now)]) (by simp [results, Tryz.results28, go_sem, z0, z1]) rfl (DV.mk hn0 hn1 hl HF.out (by omega) (by omega) bF)
theorem draw_dump (w : World) (a : Option Addr) (len cap : Nat) (hc : CodeAt w a len w.heap.size) : Calls Tryz.prog 11 #[.slice a len cap] w fun e w' => DV w e w' := by
 have hB : Below w.heap.size w (w.alloc (.cells #[.int .i64 0, .slice none 0 0] 32)) := balloc (Below.refl _ _) _
 have gR := heap_alloc_new w (.cells #[.int .i64 0, .slice none 0 0] 32)
 have hc0 : CodeAt (w.alloc (.cells #[.int .i64 0, .slice none 0 0] 32)) a len (w.alloc (.cells #[.int .i64 0, .slice none 0 0] 32)).heap.size := (hc.below hB).mono hB.size
 have hws : w.heap.size < (w.alloc (.cells #[.int .i64 0, .slice none 0 0] 32)).heap.size := by simp
 clear hc
 go_enter Tryz.func11, Tryz.ntmps11
 go_upto_region 1 with fail
 generalize w.alloc (.cells #[.int .i64 0, .slice none 0 0] 32) = W0 at *
 go_wp2_with fail
 refine (asked_r _ a len cap hc0).mono ?_
 rintro e v1 hdv
 obtain ⟨now, ra, rc, rs, xs, t, rfl, ⟨hn0, hn1⟩, hl, hX, ⟨ht0, ht1⟩, hb⟩ := hdv
 replace gR := keepheap2 hb gR
 replace hB := btrans hB hb
 have HX := hid hX
 clear hb hX
 obtain ⟨r0, r1, s0, s1⟩ := cell2f gR
 have gF := set2r gR (.int .i64 now) (.slice ra rs.length rc)
 have bF := bset (bset hB (q := w.heap.size) (k := 0) (Nat.le_refl _) (.int .i64 now)) (q := w.heap.size) (k := 1) (Nat.le_refl _) (.slice ra rs.length rc)
 have xF := (HX.out.frame (w' := (v1.setCell ⟨w.heap.size, 0, none⟩ (.int .i64 now)).setCell ⟨w.heap.size, 1, none⟩ (.slice ra rs.length rc)) (fun c c1 c2 => by rw [Below.heap_setCell _ _ _ _ (by dsimp only; omega), Below.heap_setCell _ _ _ _ (by dsimp only; omega)]) (by simp)).mono (base' := w.heap.size) (hi' := ((v1.setCell ⟨w.heap.size, 0, none⟩ (.int .i64 now)).setCell ⟨w.heap.size, 1, none⟩ (.slice ra rs.length rc)).heap.size) (by omega) (by simp) (Nat.le_refl _)
 have HF := hid xF
 clear xF HX
 go_wp2_with fail
 generalize (v1.setCell ⟨w.heap.size, 0, none⟩ (.int .i64 now)).setCell ⟨w.heap.size, 1, none⟩ (.slice ra rs.length rc) = wf at *
 obtain ⟨z0, z1, _, _⟩ := cell2f gF
 exact bodyPost_ret (v := .tuple #[.agg #[.int .i64 now, .slice ra rs.length rc], .int .i64 t]) (by simp [results, Tryz.results11, go_sem, z0, z1]) rfl (DV.mk hn0 hn1 hl HF.out ht0 ht1 bF)
def lns : List ByteArray := [⟨#[49, 32, 80, 79, 73, 78, 84, 32, 49, 32, 50, 10]⟩, ⟨#[57, 32, 80, 79, 73, 78, 84, 32, 49, 32, 50, 10]⟩, ⟨#[49, 48, 32, 80, 79, 73, 78, 84, 32, 49, 10]⟩, ⟨#[49, 49]⟩, ⟨#[120, 10]⟩, ⟨#[10]⟩, ⟨#[48, 32, 80, 79, 73, 78, 84, 32, 49, 32, 50, 10]⟩]
theorem lns_ok : ∀ s ∈ lns, s.size ≤ 16 := by decide
def DL (w : World) (e : Ending) (w' : World) : Prop := ∃ u : ByteArray, e = .returned (.string u) ∧ u.size ≤ 900100 ∧ Below w.heap.size w w'
theorem draw_load (w : World) (a : Option Addr) (len cap : Nat) (hc : CodeAt w a len w.heap.size) : Calls Tryz.prog 13 #[.slice a len cap] w fun e w' => DL w e w' := by
 go_enter Tryz.func13, Tryz.ntmps13
 go_wp2_with fail
 refine (new_q _ a len cap hc).mono ?_
 rintro e v1 ⟨p, rfl, hp0, hr, hold, hb0⟩
 have hB := hb0
 have hp1 := hr.lt
 clear hold hb0 hc
 go_wp2_with fail
 refine (rows_r _ p a len cap hr).mono ?_
 rintro e v2 hdr
 obtain ⟨now, v, rs, xs, rfl, ⟨hn0, hn1⟩, hl, hX, hr2, hg⟩ := hdr
 obtain ⟨ra, rc, ev⟩ := kept_form hX
 subst ev
 replace hB := bgrown hB hg (by omega)
 have hv := hg.size
 clear hr hg
 go_upto_region 3 with fail
 have gQ := heap_alloc_new v2 (.cells #[.int .i64 now, .slice ra rs.length rc] 32)
 have hal : Below v2.heap.size v2 (v2.alloc (.cells #[.int .i64 now, .slice ra rs.length rc] 32)) := balloc (Below.refl _ _) _
 replace hB := btrans hB hal
 have hrw := (hX.below hal).rws
 replace hr2 := hr2.alloc (.cells #[.int .i64 now, .slice ra rs.length rc] 32)
 clear hal hX
 generalize v2.alloc (.cells #[.int .i64 now, .slice ra rs.length rc] 32) = V at *
 generalize v2.heap.size = Q at *
 have HSD := hid (spec_Dump now ra rc rs now V (by omega) hrw)
 have hsz : (dmT rs now (idsb now rs now) (idsb now rs now).length).size ≤ 800400 := by
  have h1 := dmT_size (rs := rs) (t := now) (fun id h => idsb_id (now := now) (rs := rs) (t := now) h) (idsb now rs now).length (Nat.le_refl _)
  have h2 := idsb_len now rs now
  have h3 : (idsb now rs now).length * 2668 ≤ 300 * 2668 := Nat.mul_le_mul_right _ h2
  omega
 generalize dmT rs now (idsb now rs now) (idsb now rs now).length = sd at *
 clear hrw
 obtain ⟨q0, q1, _, _⟩ := cell2f gQ
 clear gQ
 go_wp2_with fail
 refine HSD.out.mono ?_
 rintro e V2 ⟨rfl, hb⟩
 have hpV := hr2.lt
 replace hB := btrans hB hb
 replace hr2 := hr2.bel hb
 clear hb HSD q0 q1
 go_wp2_with fail
 refine (once_r _ p a len cap 8 (by omega) (by omega) hr2).mono ?_
 rintro e V3 ⟨b8, rfl, hr3, hg⟩
 replace hB := bgrown hB hg (by omega)
 clear hg hr2
 go_upto_if 16 with fail
 go_cut [5] from 17 to 22 (fun t5 wx => ∃ s5 : ByteArray, t5 = .string s5 ∧ s5.size ≤ 800500 ∧ Ready wx p a len cap ∧ Below w.heap.size w wx)
 case first =>
  cases b8
  ·go_wp2_with fail
   go_meet
   exact ⟨_, rfl, by omega, hr3, hB⟩
  ·go_upto_region 5 with fail
   have hS := strs_new V3 lns 9 lns_ok
   have hal : Below V3.heap.size V3 (V3.alloc (.cells (lns.map Value.string).toArray 9)) := balloc (Below.refl _ _) _
   have hr4 := hr3.alloc (.cells (lns.map Value.string).toArray 9)
   replace hB := btrans hB hal
   have hq := hr3.lt
   have hll : lns.length = 7 := rfl
   rw [hll] at hS
   have HPK := hid (pick_s (V3.alloc (.cells (lns.map Value.string).toArray 9)) p a len cap V3.heap.size 7 (by omega) (by omega) (by omega) hS hr4)
   have HW : Hid (V3.alloc (.cells (lns.map Value.string).toArray 9) = V3.alloc (.cells #[.string ⟨#[49, 32, 80, 79, 73, 78, 84, 32, 49, 32, 50, 10]⟩, .string ⟨#[57, 32, 80, 79, 73, 78, 84, 32, 49, 32, 50, 10]⟩, .string ⟨#[49, 48, 32, 80, 79, 73, 78, 84, 32, 49, 10]⟩, .string ⟨#[49, 49]⟩, .string ⟨#[120, 10]⟩, .string ⟨#[10]⟩, .string ⟨#[48, 32, 80, 79, 73, 78, 84, 32, 49, 32, 50, 10]⟩] 9)) := hid rfl
   rw [HW.out] at HPK hB
   clear HW hS hr4 hal
   go_wp2_with fail
   refine HPK.out.mono ?_
   rintro e V4 ⟨z, rfl, hz, hr5, hg⟩
   have hzz : ¬ 9223372036854775807 < sd.size + z.size := by omega
   replace hB := bgrown hB hg (by omega)
   clear HPK hg
   go_wp2_with fail
   go_meet
   exact ⟨_, rfl, by rw [ByteArray.size_append]; omega, hr5, hB⟩
 case rest =>
  obtain ⟨s5, rfl, hs5, hr4, hB4⟩ := hcut
  clear hr3 hB
  have hpW := hr4.lt
  go_wp2_with fail
  refine (once_r _ p a len cap 60 (by omega) (by omega) hr4).mono ?_
  rintro e V5 ⟨b60, rfl, hr5, hg⟩
  have hB5 := bgrown hB4 hg (by omega)
  clear hg hr4 hB4
  cases b60
  ·go_wp2_with fail
   refine (spoil_r _ p a len cap s5 (by omega) hr5).mono ?_
   rintro e V6 ⟨u, rfl, hu, _, hg⟩
   have hB6 := bgrown hB5 hg (by omega)
   go_wp2_with fail
   go_ret
   exact ⟨u, rfl, by omega, hB6⟩
  ·go_wp2_with fail
   go_loopw [5, 6] (fun t5 t6 wr => ∃ (i : Nat) (s6 : ByteArray), t6 = .int .i64 i ∧ t5 = .string s6 ∧ i ≤ 101 ∧ Hid (s6.size ≤ 32 * i) ∧ Hid (Ready wr p a len cap) ∧ Hid (Below w.heap.size w wr)) (fun _ t6 _ => 101 - (intOf t6).toNat)
   case atStart => exact ⟨0, ⟨#[]⟩, rfl, rfl, by omega, hid (by decide), hid hr5, hid hB5⟩
   case round =>
    clear hr5 hB5
    obtain ⟨i, s6, rfl, rfl, hi, HS, HR, HB⟩ := hrel
    have hpR := HR.out.lt
    have hs6 := HS.out
    go_wp2_with fail
    refine (below_r _ p a len cap 2 (by omega) (by omega) HR.out).mono ?_
    rintro e V6 ⟨x, rfl, hx0, hx1, hr6, hg⟩
    have hB6 := bgrown HB.out hg (by omega)
    have hV6 := hr6.lt
    clear hg
    have hwx : IntKind.i64.wrap (100 + x) = 100 + x := by rw [IntKind.wrap_i64]; omega
    by_cases hlt : (i : Int) < 100 + x
    ·have hdc := hid (spec_decI ((i : Int) + 1) (by unfold In; omega) V6)
     have hia := ia_size (n := (i : Int) + 1) (by unfold In; omega)
     have hwi : IntKind.i64.wrap ((i : Int) + 1) = (i : Int) + 1 := by rw [IntKind.wrap_i64] <;> omega
     generalize ia ((i : Int) + 1) = d at *
     have hz1 : ¬ 9223372036854775807 < s6.size + d.size := by omega
     have hz2 : ¬ 9223372036854775807 < s6.size + d.size + 11 := by omega
     go_wp2_with fail
     refine hdc.out.mono ?_
     rintro e V7 ⟨rfl, hb7⟩
     have hr7 := hr6.bel hb7
     have hB7 := btrans hB6 hb7
     clear hdc hb7
     go_wp2_with fail
     go_roundw
     case rel => exact ⟨i + 1, _, by go_num, rfl, by omega, hid (by rw [ByteArray.size_append, ByteArray.size_append]; show s6.size + d.size + 11 ≤ _; omega), hid hr7, hid hB7⟩
     case measure => simp [intOf]; omega
    ·go_wp2_with fail
     refine (spoil_r _ p a len cap s6 (by omega) hr6).mono ?_
     rintro e V7 ⟨u, rfl, hu, _, hg⟩
     have hB7 := bgrown hB6 hg (by omega)
     go_wp2_with fail
     go_ret
     exact ⟨u, rfl, by omega, hB7⟩
end Go.Proofs.YtenlhgnobfadgaaGreatDoor
