/- Texts of stores, joined: Pts, Pts2, Area. -/
import Derived.Test.YtenlhgnobfadgaaGreatDoorJ9
import Derived.Laws.MakeOwn
import Derived.Deep.MidRow
namespace Go.Proofs.YtenlhgnobfadgaaGreatDoor
open Go.RowKit
set_option linter.unusedSimpArgs false
set_option linter.unusedVariables false
/-- A list of points in a block of its own, from its head on, that may be written. -/
def PtsOwn (w : World) (b : Nat) (ps : List (Int × Int)) : Prop := b < w.heap.size ∧ PtsAt w b 0 ps ∧ w.there b 0 (ps.length * 2)
theorem PtsOwn.pts {w : World} {b : Nat} {ps : List (Int × Int)} (h : PtsOwn w b ps) : Pts w (some ⟨b, 0, none⟩) ps := .inr ⟨b, 0, rfl, h.1, h.2.1⟩
theorem there_below {w w' : World} {b n : Nat} (h : w.there b 0 n) (hb : b < w.heap.size) (H : Below w.heap.size w w') : w'.there b 0 n := by
  intro j hj
  obtain ⟨h1, h2⟩ := h j hj
  exact ⟨by rw [H.cell hb]; exact h1, by rw [H.frozen hb]; exact h2⟩
theorem PtsOwn.below {w w' : World} {b : Nat} {ps : List (Int × Int)} (h : PtsOwn w b ps) (H : Below w.heap.size w w') : PtsOwn w' b ps :=
  ⟨Nat.lt_of_lt_of_le h.1 H.size, h.2.1.below h.1 H, there_below h.2.2 h.1 H⟩
/-- A list of points that came in. -/
def PtsIn (w : World) (a : Option Addr) (cap : Nat) (ps : List (Int × Int)) : Prop := Pts w a ps ∧ ps.length ≤ cap ∧ cap ≤ 9223372036854775807
theorem ptsIn_nil (w : World) (a : Option Addr) : PtsIn w a 0 [] := ⟨.inl rfl, Nat.le_refl _, by omega⟩
theorem ptsIn_of {W : World} {a : Addr} {len cap : Nat} (hl : len ≤ cap) (hm : cap ≤ maxLen)
    (hall : ∀ j, j < len → ∃ z0 z1, W.cell? (a.add (j * 2)) = some (.int .i64 z0) ∧ W.cell? (a.add (j * 2 + 1)) = some (.int .i64 z1) ∧ (Lit.int .i64 z0).wf = true ∧ (Lit.int .i64 z1).wf = true) :
    ∃ ps : List (Int × Int), len = ps.length ∧ PtsIn W (some a) cap ps := by
  have hm' : cap ≤ 9223372036854775807 := by simpa [maxLen] using hm
  have hex : ∀ j, ∃ z : Int × Int, j < len → W.cell? (a.add (j * 2)) = some (.int .i64 z.1) ∧ W.cell? (a.add (j * 2 + 1)) = some (.int .i64 z.2) := by
    intro j
    by_cases hj : j < len
    · obtain ⟨z0, z1, h1, h2, _, _⟩ := hall j hj
      exact ⟨(z0, z1), fun _ => ⟨h1, h2⟩⟩
    · exact ⟨(0, 0), fun h => absurd h hj⟩
  obtain ⟨f, hf⟩ := Classical.axiomOfChoice hex
  refine ⟨(List.range len).map f, by simp, ?_, by simpa using hl, hm'⟩
  rcases Nat.eq_zero_or_pos len with h0 | h0
  · subst h0; exact .inl rfl
  have h00 := (hf 0 h0).1
  have hspot : a.spot = none := by
    simp only [Nat.zero_mul, Addr.add, if_true] at h00
    unfold World.cell? at h00
    split at h00
    · split at h00
      · cases h00
      · rename_i q; simpa using q
    · cases h00
  have ha : ∀ j, a.add j = ⟨a.block, a.off + j, none⟩ := by
    intro j
    obtain ⟨b, o, s⟩ := a
    simp only at hspot
    subst hspot
    exact Addr.add_mid b o j
  refine .inr ⟨a.block, a.off, by rw [← hspot], ?_, ?_⟩
  · have := World.block_lt_of_cell? W _ h00
    rw [ha] at this
    exact this
  · intro k hk
    simp only [List.length_map, List.length_range] at hk
    obtain ⟨h1, h2⟩ := hf k hk
    rw [ha] at h1 h2
    have g : ((List.range len).map f).getD k (0, 0) = f k := by
      simp [List.getD_eq_getElem?_getD, List.getElem?_map, List.getElem?_range hk]
    rw [g]
    exact ⟨h1, by rw [Nat.add_assoc]; exact h2⟩
theorem made_size (n : Nat) : (madeCells #[.int .i64 0, .int .i64 0] (n * 2)).size = n * 2 := size_madeCells _ _
theorem made_at (n j : Nat) (h : j < n * 2) : (madeCells #[.int .i64 0, .int .i64 0] (n * 2))[j]? = some (.int .i64 0) := by
  unfold madeCells
  rw [Array.getElem?_map, Array.getElem?_range, if_pos h]
  rcases Nat.mod_two_eq_zero_or_one j with e | e <;> simp [e]
/-- Two cells of a block are written: those of one point more. -/
theorem put_point {w : World} {b k n : Nat} {ps : List (Int × Int)} (hb : b < w.heap.size) (hk : k < ps.length) (hn : n = ps.length * 2) (h : PtsAt w b 0 (ps.take k)) (ht : w.there b 0 n) (x y : Int) (hx : (ps.getD k (0, 0)).1 = x) (hy : (ps.getD k (0, 0)).2 = y) :
    PtsAt ((w.setCell ⟨b, k * 2, none⟩ (.int .i64 x)).setCell ⟨b, k * 2 + 1, none⟩ (.int .i64 y)) b 0 (ps.take (k + 1)) ∧ ((w.setCell ⟨b, k * 2, none⟩ (.int .i64 x)).setCell ⟨b, k * 2 + 1, none⟩ (.int .i64 y)).there b 0 n := by
  subst hn
  have c0 := (ht (k * 2) (by omega)).1
  have c1 := (ht (k * 2 + 1) (by omega)).1
  obtain ⟨u0, hu0⟩ := Option.isSome_iff_exists.1 c0
  obtain ⟨u1, hu1⟩ := Option.isSome_iff_exists.1 c1
  simp only [Nat.zero_add] at hu0 hu1
  have hu1' : (w.setCell ⟨b, k * 2, none⟩ (.int .i64 x)).cell? ⟨b, k * 2 + 1, none⟩ = some u1 := by
    rw [World.cell?_setCell_other _ _ _ _ (by simp)]; exact hu1
  constructor
  · intro j hj
    simp only [List.length_take] at hj
    simp only [Nat.zero_add]
    by_cases e : j = k
    · subst e
      have g : (ps.take (j + 1)).getD j (0, 0) = ps.getD j (0, 0) := by
        simp [List.getD_eq_getElem?_getD, List.getElem?_take]
      rw [g, hx, hy]
      refine ⟨?_, World.cell?_setCell_same _ _ _ hu1'⟩
      rw [World.cell?_setCell_other _ _ _ _ (by simp)]
      exact World.cell?_setCell_same _ _ _ hu0
    · have hj' : j < k := by omega
      have g : (ps.take (k + 1)).getD j (0, 0) = (ps.take k).getD j (0, 0) := by
        simp only [List.getD_eq_getElem?_getD, List.getElem?_take]
        rw [if_pos (by omega), if_pos (by omega)]
      rw [g]
      obtain ⟨h1, h2⟩ := h j (by simp; omega)
      simp only [Nat.zero_add] at h1 h2
      constructor
      · rw [World.cell?_setCell_other _ _ _ _ (by intro q; injection q; omega), World.cell?_setCell_other _ _ _ _ (by intro q; injection q; omega)]; exact h1
      · rw [World.cell?_setCell_other _ _ _ _ (by intro q; injection q; omega), World.cell?_setCell_other _ _ _ _ (by intro q; injection q; omega)]; exact h2
  · intro j hj
    obtain ⟨h1, h2⟩ := ht j hj
    refine ⟨?_, by rw [World.frozen?_setCell, World.frozen?_setCell]; exact h2⟩
    obtain ⟨u, hu⟩ := Option.isSome_iff_exists.1 h1
    obtain ⟨u', hu'⟩ := cell?_setCell_some (p := ⟨b, k * 2, none⟩) (x := .int .i64 x) hu
    obtain ⟨u'', hu''⟩ := cell?_setCell_some (p := ⟨b, k * 2 + 1, none⟩) (x := .int .i64 y) hu'
    rw [hu'']; rfl
theorem Tryz.infoPt : (Tryz.prog.info? 91).map (fun i => (i.zero, i.size, i.bytes)) = some (some (.agg #[.int .i64 0, .int .i64 0]), 2, 16) := by kernel_rfl
theorem make_points (n : Nat) (hn : n ≤ 1099511627776) (w : World) : (Instr.makeSlice 46 (.int .i64 n) (.int .i64 n)).run Tryz.prog w = .ok (.slice (some ⟨w.heap.size, 0, none⟩) n n) (w.alloc (.cells (madeCells #[.int .i64 0, .int .i64 0] (n * 2)) 91)) := by
  obtain ⟨i0, hi, hz0, hz1, hz2⟩ := info_parts Tryz.infoPt
  have := run_make (P := Tryz.prog) w 46 91 i0 _ Tryz.underlying46 hi hz0 .i64 .i64 n n (by omega) (by omega) (by rw [hz2]; omega) (by omega)
  rw [hz1] at this
  exact this
theorem made_own (w : World) (n : Nat) : (w.alloc (.cells (madeCells #[.int .i64 0, .int .i64 0] (n * 2)) 91)).there w.heap.size 0 (n * 2) := by
  intro j hj
  simp only [Nat.zero_add]
  refine ⟨?_, World.frozen?_alloc_new w _ _ j⟩
  rw [World.cell?_alloc_new, made_at n j hj]; rfl
theorem eq_point (a b c d : Int) (w : World) : Calls Tryz.prog 141 #[.agg #[.int .i64 a, .int .i64 b], .agg #[.int .i64 c, .int .i64 d]] w fun e w' => e = .returned (.bool (a == c && b == d)) ∧ Below w.heap.size w w' := by
  by_cases h1 : a = c
  · subst h1
    by_cases h2 : b = d
    · subst h2
      go_enter Tryz.func141, Tryz.ntmps141
      go_wp2_with fail
      go_ret
      exact ⟨by simp, balloc (balloc (Below.refl _ _) _) _⟩
    · have h2' : (b != d) = true := by rw [bne_iff_ne]; exact h2
      go_enter Tryz.func141, Tryz.ntmps141
      go_wp2_with fail
      go_ret
      exact ⟨by simp [h2], balloc (balloc (Below.refl _ _) _) _⟩
  · have h1' : (a != c) = true := by rw [bne_iff_ne]; exact h1
    go_enter Tryz.func141, Tryz.ntmps141
    go_wp2_with fail
    go_ret
    exact ⟨by simp [h1], balloc (balloc (Below.refl _ _) _) _⟩
end Go.Proofs.YtenlhgnobfadgaaGreatDoor
namespace Go.Proofs.YtenlhgnobfadgaaGreatDoor
open Go.RowKit
set_option linter.unusedSimpArgs false
set_option linter.unusedVariables false
theorem eq_point_same (a b : Int) (w : World) : Calls Tryz.prog 141 #[.agg #[.int .i64 a, .int .i64 b], .agg #[.int .i64 a, .int .i64 b]] w fun e w' => e = .returned (.bool true) ∧ Below w.heap.size w w' :=
  (eq_point a b a b w).mono fun e w' ⟨h1, h2⟩ => ⟨by rw [h1]; simp, h2⟩
set_option maxHeartbeats 1000000 in
theorem eq_points (a b : Option Addr) (cap cap' : Nat) (ps : List (Int × Int)) (w : World) (hm : ps.length ≤ 1099511627776) (hc : ps.length ≤ cap) (hc' : ps.length ≤ cap') (h : Pts w a ps) (h' : Pts w b ps) : Calls Tryz.prog 100 #[.slice a ps.length cap, .slice b ps.length cap'] w fun e w' => e = .returned (.bool true) ∧ Below w.heap.size w w' := by
  go_enter Tryz.func100, Tryz.ntmps100
  go_wp2_with fail
  go_loopw [5] (fun ti wr => ∃ k : Nat, ti = .int .i64 k ∧ k ≤ ps.length ∧ Below w.heap.size w wr) (fun ti _ => ps.length - (intOf ti).toNat)
  case atStart => exact ⟨0, rfl, Nat.zero_le _, Below.refl _ _⟩
  case round =>
    obtain ⟨k, rfl, hk, hb⟩ := hrel
    by_cases hlt : k < ps.length
    · rcases h with rfl | ⟨p, off, rfl, hps, hp⟩
      · simp at hlt
      rcases h' with rfl | ⟨q, off', rfl, hqs, hq⟩
      · simp at hlt
      obtain ⟨c0, c1⟩ := hp.below hps hb k hlt
      obtain ⟨d0, d1⟩ := hq.below hqs hb k hlt
      generalize hx : (ps.getD k (0, 0)).1 = x at c0 d0
      generalize hy : (ps.getD k (0, 0)).2 = y at c1 d1
      have Hp := hid hp
      have Hq := hid hq
      clear hx hy hp hq
      have hk0 : (0 : Int) ≤ (k : Int) := by omega
      have hk1 : (k : Int) < (ps.length : Int) := by omega
      go_wp2_with fail
      go_region_held3 (fun w' => w'.cell? ⟨p, off + k * 2, none⟩ = some (.int .i64 x) ∧ w'.cell? ⟨p, off + k * 2 + 1, none⟩ = some (.int .i64 y) ∧ w'.cell? ⟨q, off' + k * 2, none⟩ = some (.int .i64 x) ∧ w'.cell? ⟨q, off' + k * 2 + 1, none⟩ = some (.int .i64 y)) (first | (obtain ⟨zz0, zz1, zz2, zz3⟩ := (by with_reducible assumption : _ ∧ _); (repeat' apply And.intro) <;> (repeat (first | with_reducible assumption | refine keepcell (by with_reducible assumption) ?_ | refine keepdrew ?_ | refine keepalloc ?_ _)); done) | ((repeat' apply And.intro) <;> (repeat (first | with_reducible assumption | (refine newcell _ _ _ _ _ _ ?_ rfl; simp; done) | refine keepcell (by with_reducible assumption) ?_ | refine keepdrew ?_ | refine keepalloc ?_ _))))
        (first
          | (go_at_call 141; refine (eq_point_same _ _ _).mono ?_; rintro e w1 ⟨rfl, hb1⟩))
      go_wp2_with fail
      go_roundw
      case rel => exact ⟨k + 1, by go_num, by omega, by (repeat (first | exact Below.refl _ _ | (refine btrans ?_ (by with_reducible assumption)) | refine bdrew ?_ | refine balloc ?_ _))⟩
      case measure => simp [intOf]; omega
    · have hk' : k = ps.length := by omega
      go_wp2_with fail
      go_ret
      exact ⟨rfl, hb⟩
set_option maxHeartbeats 400000 in
theorem impl_behind (a : Option Addr) (cap : Nat) (ps : List (Int × Int)) (k : Nat) (w : World) (hm : ps.length ≤ 1099511627776) (hc : ps.length ≤ cap) (hk : k < ps.length) (h : Pts w a ps) : Calls Tryz.prog 258 #[.slice a ps.length cap, .int .i64 k] w fun e w' => e = .returned (.agg #[.int .i64 (ps.getD ((k + 1) % ps.length) (0, 0)).1, .int .i64 (ps.getD ((k + 1) % ps.length) (0, 0)).2]) ∧ Below w.heap.size w w' := by
  rcases h with rfl | ⟨b, off, rfl, hbs, hp⟩
  · simp at hk
  have hj : (k + 1) % ps.length < ps.length := Nat.mod_lt _ (by omega)
  obtain ⟨c0, c1⟩ := hp ((k + 1) % ps.length) hj
  have e1 : ((k : Int) + 1).tmod (ps.length : Int) = (((k + 1) % ps.length : Nat) : Int) := by
    rw [show ((k : Int) + 1) = ((k + 1 : Nat) : Int) by omega]; rfl
  have hz : ¬ ((ps.length : Int) = 0) := by omega
  generalize hx : (ps.getD ((k + 1) % ps.length) (0, 0)).1 = x at c0
  generalize hy : (ps.getD ((k + 1) % ps.length) (0, 0)).2 = y at c1
  generalize hjj : (k + 1) % ps.length = j at *
  have Hp := hid hp
  clear hp hx hy hjj
  go_enter Tryz.func258, Tryz.ntmps258
  go_wp2_with fail
  exact bodyPost_ret (v := .agg #[.int .i64 x, .int .i64 y]) (by simp [results, Tryz.results258, go_sem]) rfl ⟨rfl, (Below.refl _ _).alloc (Nat.le_refl _) _⟩
end Go.Proofs.YtenlhgnobfadgaaGreatDoor
namespace Go.Proofs.YtenlhgnobfadgaaGreatDoor
open Go.RowKit
set_option linter.unusedSimpArgs false
set_option linter.unusedVariables false
/-- The point behind the k-th: the last goes back to the first. -/
def nxt (ps : List (Int × Int)) (k : Nat) : Int × Int := ps.getD ((k + 1) % ps.length) (0, 0)
def areaTo (ps : List (Int × Int)) : Nat → Int
  | 0 => 0
  | k + 1 => areaTo ps k + ((ps.getD k (0, 0)).1 * (nxt ps k).2 - (nxt ps k).1 * (ps.getD k (0, 0)).2)
def area2 (ps : List (Int × Int)) : Int := if ps.length ≤ 1000 ∧ allok ps = true then areaTo ps ps.length else 0
theorem allok_in {ps : List (Int × Int)} (h : allok ps = true) (k : Nat) (hk : k < ps.length) : In (ps.getD k (0, 0)).1 ∧ In (ps.getD k (0, 0)).2 := by
  rw [allok, List.all_eq_true] at h
  refine in_of_pok (h _ ?_)
  rw [List.getD_eq_getElem?_getD, List.getElem?_eq_getElem hk]
  exact List.getElem_mem hk
theorem nxt_in {ps : List (Int × Int)} (h : allok ps = true) (k : Nat) (hk : k < ps.length) : In (nxt ps k).1 ∧ In (nxt ps k).2 :=
  allok_in h _ (Nat.mod_lt _ (by omega))
theorem side_bd {x y u v : Int} (h1 : In x) (h2 : In y) (h3 : In u) (h4 : In v) : (-3600000000 ≤ x * v ∧ x * v ≤ 3600000000) ∧ (-3600000000 ≤ u * y ∧ u * y ≤ 3600000000) := by
  unfold In at *
  exact ⟨mulb x v (by omega) (by omega) (by omega) (by omega), mulb u y (by omega) (by omega) (by omega) (by omega)⟩
theorem area_bd {ps : List (Int × Int)} (h : allok ps = true) : ∀ k, k ≤ ps.length → -(7200000000 * (k : Int)) ≤ areaTo ps k ∧ areaTo ps k ≤ 7200000000 * (k : Int)
  | 0, _ => by simp [areaTo]
  | k + 1, hk => by
    obtain ⟨a, b⟩ := area_bd h k (by omega)
    obtain ⟨c, d⟩ := allok_in h k (by omega)
    obtain ⟨e, f⟩ := nxt_in h k (by omega)
    have := side_bd c d e f
    rw [areaTo]
    omega
set_option maxHeartbeats 1000000 in
theorem impl_Area2 (a : Option Addr) (cap : Nat) (ps : List (Int × Int)) (w : World) (hm : ps.length ≤ 1099511627776) (hc : ps.length ≤ cap) (h : Pts w a ps) : Calls Tryz.prog 254 #[.slice a ps.length cap] w fun e w' => e = .returned (.int .i64 (area2 ps)) ∧ Below w.heap.size w w' := by
  by_cases hl : (1000 : Int) < (ps.length : Int)
  · have hv : area2 ps = 0 := by unfold area2; rw [if_neg (by omega)]
    go_enter Tryz.func254, Tryz.ntmps254
    go_wp2_with fail
    go_ret
    exact ⟨by rw [hv]; rfl, Below.refl _ _⟩
  cases ha : allok ps
  · have hv : area2 ps = 0 := by unfold area2; rw [if_neg (by simp [ha])]
    have hb := impl_all a cap ps w hm hc h
    rw [ha] at hb
    have Hb := hid hb
    clear hb
    go_enter Tryz.func254, Tryz.ntmps254
    go_wp2_with fail
    refine (Hb.out).mono ?_
    rintro e w1 ⟨rfl, hb1⟩
    go_wp2_with fail
    go_ret
    exact ⟨by rw [hv]; rfl, hb1⟩
  have hv : area2 ps = areaTo ps ps.length := by unfold area2; rw [if_pos ⟨by omega, ha⟩]
  have Hv := hid hv
  have Ha := hid ha
  have hall := impl_all a cap ps w hm hc h
  rw [ha] at hall
  have Hall := hid hall
  have Hh := hid h
  clear hv ha hall h
  go_enter Tryz.func254, Tryz.ntmps254
  go_wp2_with fail
  refine (Hall.out).mono ?_
  rintro e w1 ⟨rfl, hb1⟩
  go_wp2_with fail
  go_loopw [3, 16] (fun ts ti wr => ∃ k : Nat, ts = .int .i64 (areaTo ps k) ∧ ti = .int .i64 k ∧ k ≤ ps.length ∧ Below w.heap.size w wr) (fun _ ti _ => ps.length - (intOf ti).toNat)
  case atStart => exact ⟨0, rfl, rfl, Nat.zero_le _, hb1⟩
  case round =>
    obtain ⟨k, rfl, rfl, hk, hb⟩ := hrel
    have hB := area_bd Ha.out k hk
    by_cases hlt : k < ps.length
    · have hp := Hh.out.below hb
      have hbh : ∀ w', Pts w' a ps → Calls Tryz.prog 258 #[.slice a ps.length cap, .int .i64 k] w' fun e w'' => e = .returned (.agg #[.int .i64 (nxt ps k).1, .int .i64 (nxt ps k).2]) ∧ Below w'.heap.size w' w'' := fun w' hw' => impl_behind a cap ps k w' hm hc hlt hw'
      obtain ⟨i1, i2⟩ := allok_in Ha.out k hlt
      obtain ⟨i3, i4⟩ := nxt_in Ha.out k hlt
      have hs : Hid (areaTo ps (k + 1) = areaTo ps k + ((ps.getD k (0, 0)).1 * (nxt ps k).2 - (nxt ps k).1 * (ps.getD k (0, 0)).2)) := hid rfl
      rcases hp with rfl | ⟨b, off, rfl, hbs, hq⟩
      · simp at hlt
      obtain ⟨c0, c1⟩ := hq k hlt
      generalize (ps.getD k (0, 0)).1 = x at *
      generalize (ps.getD k (0, 0)).2 = y at *
      generalize (nxt ps k).1 = u at *
      generalize (nxt ps k).2 = v at *
      generalize areaTo ps k = s at *
      have Hq := hid hq
      have Hbh := hid hbh
      clear hq hbh
      have hsb := side_bd i1 i2 i3 i4
      obtain ⟨⟨s1, s2⟩, s3, s4⟩ := hsb
      obtain ⟨s5, s6⟩ := hB
      have hcr := fun w' => impl_cross x y u v (by unfold In at i1; omega) (by unfold In at i2; omega) (by unfold In at i3; omega) (by unfold In at i4; omega) w'
      have Hcr := hid hcr
      clear hcr i1 i2 i3 i4
      have hk0 : (0 : Int) ≤ (k : Int) := by omega
      have hk1 : (k : Int) < (ps.length : Int) := by omega
      have hw1 : IntKind.i64.wrap (s + (x * v - u * y)) = s + (x * v - u * y) := by rw [IntKind.wrap_i64]; omega
      go_wp2_with fail
      go_region_held3 (fun w' => w'.cell? ⟨wr.heap.size, 0, none⟩ = some (.int .i64 x) ∧ w'.cell? ⟨wr.heap.size, 1, none⟩ = some (.int .i64 y)) ((go_split_ands; (repeat' apply And.intro) <;> (repeat (first | with_reducible assumption | (refine newcell _ _ _ _ _ _ ?_ rfl; simp; done) | refine keepcell (by with_reducible assumption) ?_ | refine keepdrew ?_ | refine keepalloc ?_ _))))
        (first
          | (go_at_call 258; refine (Hbh.out _ ?_).mono ?_; exact Hh.out.below (by (repeat (first | exact Below.refl _ _ | (refine btrans ?_ (by with_reducible assumption)) | refine bdrew ?_ | refine balloc ?_ _))); rintro e w2 ⟨rfl, hb2⟩)
          | (go_at_call 257; refine (Hcr.out _).mono ?_; rintro e w3 ⟨rfl, hb3⟩))
      go_wp2_with fail
      go_roundw
      case rel => exact ⟨k + 1, by rw [hs.out], by go_num, by omega, by (repeat (first | exact Below.refl _ _ | (refine btrans ?_ (by with_reducible assumption)) | refine bdrew ?_ | refine balloc ?_ _))⟩
      case measure => simp [intOf]; omega
    · have hk' : k = ps.length := by omega
      subst hk'
      go_wp2_with fail
      go_ret
      exact ⟨by rw [Hv.out]; rfl, hb⟩
set_option maxHeartbeats 1000000 in
theorem spec_Area2 (a : Option Addr) (cap : Nat) (ps : List (Int × Int)) (w : World) (hm : ps.length ≤ 1099511627776) (hc : ps.length ≤ cap) (h : Pts w a ps) : Calls Tryz.prog 126 #[.slice a ps.length cap] w fun e w' => e = .returned (.int .i64 (area2 ps)) ∧ Below w.heap.size w w' := by
  cases ha : allok ps
  · have hv : area2 ps = 0 := by unfold area2; rw [if_neg (by simp [ha])]
    have hb := spec_all a cap ps w hm hc h
    rw [ha] at hb
    have Hb := hid hb
    clear hb
    go_enter Tryz.func126, Tryz.ntmps126
    go_wp2_with fail
    refine (Hb.out).mono ?_
    rintro e w1 ⟨rfl, hb1⟩
    go_wp2_with fail
    go_ret
    exact ⟨by rw [hv]; rfl, hb1⟩
  have hall := spec_all a cap ps w hm hc h
  rw [ha] at hall
  have Hall := hid hall
  clear hall
  by_cases hl : (1000 : Int) < (ps.length : Int)
  · have hv : area2 ps = 0 := by unfold area2; rw [if_neg (by omega)]
    go_enter Tryz.func126, Tryz.ntmps126
    go_wp2_with fail
    refine (Hall.out).mono ?_
    rintro e w1 ⟨rfl, hb1⟩
    go_wp2_with fail
    go_ret
    exact ⟨by rw [hv]; rfl, hb1⟩
  have hv : area2 ps = areaTo ps ps.length := by unfold area2; rw [if_pos ⟨by omega, ha⟩]
  have Hv := hid hv
  have Ha := hid ha
  have Hh := hid h
  clear hv ha h
  go_enter Tryz.func126, Tryz.ntmps126
  go_wp2_with fail
  refine (Hall.out).mono ?_
  rintro e w1 ⟨rfl, hb1⟩
  go_wp2_with fail
  go_loopw [3, 4] (fun ts ti wr => ∃ k : Nat, ts = .int .i64 (areaTo ps k) ∧ ti = .int .i64 k ∧ k ≤ ps.length ∧ Below w.heap.size w wr) (fun _ ti _ => ps.length - (intOf ti).toNat)
  case atStart => exact ⟨0, rfl, rfl, Nat.zero_le _, hb1⟩
  case round =>
    obtain ⟨k, rfl, rfl, hk, hb⟩ := hrel
    have hB := area_bd Ha.out k hk
    by_cases hlt : k < ps.length
    · have hp := Hh.out.below hb
      obtain ⟨i1, i2⟩ := allok_in Ha.out k hlt
      obtain ⟨i3, i4⟩ := nxt_in Ha.out k hlt
      have hs : Hid (areaTo ps (k + 1) = areaTo ps k + ((ps.getD k (0, 0)).1 * (nxt ps k).2 - (nxt ps k).1 * (ps.getD k (0, 0)).2)) := hid rfl
      rcases hp with rfl | ⟨b, off, rfl, hbs, hq⟩
      · simp at hlt
      obtain ⟨c0, c1⟩ := hq k hlt
      have hj : (k + 1) % ps.length < ps.length := Nat.mod_lt _ (by omega)
      obtain ⟨d0, d1⟩ := hq _ hj
      have e1 : ((k : Int) + 1).tmod (ps.length : Int) = (((k + 1) % ps.length : Nat) : Int) := by
        rw [show ((k : Int) + 1) = ((k + 1 : Nat) : Int) by omega]; rfl
      have hz : ¬ ((ps.length : Int) = 0) := by omega
      have hz1 : ¬ ps = [] := by rintro rfl; simp at hlt
      have hz2 : ¬ ps.length = 0 := by omega
      have e3 : nxt ps k = ps.getD ((k + 1) % ps.length) (0, 0) := rfl
      rw [← e3] at d0 d1
      generalize (ps.getD k (0, 0)).1 = x at *
      generalize (ps.getD k (0, 0)).2 = y at *
      clear e3
      generalize (nxt ps k).1 = u at *
      generalize (nxt ps k).2 = v at *
      generalize areaTo ps k = s at *
      generalize (k + 1) % ps.length = j at *
      have Hq := hid hq
      clear hq
      have hsb := side_bd i1 i2 i3 i4
      obtain ⟨⟨s1, s2⟩, s3, s4⟩ := hsb
      obtain ⟨s5, s6⟩ := hB
      clear i1 i2 i3 i4
      have hk0 : (0 : Int) ≤ (k : Int) := by omega
      have hk1 : (k : Int) < (ps.length : Int) := by omega
      have hj0 : (0 : Int) ≤ (j : Int) := by omega
      have hj1 : (j : Int) < (ps.length : Int) := by omega
      have hadd : IntKind.i64.wrap ((k : Int) + 1) = (k : Int) + 1 := by rw [IntKind.wrap_i64]; omega
      go_wp2_with fail
      go_region_held3 (fun w' => w'.cell? ⟨b, off + k * 2, none⟩ = some (.int .i64 x) ∧ w'.cell? ⟨b, off + k * 2 + 1, none⟩ = some (.int .i64 y) ∧ w'.cell? ⟨b, off + j * 2, none⟩ = some (.int .i64 u) ∧ w'.cell? ⟨b, off + j * 2 + 1, none⟩ = some (.int .i64 v)) ((go_split_ands; (repeat' apply And.intro) <;> (repeat (first | with_reducible assumption | (refine newcell _ _ _ _ _ _ ?_ rfl; simp; done) | refine keepcell (by with_reducible assumption) ?_ | refine keepdrew ?_ | refine keepalloc ?_ _))))
        (first
          | (fail))
      all_goals
        go_wp2_with fail
        go_roundw
        case rel => exact ⟨k + 1, by rw [hs.out]; go_num, by go_num, by omega, by (repeat (first | exact Below.refl _ _ | (refine btrans ?_ (by with_reducible assumption)) | refine bdrew ?_ | refine balloc ?_ _))⟩
        case measure => simp [intOf]; omega
    · have hk' : k = ps.length := by omega
      subst hk'
      go_wp2_with fail
      go_ret
      exact ⟨by rw [Hv.out]; rfl, hb⟩
end Go.Proofs.YtenlhgnobfadgaaGreatDoor
