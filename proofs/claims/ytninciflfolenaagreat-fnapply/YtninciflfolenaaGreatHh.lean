/- What is alike is told so. -/
import Derived.Test.YtninciflfolenaaGreatJ16
import Derived.BigQuiet
namespace Go.Proofs.YtninciflfolenaaGreat
open Go.RowKit
set_option linter.unusedSimpArgs false
set_option linter.unusedVariables false
theorem keepheapH {w w' : World} (hb : Below w.heap.size w w') {b : Nat} {o : Obj} (h : w.heap[b]? = some o) : w'.heap[b]? = some o := keepheap2 hb h
set_option maxRecDepth 100000 in
set_option maxHeartbeats 1000000 in
theorem same_shp (k : Int) (a b : Option Addr) (cap cap' : Nat) (ps : List (Int × Int)) (w : World) (hm : ps.length ≤ 1099511627776) (hc : ps.length ≤ cap) (hc' : ps.length ≤ cap') (h : Pts w a ps) (h' : Pts w b ps) : Calls Tryz.prog 13 #[shv k a ps.length cap, shv k b ps.length cap'] w fun e w' => e = .returned (.bool true) ∧ Below w.heap.size w w' := by
  have HP := hid h
  have HQ := hid h'
  clear h h'
  go_enter Tryz.func13, Tryz.ntmps13
  go_wp2_with fail
  have gA : ((w.alloc (.cells #[.int .i64 k, .slice a ps.length cap] 37)).alloc (.cells #[.int .i64 k, .slice b ps.length cap'] 37)).heap[w.heap.size]? = some (.cells #[.int .i64 k, .slice a ps.length cap] 37 (0, 0)) := old_alloc (new_alloc _ _ _ rfl)
  have gB : ((w.alloc (.cells #[.int .i64 k, .slice a ps.length cap] 37)).alloc (.cells #[.int .i64 k, .slice b ps.length cap'] 37)).heap[w.heap.size + 1]? = some (.cells #[.int .i64 k, .slice b ps.length cap'] 37 (0, 0)) := new_alloc _ _ _ (by simp)
  have hB0 : Below w.heap.size w ((w.alloc (.cells #[.int .i64 k, .slice a ps.length cap] 37)).alloc (.cells #[.int .i64 k, .slice b ps.length cap'] 37)) := balloc (balloc (Below.refl _ _) _) _
  generalize (w.alloc (.cells #[.int .i64 k, .slice a ps.length cap] 37)).alloc (.cells #[.int .i64 k, .slice b ps.length cap'] 37) = W at *
  go_loopw [5] (fun ti wr => ∃ j : Nat, ti = .int .i64 j ∧ j ≤ ps.length ∧ Below W.heap.size W wr) (fun ti _ => ps.length - (intOf ti).toNat)
  case atStart => exact ⟨0, rfl, Nat.zero_le _, Below.refl _ _⟩
  case round =>
    obtain ⟨j, rfl, hj, hb⟩ := hrel
    have hBw := btrans hB0 hb
    obtain ⟨a0, a1, _, _⟩ := cell2g (keepheapH hb gA)
    obtain ⟨b0, b1, _, _⟩ := cell2g (keepheapH hb gB)
    by_cases hlt : j < ps.length
    · obtain ⟨p, off, rfl, hps, hp⟩ : ∃ p off, a = some ⟨p, off, none⟩ ∧ p < w.heap.size ∧ PtsAt w p off ps := by
        rcases HP.out with h | h
        · rw [h] at hlt; simp at hlt
        · exact h
      obtain ⟨q, off', rfl, hqs, hq⟩ : ∃ p off, b = some ⟨p, off, none⟩ ∧ p < w.heap.size ∧ PtsAt w p off ps := by
        rcases HQ.out with h | h
        · rw [h] at hlt; simp at hlt
        · exact h
      obtain ⟨c0, c1⟩ := hp.below hps hBw j hlt
      obtain ⟨d0, d1⟩ := hq.below hqs hBw j hlt
      generalize (ps.getD j (0, 0)).1 = x at *
      generalize (ps.getD j (0, 0)).2 = y at *
      clear hp hq
      have hk0 : (0 : Int) ≤ (j : Int) := by omega
      have hk1 : (j : Int) < (ps.length : Int) := by omega
      go_wp2_with fail
      go_quiet (fail)
      go_wp2_with fail
      go_roundw
      case rel => exact ⟨j + 1, by go_num, by omega, by (repeat (first | with_reducible exact hb | with_reducible exact Below.refl _ _ | (with_reducible refine btrans ?_ (by with_reducible assumption)) | with_reducible refine bdrew ?_ | exact ⟨hb.os, hb.tape, hb.output, hb.size, hb.block⟩ | with_reducible refine balloc ?_ _))⟩
      case measure => simp [intOf]; omega
    · have hk1 : ¬ (j : Int) < (ps.length : Int) := by omega
      go_wp2_with fail
      go_ret
      exact ⟨rfl, hBw⟩
set_option maxHeartbeats 1000000 in
theorem same_ints (a b : Option Addr) (cap cap' : Nat) (zs : List Int) (w : World) (hm : zs.length ≤ 1099511627776) (p1 : OwnI w a zs) (p2 : OwnI w b zs) : Calls Tryz.prog 32 #[.slice a zs.length cap, .slice b zs.length cap'] w fun e w' => e = .returned (.bool true) ∧ Below w.heap.size w w' := by
  have HP1 := hid p1
  have HP2 := hid p2
  clear p1 p2
  obtain ⟨n, hn⟩ : ∃ n, n = zs.length := ⟨_, rfl⟩
  have HN := hid hn.symm
  rw [← hn] at hm ⊢
  clear hn
  go_enter Tryz.func32, Tryz.ntmps32
  go_wp2_with fail
  go_loopw [5] (fun ti wr => ∃ k : Nat, ti = .int .i64 k ∧ k ≤ n ∧ Hid (Below w.heap.size w wr)) (fun ti _ => n - (intOf ti).toNat)
  case atStart => exact ⟨0, rfl, Nat.zero_le _, hid (Below.refl _ _)⟩
  case round =>
    obtain ⟨k, rfl, hk, HB⟩ := hrel
    by_cases hlt : k < n
    · have c1 : (k : Int) < (n : Int) := by omega
      obtain ⟨b1, rfl, d1, _⟩ := (HP1.out.below HB.out).at (k := k) (by rw [HN.out]; exact hlt)
      obtain ⟨b2, rfl, d2, _⟩ := (HP2.out.below HB.out).at (k := k) (by rw [HN.out]; exact hlt)
      generalize zs.getD k 0 = z at *
      go_wp2_with fail
      go_quiet (fail)
      go_wp2_with fail
      go_roundw
      case rel => exact ⟨k + 1, by go_num, by omega, hid (HB.out.trans ⟨rfl, rfl, rfl, Nat.le_refl _, fun _ _ => rfl⟩)⟩
      case measure => simp [intOf]; omega
    · have c1 : (n : Int) ≤ (k : Int) := by omega
      go_wp2_with fail
      go_ret
      exact ⟨rfl, HB.out⟩
theorem cell5h {w : World} {p : Nat} {a b c d e : Value} {t : TypeId} (h : w.heap[p]? = some (.cells #[a, b, c, d, e] t (0, 0))) : (w.cell? ⟨p, 0, none⟩ = some a ∧ w.cell? ⟨p, 1, none⟩ = some b ∧ w.cell? ⟨p, 2, none⟩ = some c ∧ w.cell? ⟨p, 3, none⟩ = some d ∧ w.cell? ⟨p, 4, none⟩ = some e) ∧ w.frozen? ⟨p, 0, none⟩ = false ∧ w.frozen? ⟨p, 1, none⟩ = false ∧ w.frozen? ⟨p, 2, none⟩ = false ∧ w.frozen? ⟨p, 3, none⟩ = false ∧ w.frozen? ⟨p, 4, none⟩ = false := by
  refine ⟨⟨?_, ?_, ?_, ?_, ?_⟩, ?_, ?_, ?_, ?_, ?_⟩ <;> simp [World.cell?, World.frozen?, h]
/-- Two rows in blocks of their own. -/
def SQ (W : World) (o1 o2 : Array Value) (t6 t7 : Value) (wx : World) : Prop := ∃ X Y, t6 = .pointer (some ⟨X, 0, none⟩) ∧ t7 = .pointer (some ⟨Y, 0, none⟩) ∧ wx.heap[X]? = some (.cells o1 55 (0, 0)) ∧ wx.heap[Y]? = some (.cells o2 55 (0, 0)) ∧ Below W.heap.size W wx
theorem SQ.mk {W wx : World} {o1 o2 : Array Value} {X Y : Nat} (h1 : wx.heap[X]? = some (.cells o1 55 (0, 0))) (h2 : wx.heap[Y]? = some (.cells o2 55 (0, 0))) (h3 : Below W.heap.size W wx) : SQ W o1 o2 (.pointer (some ⟨X, 0, none⟩)) (.pointer (some ⟨Y, 0, none⟩)) wx := ⟨X, Y, rfl, rfl, h1, h2, h3⟩
set_option maxRecDepth 100000 in
set_option maxHeartbeats 16000000 in
theorem same_rows {N N' : Nat → Prop} (now : Int) (a b : Option Addr) (cap cap' : Nat) (rs : List Rw) (w : World) (hm : rs.length ≤ 1099511627776) (h : Rws N w a rs) (h' : Rws N' w b rs) : Calls Tryz.prog 8 #[.agg #[.int .i64 now, .slice a rs.length cap], .agg #[.int .i64 now, .slice b rs.length cap']] w fun e w' => e = .returned (.bool true) ∧ Below w.heap.size w w' := by
  have HP := hid h
  have HQ := hid h'
  clear h h'
  obtain ⟨n, hn⟩ : ∃ n, n = rs.length := ⟨_, rfl⟩
  have HN := hid hn.symm
  rw [← hn] at hm ⊢
  clear hn
  have hB0 : Below w.heap.size w ((w.alloc (.cells #[.int .i64 now, .slice a n cap] 26)).alloc (.cells #[.int .i64 now, .slice b n cap'] 26)) := balloc (balloc (Below.refl _ _) _) _
  have g0 := old_alloc (o' := .cells #[.int .i64 now, .slice b n cap'] 26) (new_alloc w w.heap.size (.cells #[.int .i64 now, .slice a n cap] 26) rfl)
  have g1 := new_alloc (w.alloc (.cells #[.int .i64 now, .slice a n cap] 26)) (w.heap.size + 1) (.cells #[.int .i64 now, .slice b n cap'] 26) (by simp)
  go_enter Tryz.func8, Tryz.ntmps8
  go_upto_region 1 with fail
  generalize (w.alloc (.cells #[.int .i64 now, .slice a n cap] 26)).alloc (.cells #[.int .i64 now, .slice b n cap'] 26) = W0 at *
  obtain ⟨d0, d1, _, _⟩ := cell2f g0
  obtain ⟨f0, f1, _, _⟩ := cell2f g1
  go_wp2_with fail
  go_loopw [5] (fun ti wr => ∃ k : Nat, ti = .int .i64 k ∧ k ≤ n ∧ Hid (Below W0.heap.size W0 wr)) (fun ti _ => n - (intOf ti).toNat)
  case atStart => exact ⟨0, rfl, Nat.zero_le _, hid (Below.refl _ _)⟩
  case round =>
    clear d0 d1 f0 f1
    obtain ⟨k, rfl, hk, HB⟩ := hrel
    have hbw := btrans hB0 HB.out
    obtain ⟨d0, d1, _, _⟩ := cell2f (keepheap2 HB.out g0)
    obtain ⟨f0, f1, _, _⟩ := cell2f (keepheap2 HB.out g1)
    by_cases hlt : k < n
    · have c1 : (k : Int) < (n : Int) := by omega
      have hkr : k < rs.length := by rw [HN.out]; exact hlt
      obtain ⟨b1, o1, rfl, hb1, a1, p1, k0, k1, k2, k3, k4, k5, k6, k7, _⟩ := (HP.out.below hbw).at k hkr
      obtain ⟨b2, o2, rfl, hb2, a2, p2, j0, j1, j2, j3, j4, j5, j6, j7, _⟩ := (HQ.out.below hbw).at k hkr
      obtain ⟨r, hr⟩ : ∃ r, r = rs[k] := ⟨_, rfl⟩
      rw [← hr] at k0 k1 k2 k3 k4 k5 k6 k7 j0 j1 j2 j3 j4 j5 j6 j7
      clear hr
      obtain ⟨id, fr, te, kd, ps⟩ := r
      simp only at k0 k1 k2 k3 k4 k5 k6 k7 j0 j1 j2 j3 j4 j5 j6 j7
      have HK7 := hid k7
      have HJ7 := hid j7
      clear k7 j7
      go_upto_region 6 with fail
      go_cut [6, 7] from 22 to 65 (fun t6 t7 wx => SQ wr #[.int .i64 id, .int .i64 fr, .int .i64 te, .int .i64 kd, .slice a1 ps.length p1] #[.int .i64 id, .int .i64 fr, .int .i64 te, .int .i64 kd, .slice a2 ps.length p2] t6 t7 wx)
      case first =>
        refine wp_region_held_drew (S := (fun w' => w'.cell? ⟨w.heap.size, 1, none⟩ = some (.slice (some ⟨b1, o1, none⟩) n cap) ∧ w'.cell? ⟨(w.heap.size + 1), 1, none⟩ = some (.slice (some ⟨b2, o2, none⟩) n cap') ∧ w'.cell? ⟨b1, (o1 + k * 5), none⟩ = some (.int .i64 id) ∧ w'.cell? ⟨b1, (o1 + k * 5 + 1), none⟩ = some (.int .i64 fr) ∧ w'.cell? ⟨b1, (o1 + k * 5 + 2), none⟩ = some (.int .i64 te) ∧ w'.cell? ⟨b1, (o1 + k * 5 + 3), none⟩ = some (.int .i64 kd) ∧ w'.cell? ⟨b1, (o1 + k * 5 + 4), none⟩ = some (.slice a1 ps.length p1) ∧ w'.cell? ⟨b2, (o2 + k * 5), none⟩ = some (.int .i64 id) ∧ w'.cell? ⟨b2, (o2 + k * 5 + 1), none⟩ = some (.int .i64 fr) ∧ w'.cell? ⟨b2, (o2 + k * 5 + 2), none⟩ = some (.int .i64 te) ∧ w'.cell? ⟨b2, (o2 + k * 5 + 3), none⟩ = some (.int .i64 kd) ∧ w'.cell? ⟨b2, (o2 + k * 5 + 4), none⟩ = some (.slice a2 ps.length p2))) (by kernel_rfl) ?_ (fun hHeld => ?_)
        · (repeat' apply And.intro) <;> (first | with_reducible assumption | (with_reducible refine keepdrew ?_; with_reducible assumption))
        have hbz : Below wr.heap.size wr wr.drew := bdrew (Below.refl _ _)
        generalize wr.drew = Z0 at *
        have hbw0 := hbz.size
        refine wpAnyH_take (i := 0) (v := ?_) rfl (by kernel_rfl) (by kernel_rfl) (by kernel_rfl) (fun _ _ _ h => h) (Or.inl ⟨by rfl, ?_⟩) hHeld ?_
        rotate_left
        · intro w hSw; (try dsimp only at hSw); go_simp; try (with_reducible rfl)
        try simp only [sq]
        refine wpAnyH_take (i := 1) (v := ?_) rfl (by kernel_rfl) (by kernel_rfl) (by kernel_rfl) (fun _ _ _ h => h) (Or.inl ⟨by rfl, ?_⟩) hHeld ?_
        rotate_left
        · intro w hSw; (try dsimp only at hSw); go_simp; try (with_reducible rfl)
        try simp only [sq]
        refine wpAnyH_take (i := 2) (v := ?_) rfl (by kernel_rfl) (by kernel_rfl) (by kernel_rfl) (fun _ _ _ h => h) (Or.inl ⟨by rfl, ?_⟩) hHeld ?_
        rotate_left
        · intro w hSw; (try dsimp only at hSw); go_simp; try (with_reducible rfl)
        try simp only [sq]
        refine wpAnyH_take (i := 3) (v := ?_) rfl (by kernel_rfl) (by kernel_rfl) (by kernel_rfl) (fun _ _ _ h => h) (Or.inl ⟨by rfl, ?_⟩) hHeld ?_
        rotate_left
        · intro w hSw; (try dsimp only at hSw); go_simp; try (with_reducible rfl)
        try simp only [sq]
        refine wpAnyH_take (i := 4) (v := ?_) rfl (by kernel_rfl) (by kernel_rfl) (by kernel_rfl) (fun _ _ _ h => h) (Or.inl ⟨by rfl, ?_⟩) hHeld ?_
        rotate_left
        · intro w hSw; (try dsimp only at hSw); go_simp; try (with_reducible rfl)
        try simp only [sq]
        refine wpAnyH_take (i := 5) (v := ?_) rfl (by kernel_rfl) (by kernel_rfl) (by kernel_rfl) (fun _ _ _ h => h) (Or.inl ⟨by rfl, ?_⟩) hHeld ?_
        rotate_left
        · intro w hSw; (try dsimp only at hSw); go_simp; try (with_reducible rfl)
        try simp only [sq]
        refine wpAnyH_take (i := 6) (v := ?_) rfl (by kernel_rfl) (by kernel_rfl) (by kernel_rfl) (fun _ _ _ h => h) (Or.inl ⟨by rfl, ?_⟩) hHeld ?_
        rotate_left
        · intro w hSw; (try dsimp only at hSw); go_simp; try (with_reducible rfl)
        try simp only [sq]
        refine wpAnyH_take (i := 7) (v := ?_) rfl (by kernel_rfl) (by kernel_rfl) (by kernel_rfl) (fun _ _ _ h => h) (Or.inl ⟨by rfl, ?_⟩) hHeld ?_
        rotate_left
        · intro w hSw; (try dsimp only at hSw); go_simp; try (with_reducible rfl)
        try simp only [sq]
        refine wpAnyH_take (i := 8) (v := ?_) rfl (by kernel_rfl) (by kernel_rfl) (by kernel_rfl) (fun _ _ _ h => h) (Or.inl ⟨by rfl, ?_⟩) hHeld ?_
        rotate_left
        · intro w hSw; (try dsimp only at hSw); go_simp; try (with_reducible rfl)
        try simp only [sq]
        refine wpAnyH_take (i := 9) (v := ?_) rfl (by kernel_rfl) (by kernel_rfl) (by kernel_rfl) (fun _ _ _ h => h) (Or.inl ⟨by rfl, ?_⟩) hHeld ?_
        rotate_left
        · intro w hSw; (try dsimp only at hSw); go_simp; try (with_reducible rfl)
        try simp only [sq]
        refine wpAnyH_ready (rs := [10, 11]) (by kernel_rfl) (by simp) ?_
        refine (AllReadyH.cons rfl (fun K hK => ?_) (AllReadyH.cons rfl (fun K hK => ?_) AllReadyH.nil))
        · skip
          try simp only [sq]
          go_simp
          have gX := heap_alloc_new Z0 (.cells #[.int .i64 0, .int .i64 0, .int .i64 0, .int .i64 0, .slice none 0 0] 55)
          replace hbz := balloc hbz (.cells #[.int .i64 0, .int .i64 0, .int .i64 0, .int .i64 0, .slice none 0 0] 55)
          refine hK.out _ _ ?_ (fun hHeld => ?_)
          · (go_split_ands; (repeat' apply And.intro) <;> (repeat (first | with_reducible assumption | with_reducible refine keepcell (by with_reducible assumption) ?_)))
          clear hK K
          try simp only [sq]
          generalize Z0.alloc (.cells #[.int .i64 0, .int .i64 0, .int .i64 0, .int .i64 0, .slice none 0 0] 55) = Z1 at *
          have hwX : wr.heap.size ≤ Z0.heap.size := hbw0
          generalize Z0.heap.size = X at *
          have hbw1 := hbz.size
          refine wpAnyH_ready (rs := [11]) (by kernel_rfl) (by simp) ?_
          refine (AllReadyH.cons rfl (fun K hK => ?_) AllReadyH.nil)
          try simp only [sq]
          go_simp
          have gY := heap_alloc_new Z1 (.cells #[.int .i64 0, .int .i64 0, .int .i64 0, .int .i64 0, .slice none 0 0] 55)
          replace hbz := balloc hbz (.cells #[.int .i64 0, .int .i64 0, .int .i64 0, .int .i64 0, .slice none 0 0] 55)
          have hYX := lt_of_block gX
          replace gX := old_alloc (o' := .cells #[.int .i64 0, .int .i64 0, .int .i64 0, .int .i64 0, .slice none 0 0] 55) gX
          refine hK.out _ _ ?_ (fun hHeld => ?_)
          · (go_split_ands; (repeat' apply And.intro) <;> (repeat (first | with_reducible assumption | with_reducible refine keepcell (by with_reducible assumption) ?_)))
          clear hK K
          try simp only [sq]
          generalize Z1.alloc (.cells #[.int .i64 0, .int .i64 0, .int .i64 0, .int .i64 0, .slice none 0 0] 55) = Z2 at *
          have hwY : wr.heap.size ≤ Z1.heap.size := hbw1
          generalize Z1.heap.size = Y at *
          have hbw2 := hbz.size
          refine wpAnyH_ready (rs := [12]) (by kernel_rfl) (by simp) ?_
          refine (AllReadyH.cons rfl (fun K hK => ?_) AllReadyH.nil)
          obtain ⟨⟨v0, v1, v2, v3, v4⟩, s0, s1, s2, s3, s4⟩ := cell5h gX
          have hbc := (bset (bset (bset (bset (bset hbz (q := X) (k := 0) hwX (.int .i64 id)) (q := X) (k := 1) hwX (.int .i64 fr)) (q := X) (k := 2) hwX (.int .i64 te)) (q := X) (k := 3) hwX (.int .i64 kd)) (q := X) (k := 4) hwX (.slice a1 ps.length p1))
          try simp only [sq]
          go_simp
          refine hK.out _ _ ?_ (fun hHeld => ?_)
          · (go_split_ands; (repeat' apply And.intro) <;> (repeat (first | with_reducible assumption | with_reducible refine keepcell (by with_reducible assumption) ?_)))
          clear hK K
          try simp only [sq]
          clear v0 v1 v2 v3 v4 s0 s1 s2 s3 s4
          replace gX : ((((((Z2.setCell ⟨X, 0, none⟩ (.int .i64 id)).setCell ⟨X, 1, none⟩ (.int .i64 fr)).setCell ⟨X, 2, none⟩ (.int .i64 te)).setCell ⟨X, 3, none⟩ (.int .i64 kd)).setCell ⟨X, 4, none⟩ (.slice a1 ps.length p1))).heap[X]? = some (.cells #[.int .i64 id, .int .i64 fr, .int .i64 te, .int .i64 kd, .slice a1 ps.length p1] 55 (0, 0)) := set_at (set_at (set_at (set_at (set_at gX))))
          replace gY : ((((((Z2.setCell ⟨X, 0, none⟩ (.int .i64 id)).setCell ⟨X, 1, none⟩ (.int .i64 fr)).setCell ⟨X, 2, none⟩ (.int .i64 te)).setCell ⟨X, 3, none⟩ (.int .i64 kd)).setCell ⟨X, 4, none⟩ (.slice a1 ps.length p1))).heap[Y]? = _ := set_far (set_far (set_far (set_far (set_far gY (by omega)) (by omega)) (by omega)) (by omega)) (by omega)
          replace hbz := hbc
          clear hbc
          generalize (((((Z2.setCell ⟨X, 0, none⟩ (.int .i64 id)).setCell ⟨X, 1, none⟩ (.int .i64 fr)).setCell ⟨X, 2, none⟩ (.int .i64 te)).setCell ⟨X, 3, none⟩ (.int .i64 kd)).setCell ⟨X, 4, none⟩ (.slice a1 ps.length p1)) = Z3 at *
          have hbw3 := hbz.size
          refine wpAnyH_ready (rs := [13]) (by kernel_rfl) (by simp) ?_
          refine (AllReadyH.cons rfl (fun K hK => ?_) AllReadyH.nil)
          obtain ⟨⟨v0, v1, v2, v3, v4⟩, s0, s1, s2, s3, s4⟩ := cell5h gY
          have hbc := (bset (bset (bset (bset (bset hbz (q := Y) (k := 0) hwY (.int .i64 id)) (q := Y) (k := 1) hwY (.int .i64 fr)) (q := Y) (k := 2) hwY (.int .i64 te)) (q := Y) (k := 3) hwY (.int .i64 kd)) (q := Y) (k := 4) hwY (.slice a2 ps.length p2))
          try simp only [sq]
          go_simp
          refine hK.out _ _ ?_ (fun hHeld => ?_)
          · (go_split_ands; (repeat' apply And.intro) <;> (repeat (first | with_reducible assumption | with_reducible refine keepcell (by with_reducible assumption) ?_)))
          clear hK K
          try simp only [sq]
          clear v0 v1 v2 v3 v4 s0 s1 s2 s3 s4
          replace gY : ((((((Z3.setCell ⟨Y, 0, none⟩ (.int .i64 id)).setCell ⟨Y, 1, none⟩ (.int .i64 fr)).setCell ⟨Y, 2, none⟩ (.int .i64 te)).setCell ⟨Y, 3, none⟩ (.int .i64 kd)).setCell ⟨Y, 4, none⟩ (.slice a2 ps.length p2))).heap[Y]? = some (.cells #[.int .i64 id, .int .i64 fr, .int .i64 te, .int .i64 kd, .slice a2 ps.length p2] 55 (0, 0)) := set_at (set_at (set_at (set_at (set_at gY))))
          replace gX : ((((((Z3.setCell ⟨Y, 0, none⟩ (.int .i64 id)).setCell ⟨Y, 1, none⟩ (.int .i64 fr)).setCell ⟨Y, 2, none⟩ (.int .i64 te)).setCell ⟨Y, 3, none⟩ (.int .i64 kd)).setCell ⟨Y, 4, none⟩ (.slice a2 ps.length p2))).heap[X]? = _ := set_far (set_far (set_far (set_far (set_far gX (by omega)) (by omega)) (by omega)) (by omega)) (by omega)
          replace hbz := hbc
          clear hbc
          generalize (((((Z3.setCell ⟨Y, 0, none⟩ (.int .i64 id)).setCell ⟨Y, 1, none⟩ (.int .i64 fr)).setCell ⟨Y, 2, none⟩ (.int .i64 te)).setCell ⟨Y, 3, none⟩ (.int .i64 kd)).setCell ⟨Y, 4, none⟩ (.slice a2 ps.length p2)) = Z4 at *
          have hbw4 := hbz.size
          refine wpAnyH_done (by kernel_rfl) ?_ _
          go_wp2_with fail
          go_meet
          exact SQ.mk gX gY hbz
        · skip
          try simp only [sq]
          go_simp
          have gY := heap_alloc_new Z0 (.cells #[.int .i64 0, .int .i64 0, .int .i64 0, .int .i64 0, .slice none 0 0] 55)
          replace hbz := balloc hbz (.cells #[.int .i64 0, .int .i64 0, .int .i64 0, .int .i64 0, .slice none 0 0] 55)
          refine hK.out _ _ ?_ (fun hHeld => ?_)
          · (go_split_ands; (repeat' apply And.intro) <;> (repeat (first | with_reducible assumption | with_reducible refine keepcell (by with_reducible assumption) ?_)))
          clear hK K
          try simp only [sq]
          generalize Z0.alloc (.cells #[.int .i64 0, .int .i64 0, .int .i64 0, .int .i64 0, .slice none 0 0] 55) = Z1 at *
          have hwY : wr.heap.size ≤ Z0.heap.size := hbw0
          generalize Z0.heap.size = Y at *
          have hbw1 := hbz.size
          refine wpAnyH_ready (rs := [10]) (by kernel_rfl) (by simp) ?_
          refine (AllReadyH.cons rfl (fun K hK => ?_) AllReadyH.nil)
          try simp only [sq]
          go_simp
          have gX := heap_alloc_new Z1 (.cells #[.int .i64 0, .int .i64 0, .int .i64 0, .int .i64 0, .slice none 0 0] 55)
          replace hbz := balloc hbz (.cells #[.int .i64 0, .int .i64 0, .int .i64 0, .int .i64 0, .slice none 0 0] 55)
          have hXY := lt_of_block gY
          replace gY := old_alloc (o' := .cells #[.int .i64 0, .int .i64 0, .int .i64 0, .int .i64 0, .slice none 0 0] 55) gY
          refine hK.out _ _ ?_ (fun hHeld => ?_)
          · (go_split_ands; (repeat' apply And.intro) <;> (repeat (first | with_reducible assumption | with_reducible refine keepcell (by with_reducible assumption) ?_)))
          clear hK K
          try simp only [sq]
          generalize Z1.alloc (.cells #[.int .i64 0, .int .i64 0, .int .i64 0, .int .i64 0, .slice none 0 0] 55) = Z2 at *
          have hwX : wr.heap.size ≤ Z1.heap.size := hbw1
          generalize Z1.heap.size = X at *
          have hbw2 := hbz.size
          refine wpAnyH_ready (rs := [12]) (by kernel_rfl) (by simp) ?_
          refine (AllReadyH.cons rfl (fun K hK => ?_) AllReadyH.nil)
          obtain ⟨⟨v0, v1, v2, v3, v4⟩, s0, s1, s2, s3, s4⟩ := cell5h gX
          have hbc := (bset (bset (bset (bset (bset hbz (q := X) (k := 0) hwX (.int .i64 id)) (q := X) (k := 1) hwX (.int .i64 fr)) (q := X) (k := 2) hwX (.int .i64 te)) (q := X) (k := 3) hwX (.int .i64 kd)) (q := X) (k := 4) hwX (.slice a1 ps.length p1))
          try simp only [sq]
          go_simp
          refine hK.out _ _ ?_ (fun hHeld => ?_)
          · (go_split_ands; (repeat' apply And.intro) <;> (repeat (first | with_reducible assumption | with_reducible refine keepcell (by with_reducible assumption) ?_)))
          clear hK K
          try simp only [sq]
          clear v0 v1 v2 v3 v4 s0 s1 s2 s3 s4
          replace gX : ((((((Z2.setCell ⟨X, 0, none⟩ (.int .i64 id)).setCell ⟨X, 1, none⟩ (.int .i64 fr)).setCell ⟨X, 2, none⟩ (.int .i64 te)).setCell ⟨X, 3, none⟩ (.int .i64 kd)).setCell ⟨X, 4, none⟩ (.slice a1 ps.length p1))).heap[X]? = some (.cells #[.int .i64 id, .int .i64 fr, .int .i64 te, .int .i64 kd, .slice a1 ps.length p1] 55 (0, 0)) := set_at (set_at (set_at (set_at (set_at gX))))
          replace gY : ((((((Z2.setCell ⟨X, 0, none⟩ (.int .i64 id)).setCell ⟨X, 1, none⟩ (.int .i64 fr)).setCell ⟨X, 2, none⟩ (.int .i64 te)).setCell ⟨X, 3, none⟩ (.int .i64 kd)).setCell ⟨X, 4, none⟩ (.slice a1 ps.length p1))).heap[Y]? = _ := set_far (set_far (set_far (set_far (set_far gY (by omega)) (by omega)) (by omega)) (by omega)) (by omega)
          replace hbz := hbc
          clear hbc
          generalize (((((Z2.setCell ⟨X, 0, none⟩ (.int .i64 id)).setCell ⟨X, 1, none⟩ (.int .i64 fr)).setCell ⟨X, 2, none⟩ (.int .i64 te)).setCell ⟨X, 3, none⟩ (.int .i64 kd)).setCell ⟨X, 4, none⟩ (.slice a1 ps.length p1)) = Z3 at *
          have hbw3 := hbz.size
          refine wpAnyH_ready (rs := [13]) (by kernel_rfl) (by simp) ?_
          refine (AllReadyH.cons rfl (fun K hK => ?_) AllReadyH.nil)
          obtain ⟨⟨v0, v1, v2, v3, v4⟩, s0, s1, s2, s3, s4⟩ := cell5h gY
          have hbc := (bset (bset (bset (bset (bset hbz (q := Y) (k := 0) hwY (.int .i64 id)) (q := Y) (k := 1) hwY (.int .i64 fr)) (q := Y) (k := 2) hwY (.int .i64 te)) (q := Y) (k := 3) hwY (.int .i64 kd)) (q := Y) (k := 4) hwY (.slice a2 ps.length p2))
          try simp only [sq]
          go_simp
          refine hK.out _ _ ?_ (fun hHeld => ?_)
          · (go_split_ands; (repeat' apply And.intro) <;> (repeat (first | with_reducible assumption | with_reducible refine keepcell (by with_reducible assumption) ?_)))
          clear hK K
          try simp only [sq]
          clear v0 v1 v2 v3 v4 s0 s1 s2 s3 s4
          replace gY : ((((((Z3.setCell ⟨Y, 0, none⟩ (.int .i64 id)).setCell ⟨Y, 1, none⟩ (.int .i64 fr)).setCell ⟨Y, 2, none⟩ (.int .i64 te)).setCell ⟨Y, 3, none⟩ (.int .i64 kd)).setCell ⟨Y, 4, none⟩ (.slice a2 ps.length p2))).heap[Y]? = some (.cells #[.int .i64 id, .int .i64 fr, .int .i64 te, .int .i64 kd, .slice a2 ps.length p2] 55 (0, 0)) := set_at (set_at (set_at (set_at (set_at gY))))
          replace gX : ((((((Z3.setCell ⟨Y, 0, none⟩ (.int .i64 id)).setCell ⟨Y, 1, none⟩ (.int .i64 fr)).setCell ⟨Y, 2, none⟩ (.int .i64 te)).setCell ⟨Y, 3, none⟩ (.int .i64 kd)).setCell ⟨Y, 4, none⟩ (.slice a2 ps.length p2))).heap[X]? = _ := set_far (set_far (set_far (set_far (set_far gX (by omega)) (by omega)) (by omega)) (by omega)) (by omega)
          replace hbz := hbc
          clear hbc
          generalize (((((Z3.setCell ⟨Y, 0, none⟩ (.int .i64 id)).setCell ⟨Y, 1, none⟩ (.int .i64 fr)).setCell ⟨Y, 2, none⟩ (.int .i64 te)).setCell ⟨Y, 3, none⟩ (.int .i64 kd)).setCell ⟨Y, 4, none⟩ (.slice a2 ps.length p2)) = Z4 at *
          have hbw4 := hbz.size
          refine wpAnyH_done (by kernel_rfl) ?_ _
          go_wp2_with fail
          go_meet
          exact SQ.mk gX gY hbz
      case rest =>
        obtain ⟨X, Y, rfl, rfl, gX, gY, hb⟩ := hcut
        replace HB := hid (btrans HB.out hb)
        have HS := hid (fun (W : World) (hq : Below _ _ W) => same_shp kd a1 a2 p1 p2 ps W k6 k5 j5 ((HK7.out.below hb).below hq) ((HJ7.out.below hb).below hq))
        clear hb HK7 HJ7 k0 k1 k2 k3 k4 j0 j1 j2 j3 j4 d0 d1 f0 f1 hbw
        obtain ⟨⟨x0, x1, x2, x3, x4⟩, _⟩ := cell5h gX
        obtain ⟨⟨y0, y1, y2, y3, y4⟩, _⟩ := cell5h gY
        go_wp2_with fail
        refine (HS.out _ (Below.refl _ _)).mono ?_
        rintro e z ⟨rfl, hz⟩
        replace HB := hid (btrans HB.out hz)
        clear hz HS
        go_wp2_with fail
        go_roundw
        case rel => exact ⟨k + 1, by go_num, by omega, HB⟩
        case measure => simp [intOf]; omega
    · have c1 : (n : Int) ≤ (k : Int) := by omega
      go_wp2_with fail
      go_ret
      exact ⟨rfl, hbw⟩
end Go.Proofs.YtninciflfolenaaGreat
