import Derived.Test.YtenlhgnobfadgaaGreatDoorDrawS2
set_option maxRecDepth 100000
set_option maxHeartbeats 4000000
set_option linter.unusedSimpArgs false
set_option linter.unusedVariables false
namespace Go.Proofs.YtenlhgnobfadgaaGreatDoor
open Go.RowKit
theorem flat2_set {ps : List (Int × Int)} (h : 0 < ps.length) (z : Int) : ∃ qs : List (Int × Int), qs.length = ps.length ∧ (flat2 ps).set 0 (.int .i64 z) = flat2 qs := by
 match ps, h with
 | (x, y) :: r, _ => exact ⟨(z, y) :: r, by simp, by simp [flat2]⟩
def lenAt (S : Nat) (w : World) : Nat := match w.cell? ⟨S, 1, none⟩ with
 | some (.slice _ n _) => n
 | _ => 0
theorem lenAt_of {S n cap : Nat} {w : World} {a : Option Addr} (h : w.cell? ⟨S, 1, none⟩ = some (.slice a n cap)) : lenAt S w = n := by unfold lenAt; rw [h]
theorem any_r (w : World) (p : Nat) (a : Option Addr) (len cap : Nat) (h : Ready w p a len cap) : Calls Tryz.prog 154 #[.pointer (some ⟨p, 0, none⟩)] w fun e w' => ∃ kd : Int, ∃ ps : List (Int × Int), ∃ v, e = .returned (.agg #[.int .i64 kd, v]) ∧ ps.length ≤ 61 ∧ PtRow w' w.heap.size v ps ∧ Ready w' p a len cap ∧ w.grownBy w' (some p) := by
 have hp := h.lt
 obtain ⟨i0, hi0, hz0, hz1, hz2⟩ := info_parts Tryz.infoP2
 go_enter Tryz.func154, Tryz.ntmps154
 go_wp2_with fail
 have gR := heap_alloc_new w (.cells #[.int .i64 0, .slice none 0 0] 48)
 have hr := h.alloc (.cells #[.int .i64 0, .slice none 0 0] 48)
 have hg := grown_alloc w (.cells #[.int .i64 0, .slice none 0 0] 48) (some p)
 have hz : (w.alloc (.cells #[.int .i64 0, .slice none 0 0] 48)).heap.size = w.heap.size + 1 := by simp
 generalize w.alloc (.cells #[.int .i64 0, .slice none 0 0] 48) = v0 at *
 clear h
 refine (right_r _ p a len cap hr).mono ?_
 rintro e v1 ⟨kd, ps, vs, rfl, hl1, hl2, hrow, hr2, hg2⟩
 replace gR := grown_blk hg2 gR (by omega)
 replace hg := grown_trans hg hg2
 have hz1' := hg2.size
 clear hr hg2
 obtain ⟨g, cp, rfl, hgb, hgl, hcp, hat⟩ := hrow.at' (by omega)
 clear hat
 go_wp2_with fail
 replace hrow := World.ownsRow.alloc hrow (.cells #[.int .i64 kd, .slice (some ⟨g, 0, none⟩) ps.length cp] 48)
 replace gR := old_alloc (o' := .cells #[.int .i64 kd, .slice (some ⟨g, 0, none⟩) ps.length cp] 48) gR
 have gS := new_alloc v1 v1.heap.size (.cells #[.int .i64 kd, .slice (some ⟨g, 0, none⟩) ps.length cp] 48) rfl
 replace hr2 := hr2.alloc (.cells #[.int .i64 kd, .slice (some ⟨g, 0, none⟩) ps.length cp] 48)
 replace hg := grown_trans hg (grown_alloc v1 (.cells #[.int .i64 kd, .slice (some ⟨g, 0, none⟩) ps.length cp] 48) (some p))
 generalize v1.alloc (.cells #[.int .i64 kd, .slice (some ⟨g, 0, none⟩) ps.length cp] 48) = v2 at *
 generalize v1.heap.size = S at *
 generalize hB : v0.heap.size = B at *
 have hwB : w.heap.size < B := by omega
 clear hz hB
 refine (below_r _ p a len cap 12 (by omega) (by omega) hr2).mono ?_
 rintro e v3 ⟨x, rfl, x0, x1, hr, hg2⟩
 replace gR := grown_blk hg2 gR (by omega)
 replace gS := grown_blk hg2 gS (by omega)
 replace hrow := World.ownsRow.kept hrow hg2 (Or.inr (fun e => by have := (World.ownsRow.lt hrow p e).1; omega))
 replace hg := grown_trans hg hg2
 clear hr2 hg2
 have hpB : p < B := by omega
 have hSz := lt_of_block gS
 by_cases h5 : 5 ≤ x
 ·skip
  have q0 : (x == 0) = false := by rw [beq_eq_false_iff_ne]; omega
  have q1 : (x == 1) = false := by rw [beq_eq_false_iff_ne]; omega
  have q2 : (x == 2) = false := by rw [beq_eq_false_iff_ne]; omega
  have q3 : (x == 3) = false := by rw [beq_eq_false_iff_ne]; omega
  have q4 : (x == 4) = false := by rw [beq_eq_false_iff_ne]; omega
  obtain ⟨r0, r1, rf0, rf1⟩ := cell2g gS
  obtain ⟨e0, e1, ef0, ef1⟩ := cell2g gR
  have hzf : w.heap.size < v3.heap.size := lt_of_block gR
  obtain ⟨v', ev, z0', z1', hrow', hr', hg'⟩ := fin_shape (k := kd) hp (Nat.le_refl _) gR hrow (by omega) (by simp [Value.ownBlock]; omega) hr hg
  have Hev := hid ev
  have Hrow := hid hrow'
  clear ev hrow'
  go_wp2_with fail
  rw [← Hev.out]
  exact bodyPost_ret (v := .agg #[.int .i64 (kd), (.slice (some ⟨g, 0, none⟩) ps.length cp)]) (by simp [results, Tryz.results154, go_sem, z0', z1']) rfl ⟨kd, ps, _, rfl, by omega, Hrow.out, hr', hg'⟩
 obtain rfl | rfl | rfl | rfl | rfl : x = 0 ∨ x = 1 ∨ x = 2 ∨ x = 3 ∨ x = 4 := by omega
 ·skip
  go_wp2_with fail
  refine (below_r _ p a len cap 6 (by omega) (by omega) hr).mono ?_
  rintro e v4 ⟨y, rfl, y0, y1, hr2, hg2⟩
  replace gR := grown_blk hg2 gR (by omega)
  replace gS := grown_blk hg2 gS (by omega)
  replace hrow := World.ownsRow.kept hrow hg2 (Or.inr (fun e => by have := (World.ownsRow.lt hrow p e).1; omega))
  replace hg := grown_trans hg hg2
  clear hr hg2
  obtain ⟨r0, r1, rf0, rf1⟩ := cell2g gS
  have gR2 := set_far (q := S) (k := 0) (u := .int .i64 (y - 1)) gR (by omega)
  have gS2 := set_at (k := 0) (u := .int .i64 (y - 1)) gS
  obtain ⟨t0, t1, tf0, tf1⟩ := cell2g gS2
  have hrow2 := World.ownsRow.kept hrow (grown_set v4 S 0 (.int .i64 (y - 1))) (Or.inr (by simp [Value.ownBlock]; omega))
  have hr3 := hr2.set (n := S) (k := 0) (by omega) (.int .i64 (y - 1))
  have hg3 := grown_setn (k := 0) hg (n := S) (by omega) (.int .i64 (y - 1))
  obtain ⟨e0, e1, ef0, ef1⟩ := cell2g gR2
  have hzf : w.heap.size < (v4.setCell ⟨S, 0, none⟩ (.int .i64 (y - 1))).heap.size := lt_of_block gR2
  obtain ⟨v', ev, z0', z1', hrow', hr', hg'⟩ := fin_shape (k := y - 1) hp (Nat.le_refl _) gR2 hrow2 (by omega) (by simp [Value.ownBlock]; omega) hr3 hg3
  have Hev := hid ev
  have Hrow := hid hrow'
  clear ev hrow'
  go_wp2_with fail
  rw [← Hev.out]
  exact bodyPost_ret (v := .agg #[.int .i64 (y - 1), (.slice (some ⟨g, 0, none⟩) ps.length cp)]) (by simp [results, Tryz.results154, go_sem, z0', z1']) rfl ⟨y - 1, ps, _, rfl, by omega, Hrow.out, hr', hg'⟩
 ·skip
  go_wp2_with fail
  refine (below_r _ p a len cap 6 (by omega) (by omega) hr).mono ?_
  rintro e v4 ⟨y, rfl, y0, y1, hr2, hg2⟩
  replace gR := grown_blk hg2 gR (by omega)
  replace gS := grown_blk hg2 gS (by omega)
  replace hg := grown_trans hg hg2
  have hz4 := hg2.size
  clear hr hg2 hrow
  obtain ⟨n, rfl⟩ := Int.eq_ofNat_of_zero_le y0
  go_wp2_with fail
  refine (list_p _ p a len cap n (by omega) hr2).mono ?_
  rintro e v5 ⟨qs, qv, rfl, hql, hrow, hr, hg2⟩
  replace gR := grown_blk hg2 gR (by omega)
  replace gS := grown_blk hg2 gS (by omega)
  replace hg := grown_trans hg hg2
  clear hr2 hg2
  have hq6 : qs.length ≤ 6 := by omega
  clear hql
  have hqn : ∀ c, qv.ownBlock = some c → S < c := fun c e => by have := (World.ownsRow.lt hrow c e).1; omega
  obtain ⟨ao, cq, rfl, hcq, hpt⟩ := hrow.pts
  clear hpt
  obtain ⟨r0, r1, rf0, rf1⟩ := cell2g gS
  have gR2 := set_far (q := S) (k := 1) (u := .slice ao qs.length cq) gR (by omega)
  have gS2 := set_at (k := 1) (u := .slice ao qs.length cq) gS
  obtain ⟨t0, t1, tf0, tf1⟩ := cell2g gS2
  have hrow2 := World.ownsRow.kept hrow (grown_set v5 S 1 (.slice ao qs.length cq)) (Or.inr (fun e => by have := hqn _ e; omega))
  have hr3 := hr.set (n := S) (k := 1) (by omega) (.slice ao qs.length cq)
  have hg3 := grown_setn (k := 1) hg (n := S) (by omega) (.slice ao qs.length cq)
  obtain ⟨e0, e1, ef0, ef1⟩ := cell2g gR2
  have hzf : w.heap.size < (v5.setCell ⟨S, 1, none⟩ (.slice ao qs.length cq)).heap.size := lt_of_block gR2
  obtain ⟨v', ev, z0', z1', hrow', hr', hg'⟩ := fin_shape (k := kd) hp (Nat.le_refl _) gR2 hrow2 (by omega) (fun e => by have := hqn _ e; omega) hr3 hg3
  have Hev := hid ev
  have Hrow := hid hrow'
  clear ev hrow'
  go_wp2_with fail
  rw [← Hev.out]
  exact bodyPost_ret (v := .agg #[.int .i64 (kd), (.slice ao qs.length cq)]) (by simp [results, Tryz.results154, go_sem, z0', z1']) rfl ⟨kd, qs, _, rfl, by omega, Hrow.out, hr', hg'⟩
 ·have hpl : (0 : Int) < (ps.length : Int) := by omega
  have hpn : 0 < ps.length := by omega
  go_wp2_with fail
  refine wp_region_held_drew (S := (fun w' => w'.cell? ⟨S, 1, none⟩ = some (.slice (some ⟨g, 0, none⟩) ps.length cp))) (by kernel_rfl) ?_ (fun hHeld => ?_)
  ·exact (cell2g gS).2.1
  replace gS : v3.drew.heap[S]? = _ := gS
  replace gR : v3.drew.heap[w.heap.size]? = _ := gR
  replace hrow : v3.drew.ownsRow B 91 2 (.slice (some ⟨g, 0, none⟩) ps.length cp) ps.length (flat2 ps) := hrow
  replace hr : Ready v3.drew p a len cap := hr
  replace hg : w.grownBy v3.drew (some p) := grown_trans hg (grown_drew (grown_same _ _) 1)
  replace hSz : S < v3.drew.heap.size := hSz
  generalize v3.drew = y0 at *
  obtain ⟨r0, r1, rf0, rf1⟩ := cell2g gS
  refine tkR ?_ 0 rfl (fun _ _ _ h => h) hHeld ?_ ?_
  rotate_left
  ·intro w hSw; (try dsimp only at hSw); go_simp; try (with_reducible rfl)
  try simp only [sq]
  refine tkR ?_ 1 rfl (fun _ _ _ h => h) hHeld ?_ ?_
  rotate_left
  ·intro w hSw; (try dsimp only at hSw); go_simp; try (with_reducible rfl)
  try simp only [sq]
  refine tkR ?_ 2 rfl (fun _ _ _ h => h) hHeld ?_ ?_
  rotate_left
  ·intro w hSw; (try dsimp only at hSw); go_simp; try (with_reducible rfl)
  try simp only [sq]
  refine rd1 3 rfl (fun K hK => ?_)
  try simp only [sq]
  go_simp
  refine hK.out _ _ ?_ (fun hHeld => ?_)
  ·exact keepalloc r1 _
  clear hK K
  try simp only [sq]
  refine rd1 4 rfl (fun K hK => ?_)
  try simp only [sq]
  go_simp
  go_at_call 72
  refine (pick_p Cd _ p a len cap _ 3 (by omega) (by omega) (by have := hr.lt; omega) (intsP_new Cd y0 [30000, 30001, -30001] 3 (by unfold Cd; decide)) (hr.alloc _)).mono ?_
  rintro e y1 ⟨z, rfl, hz, hr2, hg2⟩
  replace gS := grown_blk hg2 (old_alloc gS) (by omega)
  replace gR := grown_blk hg2 (old_alloc gR) (by omega)
  replace hrow := World.ownsRow.kept (World.ownsRow.alloc hrow _) hg2 (Or.inr (by simp [Value.ownBlock]; omega))
  replace hg := grown_trans (grown_trans hg (grown_alloc _ _ _)) hg2
  clear hr hg2 r0 r1 rf0 rf1
  obtain ⟨r0, r1, rf0, rf1⟩ := cell2g gS
  go_wp2_with fail
  refine hK.out _ _ ?_ (fun hHeld => ?_)
  ·exact r1
  clear hK K
  have hzz := lt_of_block gS
  have f0 := World.ownsRow.frozenAt hrow 0
  obtain ⟨_, _, e', _, _, _, hat⟩ := PtRow.at' hrow (by omega)
  cases e'
  obtain ⟨d0, d1⟩ := hat 0 (by omega)
  simp only [Nat.zero_mul, Nat.add_zero] at d0
  generalize (ps.getD 0 (0, 0)).1 = dd at d0
  clear hat d1
  have hpl : (0 : Int) < (ps.length : Int) := by omega
  try simp only [sq]
  refine tkR ?_ 5 rfl (fun _ _ _ h => h) hHeld ?_ ?_
  rotate_left
  ·intro w hSw; (try dsimp only at hSw); go_simp; try (with_reducible rfl)
  try simp only [sq]
  refine tkR ?_ 6 rfl (fun _ _ _ h => h) hHeld ?_ ?_
  rotate_left
  ·intro w hSw; (try dsimp only at hSw); go_simp; try (with_reducible rfl)
  try simp only [sq]
  refine rd1 7 rfl (fun K hK => ?_)
  try simp only [sq]
  go_simp
  refine hK.out _ _ ?_ (fun hHeld => ?_)
  ·exact keepset4 r1 (by omega)
  clear hK K
  try simp only [sq]
  refine wpAnyH_done (by kernel_rfl) ?_ _
  obtain ⟨qs, hql, hqs⟩ := flat2_set (ps := ps) (by omega) z
  have hst := World.ownsRow.stored hrow 0 (.int .i64 z)
  have hrow2 : PtRow (y1.setCell ⟨g, 0, none⟩ (.int .i64 z)) B (.slice (some ⟨g, 0, none⟩) ps.length cp) qs := by unfold PtRow; rw [hql, ← hqs]; exact hst.1
  have gR2 := set_far (q := g) (k := 0) (u := .int .i64 z) gR (by omega)
  have gS2 := set_far (q := g) (k := 0) (u := .int .i64 z) gS (by omega)
  obtain ⟨t0, t1, tf0, tf1⟩ := cell2g gS2
  have hr3 := hr2.set (n := g) (k := 0) (by omega) (.int .i64 z)
  have hg3 := grown_setn (k := 0) hg (n := g) (by omega) (.int .i64 z)
  have Hq := hid hqs
  clear hst hqs
  obtain ⟨e0, e1, ef0, ef1⟩ := cell2g gR2
  have hzf : w.heap.size < (y1.setCell ⟨g, 0, none⟩ (.int .i64 z)).heap.size := lt_of_block gR2
  obtain ⟨v', ev, z0', z1', hrow', hr', hg'⟩ := fin_shape (k := kd) hp (Nat.le_refl _) gR2 hrow2 (by omega) (by simp [Value.ownBlock]; omega) hr3 hg3
  have Hev := hid ev
  have Hrow := hid hrow'
  clear ev hrow'
  go_wp2_with fail
  rw [← Hev.out]
  exact bodyPost_ret (v := .agg #[.int .i64 (kd), (.slice (some ⟨g, 0, none⟩) ps.length cp)]) (by simp [results, Tryz.results154, go_sem, z0', z1']) rfl ⟨kd, qs, _, rfl, by omega, Hrow.out, hr', hg'⟩
 ·have hpl : (0 : Int) < (ps.length : Int) := by omega
  have hpn : 0 < ps.length := by omega
  go_wp2_with fail
  refine wp_region_held_drew (S := (fun _ => True)) (by kernel_rfl) ?_ (fun hHeld => ?_)
  ·exact True.intro
  replace gS : v3.drew.heap[S]? = _ := gS
  replace gR : v3.drew.heap[w.heap.size]? = _ := gR
  replace hrow : v3.drew.ownsRow B 91 2 (.slice (some ⟨g, 0, none⟩) ps.length cp) ps.length (flat2 ps) := hrow
  replace hr : Ready v3.drew p a len cap := hr
  replace hg : w.grownBy v3.drew (some p) := grown_trans hg (grown_drew (grown_same _ _) 1)
  replace hSz : S < v3.drew.heap.size := hSz
  generalize v3.drew = y0 at *
  obtain ⟨r0, r1, rf0, rf1⟩ := cell2g gS
  have HA : Hid (PtsAt y0 g 0 ps) := by
   obtain ⟨_, _, e', _, _, _, hat⟩ := PtRow.at' hrow (by omega)
   cases e'
   exact hat
  refine tkR ?_ 0 rfl (fun _ _ _ h => h) hHeld ?_ ?_
  rotate_left
  ·intro w hSw; (try dsimp only at hSw); go_simp; try (with_reducible rfl)
  try simp only [sq]
  refine tkR ?_ 2 rfl (fun _ _ _ h => h) hHeld ?_ ?_
  rotate_left
  ·intro w hSw; (try dsimp only at hSw); go_simp; try (with_reducible rfl)
  try simp only [sq]
  refine tkR ?_ 4 rfl (fun _ _ _ h => h) hHeld ?_ ?_
  rotate_left
  ·intro w hSw; (try dsimp only at hSw); go_simp; try (with_reducible rfl)
  try simp only [sq]
  refine tkR ?_ 5 rfl (fun _ _ _ h => h) hHeld ?_ ?_
  rotate_left
  ·intro w hSw; (try dsimp only at hSw); go_simp; try (with_reducible rfl)
  try simp only [sq]
  refine wpAnyH_ready (rs := [1, 3, 6]) (by kernel_rfl) (by simp) ?_
  refine (AllReadyH.cons rfl (fun K hK => ?_) (AllReadyH.cons rfl (fun K hK => ?_) (AllReadyH.cons rfl (fun K hK => ?_) AllReadyH.nil)))
  ·skip
   try simp only [sq]
   go_simp
   refine hK.out _ _ ?_ (fun hHeld => ?_)
   ·exact True.intro
   clear hK K
   try simp only [sq]
   refine wpAnyH_ready (rs := [3, 6]) (by kernel_rfl) (by simp) ?_
   refine (AllReadyH.cons rfl (fun K hK => ?_) (AllReadyH.cons rfl (fun K hK => ?_) AllReadyH.nil))
   ·skip
    try simp only [sq]
    go_simp
    refine hK.out _ _ ?_ (fun hHeld => ?_)
    ·exact True.intro
    clear hK K
    try simp only [sq]
    refine rd1 6 rfl (fun K hK => ?_)
    try simp only [sq]
    go_simp
    refine hK.out _ _ ?_ (fun hHeld => ?_)
    ·exact True.intro
    clear hK K
    try simp only [sq]
    refine tkR ?_ 7 rfl (fun _ _ _ h => h) hHeld ?_ ?_
    rotate_left
    ·intro w hSw; (try dsimp only at hSw); go_simp; try (with_reducible rfl)
    try simp only [sq]
    refine rd1 8 rfl (fun K hK => ?_)
    try simp only [sq]
    go_simp
    go_at_call 38
    refine (below_r _ p a len cap (ps.length : Int) (by omega) (by omega) hr).mono ?_
    rintro e y1 ⟨c, rfl, c0, c1, hr2, hg2⟩
    obtain ⟨kk, rfl⟩ := Int.eq_ofNat_of_zero_le c0
    have hkk : kk < ps.length := by omega
    replace gS := grown_blk hg2 gS (by omega)
    replace gR := grown_blk hg2 gR (by omega)
    replace hrow := World.ownsRow.kept hrow hg2 (Or.inr (by simp [Value.ownBlock]; omega))
    replace hg := grown_trans hg hg2
    replace HA := hid (show PtsAt y1 g 0 ps from fun j hj => ⟨hg2.cell (HA.out j hj).1 (by simp; omega), hg2.cell (HA.out j hj).2 (by simp; omega)⟩)
    clear hr hg2 r0 r1 rf0 rf1
    rename Ready y1 p a len cap => hr
    obtain ⟨r0, r1, rf0, rf1⟩ := cell2g gS
    obtain ⟨px, hpx⟩ : ∃ px, (ps.getD kk (0, 0)).1 = px := ⟨_, rfl⟩
    obtain ⟨py, hpy⟩ : ∃ py, (ps.getD kk (0, 0)).2 = py := ⟨_, rfl⟩
    have HPX := hid hpx
    have HPY := hid hpy
    clear hpx hpy
    go_wp2_with fail
    refine hK.out _ _ ?_ (fun hHeld => ?_)
    ·exact True.intro
    clear hK K
    try simp only [sq]
    refine tkR ?_ 9 rfl (fun _ _ _ h => h) hHeld ?_ ?_
    rotate_left
    ·intro w hSw; (try dsimp only at hSw); go_simp; try (with_reducible rfl)
    try simp only [sq]
    refine rd1 10 rfl (fun K hK => ?_)
    try simp only [sq]
    obtain ⟨d0, d1⟩ := HA.out kk hkk
    rw [HPX.out] at d0
    rw [HPY.out] at d1
    simp only [Nat.zero_add] at d0 d1
    go_simp
    refine hK.out _ _ ?_ (fun hHeld => ?_)
    ·exact True.intro
    clear hK K
    try simp only [sq]
    refine rd1 11 rfl (fun K hK => ?_)
    try simp only [sq]
    go_simp
    have b0 := keepalloc r0 (.cells #[.int .i64 px, .int .i64 py] 91)
    have b1 := keepalloc r1 (.cells #[.int .i64 px, .int .i64 py] 91)
    refine hK.out _ _ ?_ (fun hHeld => ?_)
    ·exact True.intro
    clear hK K
    try simp only [sq]
    refine rd1 12 rfl (fun K hK => ?_)
    have hSW := lt_of_block gS
    refine step_append_lies _ (by rfl) _ _ _ (by rfl) B 91 i0 _ 2 16 Tryz.underlying46 hi0 hz0 hz1 hz2 rfl (by omega) _ ps.length (flat2 ps) (by rfl) (World.ownsRow.alloc hrow _) ⟨y1.heap.size, 0, none⟩ 1 1 [.int .i64 px, .int .i64 py] (by rfl) (by rfl) (World.news_of_block (cs := #[.int .i64 px, .int .i64 py]) (t := 91) (fr := (0, 0)) (heap_alloc_new y1 _)) (by simp [Value.oneCell']) (by omega) (by unfold maxLen; omega) (by omega) (by simp; omega) (y1.heap.size + 1) (by simp) ?_
    intro gg cq s2 hown2 hgrow hat hlt2
    have hvS : some S ≠ (Value.slice (some ⟨g, 0, none⟩) ps.length cp).ownBlock := by simp [Value.ownBlock]; omega
    have hvR : some w.heap.size ≠ (Value.slice (some ⟨g, 0, none⟩) ps.length cp).ownBlock := by simp [Value.ownBlock]; omega
    replace gS := (hgrow.block S (by have := lt_of_block gS; simp; omega) hvS).trans (old_alloc gS)
    replace gR := (hgrow.block _ (by have := lt_of_block gR; simp; omega) hvR).trans (old_alloc gR)
    have hgS2 : gg ≠ S := by
     rcases hat with e | e
     ·simp [Value.ownBlock] at e; omega
     ·omega
    have hgg : B ≤ gg := (World.ownsRow.lt hown2 gg rfl).1
    refine hK.out _ _ ?_ (fun hHeld => ?_)
    ·exact True.intro
    clear hK K r0 r1 rf0 rf1
    replace hr := (hr.alloc _).kept hgrow (fun y hy => by simp [Value.ownBlock] at hy; omega)
    replace hg := grown_upr (grown_trans hg (grown_alloc _ _ _)) hgrow (fun y hy => by simp [Value.ownBlock] at hy; omega)
    obtain ⟨r0, r1, rf0, rf1⟩ := cell2g gS
    try simp only [sq]
    refine tkR ?_ 13 rfl (fun _ _ _ h => h) hHeld ?_ ?_
    rotate_left
    ·intro w hSw; (try dsimp only at hSw); go_simp; try (with_reducible rfl)
    try simp only [sq]
    refine rd1 14 rfl (fun K hK => ?_)
    try simp only [sq]
    go_simp
    refine hK.out _ _ ?_ (fun hHeld => ?_)
    ·exact True.intro
    clear hK K
    have hrow2 := row_self hown2
    try simp only [sq]
    refine wpAnyH_done (by kernel_rfl) ?_ _
    have gR2 := set_far (q := S) (k := 1) (u := (.slice (some ⟨gg, 0, none⟩) (ps.length + 1) cq)) gR (by omega)
    have gS2 := set_at (k := 1) (u := (.slice (some ⟨gg, 0, none⟩) (ps.length + 1) cq)) gS
    obtain ⟨t0, t1, tf0, tf1⟩ := cell2g gS2
    have hrow3 : PtRow _ B (.slice (some ⟨gg, 0, none⟩) (ps.length + 1) cq) (ps ++ [(px, py)]) := World.ownsRow.kept hrow2 (grown_set s2 S 1 (.slice (some ⟨gg, 0, none⟩) (ps.length + 1) cq)) (Or.inr (by simp [Value.ownBlock]; omega))
    have hr3 := hr.set (n := S) (k := 1) (by omega) (.slice (some ⟨gg, 0, none⟩) (ps.length + 1) cq)
    have hg3 := grown_setn (k := 1) hg (n := S) (by omega) (.slice (some ⟨gg, 0, none⟩) (ps.length + 1) cq)
    clear hown2 hgrow hat hrow2 hrow HA
    obtain ⟨e0, e1, ef0, ef1⟩ := cell2g gR2
    have hzf : w.heap.size < (s2.setCell ⟨S, 1, none⟩ (.slice (some ⟨gg, 0, none⟩) (ps.length + 1) cq)).heap.size := lt_of_block gR2
    obtain ⟨v', ev, z0', z1', hrow', hr', hg'⟩ := fin_shape (k := kd) hp (Nat.le_refl _) gR2 hrow3 (by omega) (by simp [Value.ownBlock]; omega) hr3 hg3
    have Hev := hid ev
    have Hrow := hid hrow'
    clear ev hrow'
    go_wp2_with fail
    rw [← Hev.out]
    exact bodyPost_ret (v := .agg #[.int .i64 (kd), (.slice (some ⟨gg, 0, none⟩) (ps.length + 1) cq)]) (by simp [results, Tryz.results154, go_sem, z0', z1']) rfl ⟨kd, (ps ++ [(px, py)]), _, rfl, by simp; omega, Hrow.out, hr', hg'⟩
   ·skip
    try simp only [sq]
    go_simp
    refine hK.out _ _ ?_ (fun hHeld => ?_)
    ·exact True.intro
    clear hK K
    try simp only [sq]
    refine tkR ?_ 7 rfl (fun _ _ _ h => h) hHeld ?_ ?_
    rotate_left
    ·intro w hSw; (try dsimp only at hSw); go_simp; try (with_reducible rfl)
    try simp only [sq]
    refine wpAnyH_ready (rs := [3, 8]) (by kernel_rfl) (by simp) ?_
    refine (AllReadyH.cons rfl (fun K hK => ?_) (AllReadyH.cons rfl (fun K hK => ?_) AllReadyH.nil))
    ·skip
     try simp only [sq]
     go_simp
     refine hK.out _ _ ?_ (fun hHeld => ?_)
     ·exact True.intro
     clear hK K
     try simp only [sq]
     refine rd1 8 rfl (fun K hK => ?_)
     try simp only [sq]
     go_simp
     go_at_call 38
     refine (below_r _ p a len cap (ps.length : Int) (by omega) (by omega) hr).mono ?_
     rintro e y1 ⟨c, rfl, c0, c1, hr2, hg2⟩
     obtain ⟨kk, rfl⟩ := Int.eq_ofNat_of_zero_le c0
     have hkk : kk < ps.length := by omega
     replace gS := grown_blk hg2 gS (by omega)
     replace gR := grown_blk hg2 gR (by omega)
     replace hrow := World.ownsRow.kept hrow hg2 (Or.inr (by simp [Value.ownBlock]; omega))
     replace hg := grown_trans hg hg2
     replace HA := hid (show PtsAt y1 g 0 ps from fun j hj => ⟨hg2.cell (HA.out j hj).1 (by simp; omega), hg2.cell (HA.out j hj).2 (by simp; omega)⟩)
     clear hr hg2 r0 r1 rf0 rf1
     rename Ready y1 p a len cap => hr
     obtain ⟨r0, r1, rf0, rf1⟩ := cell2g gS
     obtain ⟨px, hpx⟩ : ∃ px, (ps.getD kk (0, 0)).1 = px := ⟨_, rfl⟩
     obtain ⟨py, hpy⟩ : ∃ py, (ps.getD kk (0, 0)).2 = py := ⟨_, rfl⟩
     have HPX := hid hpx
     have HPY := hid hpy
     clear hpx hpy
     go_wp2_with fail
     refine hK.out _ _ ?_ (fun hHeld => ?_)
     ·exact True.intro
     clear hK K
     try simp only [sq]
     refine tkR ?_ 9 rfl (fun _ _ _ h => h) hHeld ?_ ?_
     rotate_left
     ·intro w hSw; (try dsimp only at hSw); go_simp; try (with_reducible rfl)
     try simp only [sq]
     refine rd1 10 rfl (fun K hK => ?_)
     try simp only [sq]
     obtain ⟨d0, d1⟩ := HA.out kk hkk
     rw [HPX.out] at d0
     rw [HPY.out] at d1
     simp only [Nat.zero_add] at d0 d1
     go_simp
     refine hK.out _ _ ?_ (fun hHeld => ?_)
     ·exact True.intro
     clear hK K
     try simp only [sq]
     refine rd1 11 rfl (fun K hK => ?_)
     try simp only [sq]
     go_simp
     have b0 := keepalloc r0 (.cells #[.int .i64 px, .int .i64 py] 91)
     have b1 := keepalloc r1 (.cells #[.int .i64 px, .int .i64 py] 91)
     refine hK.out _ _ ?_ (fun hHeld => ?_)
     ·exact True.intro
     clear hK K
     try simp only [sq]
     refine rd1 12 rfl (fun K hK => ?_)
     have hSW := lt_of_block gS
     refine step_append_lies _ (by rfl) _ _ _ (by rfl) B 91 i0 _ 2 16 Tryz.underlying46 hi0 hz0 hz1 hz2 rfl (by omega) _ ps.length (flat2 ps) (by rfl) (World.ownsRow.alloc hrow _) ⟨y1.heap.size, 0, none⟩ 1 1 [.int .i64 px, .int .i64 py] (by rfl) (by rfl) (World.news_of_block (cs := #[.int .i64 px, .int .i64 py]) (t := 91) (fr := (0, 0)) (heap_alloc_new y1 _)) (by simp [Value.oneCell']) (by omega) (by unfold maxLen; omega) (by omega) (by simp; omega) (y1.heap.size + 1) (by simp) ?_
     intro gg cq s2 hown2 hgrow hat hlt2
     have hvS : some S ≠ (Value.slice (some ⟨g, 0, none⟩) ps.length cp).ownBlock := by simp [Value.ownBlock]; omega
     have hvR : some w.heap.size ≠ (Value.slice (some ⟨g, 0, none⟩) ps.length cp).ownBlock := by simp [Value.ownBlock]; omega
     replace gS := (hgrow.block S (by have := lt_of_block gS; simp; omega) hvS).trans (old_alloc gS)
     replace gR := (hgrow.block _ (by have := lt_of_block gR; simp; omega) hvR).trans (old_alloc gR)
     have hgS2 : gg ≠ S := by
      rcases hat with e | e
      ·simp [Value.ownBlock] at e; omega
      ·omega
     have hgg : B ≤ gg := (World.ownsRow.lt hown2 gg rfl).1
     refine hK.out _ _ ?_ (fun hHeld => ?_)
     ·exact True.intro
     clear hK K r0 r1 rf0 rf1
     replace hr := (hr.alloc _).kept hgrow (fun y hy => by simp [Value.ownBlock] at hy; omega)
     replace hg := grown_upr (grown_trans hg (grown_alloc _ _ _)) hgrow (fun y hy => by simp [Value.ownBlock] at hy; omega)
     obtain ⟨r0, r1, rf0, rf1⟩ := cell2g gS
     try simp only [sq]
     refine tkR ?_ 13 rfl (fun _ _ _ h => h) hHeld ?_ ?_
     rotate_left
     ·intro w hSw; (try dsimp only at hSw); go_simp; try (with_reducible rfl)
     try simp only [sq]
     refine rd1 14 rfl (fun K hK => ?_)
     try simp only [sq]
     go_simp
     refine hK.out _ _ ?_ (fun hHeld => ?_)
     ·exact True.intro
     clear hK K
     have hrow2 := row_self hown2
     try simp only [sq]
     refine wpAnyH_done (by kernel_rfl) ?_ _
     have gR2 := set_far (q := S) (k := 1) (u := (.slice (some ⟨gg, 0, none⟩) (ps.length + 1) cq)) gR (by omega)
     have gS2 := set_at (k := 1) (u := (.slice (some ⟨gg, 0, none⟩) (ps.length + 1) cq)) gS
     obtain ⟨t0, t1, tf0, tf1⟩ := cell2g gS2
     have hrow3 : PtRow _ B (.slice (some ⟨gg, 0, none⟩) (ps.length + 1) cq) (ps ++ [(px, py)]) := World.ownsRow.kept hrow2 (grown_set s2 S 1 (.slice (some ⟨gg, 0, none⟩) (ps.length + 1) cq)) (Or.inr (by simp [Value.ownBlock]; omega))
     have hr3 := hr.set (n := S) (k := 1) (by omega) (.slice (some ⟨gg, 0, none⟩) (ps.length + 1) cq)
     have hg3 := grown_setn (k := 1) hg (n := S) (by omega) (.slice (some ⟨gg, 0, none⟩) (ps.length + 1) cq)
     clear hown2 hgrow hat hrow2 hrow HA
     obtain ⟨e0, e1, ef0, ef1⟩ := cell2g gR2
     have hzf : w.heap.size < (s2.setCell ⟨S, 1, none⟩ (.slice (some ⟨gg, 0, none⟩) (ps.length + 1) cq)).heap.size := lt_of_block gR2
     obtain ⟨v', ev, z0', z1', hrow', hr', hg'⟩ := fin_shape (k := kd) hp (Nat.le_refl _) gR2 hrow3 (by omega) (by simp [Value.ownBlock]; omega) hr3 hg3
     have Hev := hid ev
     have Hrow := hid hrow'
     clear ev hrow'
     go_wp2_with fail
     rw [← Hev.out]
     exact bodyPost_ret (v := .agg #[.int .i64 (kd), (.slice (some ⟨gg, 0, none⟩) (ps.length + 1) cq)]) (by simp [results, Tryz.results154, go_sem, z0', z1']) rfl ⟨kd, (ps ++ [(px, py)]), _, rfl, by simp; omega, Hrow.out, hr', hg'⟩
    ·skip
     try simp only [sq]
     go_simp
     go_at_call 38
     refine (below_r _ p a len cap (ps.length : Int) (by omega) (by omega) hr).mono ?_
     rintro e y1 ⟨c, rfl, c0, c1, hr2, hg2⟩
     obtain ⟨kk, rfl⟩ := Int.eq_ofNat_of_zero_le c0
     have hkk : kk < ps.length := by omega
     replace gS := grown_blk hg2 gS (by omega)
     replace gR := grown_blk hg2 gR (by omega)
     replace hrow := World.ownsRow.kept hrow hg2 (Or.inr (by simp [Value.ownBlock]; omega))
     replace hg := grown_trans hg hg2
     replace HA := hid (show PtsAt y1 g 0 ps from fun j hj => ⟨hg2.cell (HA.out j hj).1 (by simp; omega), hg2.cell (HA.out j hj).2 (by simp; omega)⟩)
     clear hr hg2 r0 r1 rf0 rf1
     rename Ready y1 p a len cap => hr
     obtain ⟨r0, r1, rf0, rf1⟩ := cell2g gS
     obtain ⟨px, hpx⟩ : ∃ px, (ps.getD kk (0, 0)).1 = px := ⟨_, rfl⟩
     obtain ⟨py, hpy⟩ : ∃ py, (ps.getD kk (0, 0)).2 = py := ⟨_, rfl⟩
     have HPX := hid hpx
     have HPY := hid hpy
     clear hpx hpy
     go_wp2_with fail
     refine hK.out _ _ ?_ (fun hHeld => ?_)
     ·exact True.intro
     clear hK K
     try simp only [sq]
     refine rd1 3 rfl (fun K hK => ?_)
     try simp only [sq]
     go_simp
     refine hK.out _ _ ?_ (fun hHeld => ?_)
     ·exact True.intro
     clear hK K
     try simp only [sq]
     refine tkR ?_ 9 rfl (fun _ _ _ h => h) hHeld ?_ ?_
     rotate_left
     ·intro w hSw; (try dsimp only at hSw); go_simp; try (with_reducible rfl)
     try simp only [sq]
     refine rd1 10 rfl (fun K hK => ?_)
     try simp only [sq]
     obtain ⟨d0, d1⟩ := HA.out kk hkk
     rw [HPX.out] at d0
     rw [HPY.out] at d1
     simp only [Nat.zero_add] at d0 d1
     go_simp
     refine hK.out _ _ ?_ (fun hHeld => ?_)
     ·exact True.intro
     clear hK K
     try simp only [sq]
     refine rd1 11 rfl (fun K hK => ?_)
     try simp only [sq]
     go_simp
     have b0 := keepalloc r0 (.cells #[.int .i64 px, .int .i64 py] 91)
     have b1 := keepalloc r1 (.cells #[.int .i64 px, .int .i64 py] 91)
     refine hK.out _ _ ?_ (fun hHeld => ?_)
     ·exact True.intro
     clear hK K
     try simp only [sq]
     refine rd1 12 rfl (fun K hK => ?_)
     have hSW := lt_of_block gS
     refine step_append_lies _ (by rfl) _ _ _ (by rfl) B 91 i0 _ 2 16 Tryz.underlying46 hi0 hz0 hz1 hz2 rfl (by omega) _ ps.length (flat2 ps) (by rfl) (World.ownsRow.alloc hrow _) ⟨y1.heap.size, 0, none⟩ 1 1 [.int .i64 px, .int .i64 py] (by rfl) (by rfl) (World.news_of_block (cs := #[.int .i64 px, .int .i64 py]) (t := 91) (fr := (0, 0)) (heap_alloc_new y1 _)) (by simp [Value.oneCell']) (by omega) (by unfold maxLen; omega) (by omega) (by simp; omega) (y1.heap.size + 1) (by simp) ?_
     intro gg cq s2 hown2 hgrow hat hlt2
     have hvS : some S ≠ (Value.slice (some ⟨g, 0, none⟩) ps.length cp).ownBlock := by simp [Value.ownBlock]; omega
     have hvR : some w.heap.size ≠ (Value.slice (some ⟨g, 0, none⟩) ps.length cp).ownBlock := by simp [Value.ownBlock]; omega
     replace gS := (hgrow.block S (by have := lt_of_block gS; simp; omega) hvS).trans (old_alloc gS)
     replace gR := (hgrow.block _ (by have := lt_of_block gR; simp; omega) hvR).trans (old_alloc gR)
     have hgS2 : gg ≠ S := by
      rcases hat with e | e
      ·simp [Value.ownBlock] at e; omega
      ·omega
     have hgg : B ≤ gg := (World.ownsRow.lt hown2 gg rfl).1
     refine hK.out _ _ ?_ (fun hHeld => ?_)
     ·exact True.intro
     clear hK K r0 r1 rf0 rf1
     replace hr := (hr.alloc _).kept hgrow (fun y hy => by simp [Value.ownBlock] at hy; omega)
     replace hg := grown_upr (grown_trans hg (grown_alloc _ _ _)) hgrow (fun y hy => by simp [Value.ownBlock] at hy; omega)
     obtain ⟨r0, r1, rf0, rf1⟩ := cell2g gS
     try simp only [sq]
     refine tkR ?_ 13 rfl (fun _ _ _ h => h) hHeld ?_ ?_
     rotate_left
     ·intro w hSw; (try dsimp only at hSw); go_simp; try (with_reducible rfl)
     try simp only [sq]
     refine rd1 14 rfl (fun K hK => ?_)
     try simp only [sq]
     go_simp
     refine hK.out _ _ ?_ (fun hHeld => ?_)
     ·exact True.intro
     clear hK K
     have hrow2 := row_self hown2
     try simp only [sq]
     refine wpAnyH_done (by kernel_rfl) ?_ _
     have gR2 := set_far (q := S) (k := 1) (u := (.slice (some ⟨gg, 0, none⟩) (ps.length + 1) cq)) gR (by omega)
     have gS2 := set_at (k := 1) (u := (.slice (some ⟨gg, 0, none⟩) (ps.length + 1) cq)) gS
     obtain ⟨t0, t1, tf0, tf1⟩ := cell2g gS2
     have hrow3 : PtRow _ B (.slice (some ⟨gg, 0, none⟩) (ps.length + 1) cq) (ps ++ [(px, py)]) := World.ownsRow.kept hrow2 (grown_set s2 S 1 (.slice (some ⟨gg, 0, none⟩) (ps.length + 1) cq)) (Or.inr (by simp [Value.ownBlock]; omega))
     have hr3 := hr.set (n := S) (k := 1) (by omega) (.slice (some ⟨gg, 0, none⟩) (ps.length + 1) cq)
     have hg3 := grown_setn (k := 1) hg (n := S) (by omega) (.slice (some ⟨gg, 0, none⟩) (ps.length + 1) cq)
     clear hown2 hgrow hat hrow2 hrow HA
     obtain ⟨e0, e1, ef0, ef1⟩ := cell2g gR2
     have hzf : w.heap.size < (s2.setCell ⟨S, 1, none⟩ (.slice (some ⟨gg, 0, none⟩) (ps.length + 1) cq)).heap.size := lt_of_block gR2
     obtain ⟨v', ev, z0', z1', hrow', hr', hg'⟩ := fin_shape (k := kd) hp (Nat.le_refl _) gR2 hrow3 (by omega) (by simp [Value.ownBlock]; omega) hr3 hg3
     have Hev := hid ev
     have Hrow := hid hrow'
     clear ev hrow'
     go_wp2_with fail
     rw [← Hev.out]
     exact bodyPost_ret (v := .agg #[.int .i64 (kd), (.slice (some ⟨gg, 0, none⟩) (ps.length + 1) cq)]) (by simp [results, Tryz.results154, go_sem, z0', z1']) rfl ⟨kd, (ps ++ [(px, py)]), _, rfl, by simp; omega, Hrow.out, hr', hg'⟩
  ·skip
   try simp only [sq]
   go_simp
   refine hK.out _ _ ?_ (fun hHeld => ?_)
   ·exact True.intro
   clear hK K
   try simp only [sq]
   refine wpAnyH_ready (rs := [1, 6]) (by kernel_rfl) (by simp) ?_
   refine (AllReadyH.cons rfl (fun K hK => ?_) (AllReadyH.cons rfl (fun K hK => ?_) AllReadyH.nil))
   ·skip
    try simp only [sq]
    go_simp
    refine hK.out _ _ ?_ (fun hHeld => ?_)
    ·exact True.intro
    clear hK K
    try simp only [sq]
    refine rd1 6 rfl (fun K hK => ?_)
    try simp only [sq]
    go_simp
    refine hK.out _ _ ?_ (fun hHeld => ?_)
    ·exact True.intro
    clear hK K
    try simp only [sq]
    refine tkR ?_ 7 rfl (fun _ _ _ h => h) hHeld ?_ ?_
    rotate_left
    ·intro w hSw; (try dsimp only at hSw); go_simp; try (with_reducible rfl)
    try simp only [sq]
    refine rd1 8 rfl (fun K hK => ?_)
    try simp only [sq]
    go_simp
    go_at_call 38
    refine (below_r _ p a len cap (ps.length : Int) (by omega) (by omega) hr).mono ?_
    rintro e y1 ⟨c, rfl, c0, c1, hr2, hg2⟩
    obtain ⟨kk, rfl⟩ := Int.eq_ofNat_of_zero_le c0
    have hkk : kk < ps.length := by omega
    replace gS := grown_blk hg2 gS (by omega)
    replace gR := grown_blk hg2 gR (by omega)
    replace hrow := World.ownsRow.kept hrow hg2 (Or.inr (by simp [Value.ownBlock]; omega))
    replace hg := grown_trans hg hg2
    replace HA := hid (show PtsAt y1 g 0 ps from fun j hj => ⟨hg2.cell (HA.out j hj).1 (by simp; omega), hg2.cell (HA.out j hj).2 (by simp; omega)⟩)
    clear hr hg2 r0 r1 rf0 rf1
    rename Ready y1 p a len cap => hr
    obtain ⟨r0, r1, rf0, rf1⟩ := cell2g gS
    obtain ⟨px, hpx⟩ : ∃ px, (ps.getD kk (0, 0)).1 = px := ⟨_, rfl⟩
    obtain ⟨py, hpy⟩ : ∃ py, (ps.getD kk (0, 0)).2 = py := ⟨_, rfl⟩
    have HPX := hid hpx
    have HPY := hid hpy
    clear hpx hpy
    go_wp2_with fail
    refine hK.out _ _ ?_ (fun hHeld => ?_)
    ·exact True.intro
    clear hK K
    try simp only [sq]
    refine tkR ?_ 9 rfl (fun _ _ _ h => h) hHeld ?_ ?_
    rotate_left
    ·intro w hSw; (try dsimp only at hSw); go_simp; try (with_reducible rfl)
    try simp only [sq]
    refine rd1 10 rfl (fun K hK => ?_)
    try simp only [sq]
    obtain ⟨d0, d1⟩ := HA.out kk hkk
    rw [HPX.out] at d0
    rw [HPY.out] at d1
    simp only [Nat.zero_add] at d0 d1
    go_simp
    refine hK.out _ _ ?_ (fun hHeld => ?_)
    ·exact True.intro
    clear hK K
    try simp only [sq]
    refine rd1 11 rfl (fun K hK => ?_)
    try simp only [sq]
    go_simp
    have b0 := keepalloc r0 (.cells #[.int .i64 px, .int .i64 py] 91)
    have b1 := keepalloc r1 (.cells #[.int .i64 px, .int .i64 py] 91)
    refine hK.out _ _ ?_ (fun hHeld => ?_)
    ·exact True.intro
    clear hK K
    try simp only [sq]
    refine rd1 12 rfl (fun K hK => ?_)
    have hSW := lt_of_block gS
    refine step_append_lies _ (by rfl) _ _ _ (by rfl) B 91 i0 _ 2 16 Tryz.underlying46 hi0 hz0 hz1 hz2 rfl (by omega) _ ps.length (flat2 ps) (by rfl) (World.ownsRow.alloc hrow _) ⟨y1.heap.size, 0, none⟩ 1 1 [.int .i64 px, .int .i64 py] (by rfl) (by rfl) (World.news_of_block (cs := #[.int .i64 px, .int .i64 py]) (t := 91) (fr := (0, 0)) (heap_alloc_new y1 _)) (by simp [Value.oneCell']) (by omega) (by unfold maxLen; omega) (by omega) (by simp; omega) (y1.heap.size + 1) (by simp) ?_
    intro gg cq s2 hown2 hgrow hat hlt2
    have hvS : some S ≠ (Value.slice (some ⟨g, 0, none⟩) ps.length cp).ownBlock := by simp [Value.ownBlock]; omega
    have hvR : some w.heap.size ≠ (Value.slice (some ⟨g, 0, none⟩) ps.length cp).ownBlock := by simp [Value.ownBlock]; omega
    replace gS := (hgrow.block S (by have := lt_of_block gS; simp; omega) hvS).trans (old_alloc gS)
    replace gR := (hgrow.block _ (by have := lt_of_block gR; simp; omega) hvR).trans (old_alloc gR)
    have hgS2 : gg ≠ S := by
     rcases hat with e | e
     ·simp [Value.ownBlock] at e; omega
     ·omega
    have hgg : B ≤ gg := (World.ownsRow.lt hown2 gg rfl).1
    refine hK.out _ _ ?_ (fun hHeld => ?_)
    ·exact True.intro
    clear hK K r0 r1 rf0 rf1
    replace hr := (hr.alloc _).kept hgrow (fun y hy => by simp [Value.ownBlock] at hy; omega)
    replace hg := grown_upr (grown_trans hg (grown_alloc _ _ _)) hgrow (fun y hy => by simp [Value.ownBlock] at hy; omega)
    obtain ⟨r0, r1, rf0, rf1⟩ := cell2g gS
    try simp only [sq]
    refine tkR ?_ 13 rfl (fun _ _ _ h => h) hHeld ?_ ?_
    rotate_left
    ·intro w hSw; (try dsimp only at hSw); go_simp; try (with_reducible rfl)
    try simp only [sq]
    refine rd1 14 rfl (fun K hK => ?_)
    try simp only [sq]
    go_simp
    refine hK.out _ _ ?_ (fun hHeld => ?_)
    ·exact True.intro
    clear hK K
    have hrow2 := row_self hown2
    try simp only [sq]
    refine wpAnyH_done (by kernel_rfl) ?_ _
    have gR2 := set_far (q := S) (k := 1) (u := (.slice (some ⟨gg, 0, none⟩) (ps.length + 1) cq)) gR (by omega)
    have gS2 := set_at (k := 1) (u := (.slice (some ⟨gg, 0, none⟩) (ps.length + 1) cq)) gS
    obtain ⟨t0, t1, tf0, tf1⟩ := cell2g gS2
    have hrow3 : PtRow _ B (.slice (some ⟨gg, 0, none⟩) (ps.length + 1) cq) (ps ++ [(px, py)]) := World.ownsRow.kept hrow2 (grown_set s2 S 1 (.slice (some ⟨gg, 0, none⟩) (ps.length + 1) cq)) (Or.inr (by simp [Value.ownBlock]; omega))
    have hr3 := hr.set (n := S) (k := 1) (by omega) (.slice (some ⟨gg, 0, none⟩) (ps.length + 1) cq)
    have hg3 := grown_setn (k := 1) hg (n := S) (by omega) (.slice (some ⟨gg, 0, none⟩) (ps.length + 1) cq)
    clear hown2 hgrow hat hrow2 hrow HA
    obtain ⟨e0, e1, ef0, ef1⟩ := cell2g gR2
    have hzf : w.heap.size < (s2.setCell ⟨S, 1, none⟩ (.slice (some ⟨gg, 0, none⟩) (ps.length + 1) cq)).heap.size := lt_of_block gR2
    obtain ⟨v', ev, z0', z1', hrow', hr', hg'⟩ := fin_shape (k := kd) hp (Nat.le_refl _) gR2 hrow3 (by omega) (by simp [Value.ownBlock]; omega) hr3 hg3
    have Hev := hid ev
    have Hrow := hid hrow'
    clear ev hrow'
    go_wp2_with fail
    rw [← Hev.out]
    exact bodyPost_ret (v := .agg #[.int .i64 (kd), (.slice (some ⟨gg, 0, none⟩) (ps.length + 1) cq)]) (by simp [results, Tryz.results154, go_sem, z0', z1']) rfl ⟨kd, (ps ++ [(px, py)]), _, rfl, by simp; omega, Hrow.out, hr', hg'⟩
   ·skip
    try simp only [sq]
    go_simp
    refine hK.out _ _ ?_ (fun hHeld => ?_)
    ·exact True.intro
    clear hK K
    try simp only [sq]
    refine tkR ?_ 7 rfl (fun _ _ _ h => h) hHeld ?_ ?_
    rotate_left
    ·intro w hSw; (try dsimp only at hSw); go_simp; try (with_reducible rfl)
    try simp only [sq]
    refine wpAnyH_ready (rs := [1, 8]) (by kernel_rfl) (by simp) ?_
    refine (AllReadyH.cons rfl (fun K hK => ?_) (AllReadyH.cons rfl (fun K hK => ?_) AllReadyH.nil))
    ·skip
     try simp only [sq]
     go_simp
     refine hK.out _ _ ?_ (fun hHeld => ?_)
     ·exact True.intro
     clear hK K
     try simp only [sq]
     refine rd1 8 rfl (fun K hK => ?_)
     try simp only [sq]
     go_simp
     go_at_call 38
     refine (below_r _ p a len cap (ps.length : Int) (by omega) (by omega) hr).mono ?_
     rintro e y1 ⟨c, rfl, c0, c1, hr2, hg2⟩
     obtain ⟨kk, rfl⟩ := Int.eq_ofNat_of_zero_le c0
     have hkk : kk < ps.length := by omega
     replace gS := grown_blk hg2 gS (by omega)
     replace gR := grown_blk hg2 gR (by omega)
     replace hrow := World.ownsRow.kept hrow hg2 (Or.inr (by simp [Value.ownBlock]; omega))
     replace hg := grown_trans hg hg2
     replace HA := hid (show PtsAt y1 g 0 ps from fun j hj => ⟨hg2.cell (HA.out j hj).1 (by simp; omega), hg2.cell (HA.out j hj).2 (by simp; omega)⟩)
     clear hr hg2 r0 r1 rf0 rf1
     rename Ready y1 p a len cap => hr
     obtain ⟨r0, r1, rf0, rf1⟩ := cell2g gS
     obtain ⟨px, hpx⟩ : ∃ px, (ps.getD kk (0, 0)).1 = px := ⟨_, rfl⟩
     obtain ⟨py, hpy⟩ : ∃ py, (ps.getD kk (0, 0)).2 = py := ⟨_, rfl⟩
     have HPX := hid hpx
     have HPY := hid hpy
     clear hpx hpy
     go_wp2_with fail
     refine hK.out _ _ ?_ (fun hHeld => ?_)
     ·exact True.intro
     clear hK K
     try simp only [sq]
     refine tkR ?_ 9 rfl (fun _ _ _ h => h) hHeld ?_ ?_
     rotate_left
     ·intro w hSw; (try dsimp only at hSw); go_simp; try (with_reducible rfl)
     try simp only [sq]
     refine rd1 10 rfl (fun K hK => ?_)
     try simp only [sq]
     obtain ⟨d0, d1⟩ := HA.out kk hkk
     rw [HPX.out] at d0
     rw [HPY.out] at d1
     simp only [Nat.zero_add] at d0 d1
     go_simp
     refine hK.out _ _ ?_ (fun hHeld => ?_)
     ·exact True.intro
     clear hK K
     try simp only [sq]
     refine rd1 11 rfl (fun K hK => ?_)
     try simp only [sq]
     go_simp
     have b0 := keepalloc r0 (.cells #[.int .i64 px, .int .i64 py] 91)
     have b1 := keepalloc r1 (.cells #[.int .i64 px, .int .i64 py] 91)
     refine hK.out _ _ ?_ (fun hHeld => ?_)
     ·exact True.intro
     clear hK K
     try simp only [sq]
     refine rd1 12 rfl (fun K hK => ?_)
     have hSW := lt_of_block gS
     refine step_append_lies _ (by rfl) _ _ _ (by rfl) B 91 i0 _ 2 16 Tryz.underlying46 hi0 hz0 hz1 hz2 rfl (by omega) _ ps.length (flat2 ps) (by rfl) (World.ownsRow.alloc hrow _) ⟨y1.heap.size, 0, none⟩ 1 1 [.int .i64 px, .int .i64 py] (by rfl) (by rfl) (World.news_of_block (cs := #[.int .i64 px, .int .i64 py]) (t := 91) (fr := (0, 0)) (heap_alloc_new y1 _)) (by simp [Value.oneCell']) (by omega) (by unfold maxLen; omega) (by omega) (by simp; omega) (y1.heap.size + 1) (by simp) ?_
     intro gg cq s2 hown2 hgrow hat hlt2
     have hvS : some S ≠ (Value.slice (some ⟨g, 0, none⟩) ps.length cp).ownBlock := by simp [Value.ownBlock]; omega
     have hvR : some w.heap.size ≠ (Value.slice (some ⟨g, 0, none⟩) ps.length cp).ownBlock := by simp [Value.ownBlock]; omega
     replace gS := (hgrow.block S (by have := lt_of_block gS; simp; omega) hvS).trans (old_alloc gS)
     replace gR := (hgrow.block _ (by have := lt_of_block gR; simp; omega) hvR).trans (old_alloc gR)
     have hgS2 : gg ≠ S := by
      rcases hat with e | e
      ·simp [Value.ownBlock] at e; omega
      ·omega
     have hgg : B ≤ gg := (World.ownsRow.lt hown2 gg rfl).1
     refine hK.out _ _ ?_ (fun hHeld => ?_)
     ·exact True.intro
     clear hK K r0 r1 rf0 rf1
     replace hr := (hr.alloc _).kept hgrow (fun y hy => by simp [Value.ownBlock] at hy; omega)
     replace hg := grown_upr (grown_trans hg (grown_alloc _ _ _)) hgrow (fun y hy => by simp [Value.ownBlock] at hy; omega)
     obtain ⟨r0, r1, rf0, rf1⟩ := cell2g gS
     try simp only [sq]
     refine tkR ?_ 13 rfl (fun _ _ _ h => h) hHeld ?_ ?_
     rotate_left
     ·intro w hSw; (try dsimp only at hSw); go_simp; try (with_reducible rfl)
     try simp only [sq]
     refine rd1 14 rfl (fun K hK => ?_)
     try simp only [sq]
     go_simp
     refine hK.out _ _ ?_ (fun hHeld => ?_)
     ·exact True.intro
     clear hK K
     have hrow2 := row_self hown2
     try simp only [sq]
     refine wpAnyH_done (by kernel_rfl) ?_ _
     have gR2 := set_far (q := S) (k := 1) (u := (.slice (some ⟨gg, 0, none⟩) (ps.length + 1) cq)) gR (by omega)
     have gS2 := set_at (k := 1) (u := (.slice (some ⟨gg, 0, none⟩) (ps.length + 1) cq)) gS
     obtain ⟨t0, t1, tf0, tf1⟩ := cell2g gS2
     have hrow3 : PtRow _ B (.slice (some ⟨gg, 0, none⟩) (ps.length + 1) cq) (ps ++ [(px, py)]) := World.ownsRow.kept hrow2 (grown_set s2 S 1 (.slice (some ⟨gg, 0, none⟩) (ps.length + 1) cq)) (Or.inr (by simp [Value.ownBlock]; omega))
     have hr3 := hr.set (n := S) (k := 1) (by omega) (.slice (some ⟨gg, 0, none⟩) (ps.length + 1) cq)
     have hg3 := grown_setn (k := 1) hg (n := S) (by omega) (.slice (some ⟨gg, 0, none⟩) (ps.length + 1) cq)
     clear hown2 hgrow hat hrow2 hrow HA
     obtain ⟨e0, e1, ef0, ef1⟩ := cell2g gR2
     have hzf : w.heap.size < (s2.setCell ⟨S, 1, none⟩ (.slice (some ⟨gg, 0, none⟩) (ps.length + 1) cq)).heap.size := lt_of_block gR2
     obtain ⟨v', ev, z0', z1', hrow', hr', hg'⟩ := fin_shape (k := kd) hp (Nat.le_refl _) gR2 hrow3 (by omega) (by simp [Value.ownBlock]; omega) hr3 hg3
     have Hev := hid ev
     have Hrow := hid hrow'
     clear ev hrow'
     go_wp2_with fail
     rw [← Hev.out]
     exact bodyPost_ret (v := .agg #[.int .i64 (kd), (.slice (some ⟨gg, 0, none⟩) (ps.length + 1) cq)]) (by simp [results, Tryz.results154, go_sem, z0', z1']) rfl ⟨kd, (ps ++ [(px, py)]), _, rfl, by simp; omega, Hrow.out, hr', hg'⟩
    ·skip
     try simp only [sq]
     go_simp
     go_at_call 38
     refine (below_r _ p a len cap (ps.length : Int) (by omega) (by omega) hr).mono ?_
     rintro e y1 ⟨c, rfl, c0, c1, hr2, hg2⟩
     obtain ⟨kk, rfl⟩ := Int.eq_ofNat_of_zero_le c0
     have hkk : kk < ps.length := by omega
     replace gS := grown_blk hg2 gS (by omega)
     replace gR := grown_blk hg2 gR (by omega)
     replace hrow := World.ownsRow.kept hrow hg2 (Or.inr (by simp [Value.ownBlock]; omega))
     replace hg := grown_trans hg hg2
     replace HA := hid (show PtsAt y1 g 0 ps from fun j hj => ⟨hg2.cell (HA.out j hj).1 (by simp; omega), hg2.cell (HA.out j hj).2 (by simp; omega)⟩)
     clear hr hg2 r0 r1 rf0 rf1
     rename Ready y1 p a len cap => hr
     obtain ⟨r0, r1, rf0, rf1⟩ := cell2g gS
     obtain ⟨px, hpx⟩ : ∃ px, (ps.getD kk (0, 0)).1 = px := ⟨_, rfl⟩
     obtain ⟨py, hpy⟩ : ∃ py, (ps.getD kk (0, 0)).2 = py := ⟨_, rfl⟩
     have HPX := hid hpx
     have HPY := hid hpy
     clear hpx hpy
     go_wp2_with fail
     refine hK.out _ _ ?_ (fun hHeld => ?_)
     ·exact True.intro
     clear hK K
     try simp only [sq]
     refine tkR ?_ 9 rfl (fun _ _ _ h => h) hHeld ?_ ?_
     rotate_left
     ·intro w hSw; (try dsimp only at hSw); go_simp; try (with_reducible rfl)
     try simp only [sq]
     refine wpAnyH_ready (rs := [1, 10]) (by kernel_rfl) (by simp) ?_
     refine (AllReadyH.cons rfl (fun K hK => ?_) (AllReadyH.cons rfl (fun K hK => ?_) AllReadyH.nil))
     ·skip
      try simp only [sq]
      go_simp
      refine hK.out _ _ ?_ (fun hHeld => ?_)
      ·exact True.intro
      clear hK K
      try simp only [sq]
      refine rd1 10 rfl (fun K hK => ?_)
      try simp only [sq]
      obtain ⟨d0, d1⟩ := HA.out kk hkk
      rw [HPX.out] at d0
      rw [HPY.out] at d1
      simp only [Nat.zero_add] at d0 d1
      go_simp
      refine hK.out _ _ ?_ (fun hHeld => ?_)
      ·exact True.intro
      clear hK K
      try simp only [sq]
      refine rd1 11 rfl (fun K hK => ?_)
      try simp only [sq]
      go_simp
      have b0 := keepalloc r0 (.cells #[.int .i64 px, .int .i64 py] 91)
      have b1 := keepalloc r1 (.cells #[.int .i64 px, .int .i64 py] 91)
      refine hK.out _ _ ?_ (fun hHeld => ?_)
      ·exact True.intro
      clear hK K
      try simp only [sq]
      refine rd1 12 rfl (fun K hK => ?_)
      have hSW := lt_of_block gS
      refine step_append_lies _ (by rfl) _ _ _ (by rfl) B 91 i0 _ 2 16 Tryz.underlying46 hi0 hz0 hz1 hz2 rfl (by omega) _ ps.length (flat2 ps) (by rfl) (World.ownsRow.alloc hrow _) ⟨y1.heap.size, 0, none⟩ 1 1 [.int .i64 px, .int .i64 py] (by rfl) (by rfl) (World.news_of_block (cs := #[.int .i64 px, .int .i64 py]) (t := 91) (fr := (0, 0)) (heap_alloc_new y1 _)) (by simp [Value.oneCell']) (by omega) (by unfold maxLen; omega) (by omega) (by simp; omega) (y1.heap.size + 1) (by simp) ?_
      intro gg cq s2 hown2 hgrow hat hlt2
      have hvS : some S ≠ (Value.slice (some ⟨g, 0, none⟩) ps.length cp).ownBlock := by simp [Value.ownBlock]; omega
      have hvR : some w.heap.size ≠ (Value.slice (some ⟨g, 0, none⟩) ps.length cp).ownBlock := by simp [Value.ownBlock]; omega
      replace gS := (hgrow.block S (by have := lt_of_block gS; simp; omega) hvS).trans (old_alloc gS)
      replace gR := (hgrow.block _ (by have := lt_of_block gR; simp; omega) hvR).trans (old_alloc gR)
      have hgS2 : gg ≠ S := by
       rcases hat with e | e
       ·simp [Value.ownBlock] at e; omega
       ·omega
      have hgg : B ≤ gg := (World.ownsRow.lt hown2 gg rfl).1
      refine hK.out _ _ ?_ (fun hHeld => ?_)
      ·exact True.intro
      clear hK K r0 r1 rf0 rf1
      replace hr := (hr.alloc _).kept hgrow (fun y hy => by simp [Value.ownBlock] at hy; omega)
      replace hg := grown_upr (grown_trans hg (grown_alloc _ _ _)) hgrow (fun y hy => by simp [Value.ownBlock] at hy; omega)
      obtain ⟨r0, r1, rf0, rf1⟩ := cell2g gS
      try simp only [sq]
      refine tkR ?_ 13 rfl (fun _ _ _ h => h) hHeld ?_ ?_
      rotate_left
      ·intro w hSw; (try dsimp only at hSw); go_simp; try (with_reducible rfl)
      try simp only [sq]
      refine rd1 14 rfl (fun K hK => ?_)
      try simp only [sq]
      go_simp
      refine hK.out _ _ ?_ (fun hHeld => ?_)
      ·exact True.intro
      clear hK K
      have hrow2 := row_self hown2
      try simp only [sq]
      refine wpAnyH_done (by kernel_rfl) ?_ _
      have gR2 := set_far (q := S) (k := 1) (u := (.slice (some ⟨gg, 0, none⟩) (ps.length + 1) cq)) gR (by omega)
      have gS2 := set_at (k := 1) (u := (.slice (some ⟨gg, 0, none⟩) (ps.length + 1) cq)) gS
      obtain ⟨t0, t1, tf0, tf1⟩ := cell2g gS2
      have hrow3 : PtRow _ B (.slice (some ⟨gg, 0, none⟩) (ps.length + 1) cq) (ps ++ [(px, py)]) := World.ownsRow.kept hrow2 (grown_set s2 S 1 (.slice (some ⟨gg, 0, none⟩) (ps.length + 1) cq)) (Or.inr (by simp [Value.ownBlock]; omega))
      have hr3 := hr.set (n := S) (k := 1) (by omega) (.slice (some ⟨gg, 0, none⟩) (ps.length + 1) cq)
      have hg3 := grown_setn (k := 1) hg (n := S) (by omega) (.slice (some ⟨gg, 0, none⟩) (ps.length + 1) cq)
      clear hown2 hgrow hat hrow2 hrow HA
      obtain ⟨e0, e1, ef0, ef1⟩ := cell2g gR2
      have hzf : w.heap.size < (s2.setCell ⟨S, 1, none⟩ (.slice (some ⟨gg, 0, none⟩) (ps.length + 1) cq)).heap.size := lt_of_block gR2
      obtain ⟨v', ev, z0', z1', hrow', hr', hg'⟩ := fin_shape (k := kd) hp (Nat.le_refl _) gR2 hrow3 (by omega) (by simp [Value.ownBlock]; omega) hr3 hg3
      have Hev := hid ev
      have Hrow := hid hrow'
      clear ev hrow'
      go_wp2_with fail
      rw [← Hev.out]
      exact bodyPost_ret (v := .agg #[.int .i64 (kd), (.slice (some ⟨gg, 0, none⟩) (ps.length + 1) cq)]) (by simp [results, Tryz.results154, go_sem, z0', z1']) rfl ⟨kd, (ps ++ [(px, py)]), _, rfl, by simp; omega, Hrow.out, hr', hg'⟩
     ·skip
      try simp only [sq]
      obtain ⟨d0, d1⟩ := HA.out kk hkk
      rw [HPX.out] at d0
      rw [HPY.out] at d1
      simp only [Nat.zero_add] at d0 d1
      go_simp
      refine hK.out _ _ ?_ (fun hHeld => ?_)
      ·exact True.intro
      clear hK K
      try simp only [sq]
      refine wpAnyH_ready (rs := [1, 11]) (by kernel_rfl) (by simp) ?_
      refine (AllReadyH.cons rfl (fun K hK => ?_) (AllReadyH.cons rfl (fun K hK => ?_) AllReadyH.nil))
      ·skip
       try simp only [sq]
       go_simp
       refine hK.out _ _ ?_ (fun hHeld => ?_)
       ·exact True.intro
       clear hK K
       try simp only [sq]
       refine rd1 11 rfl (fun K hK => ?_)
       try simp only [sq]
       go_simp
       have b0 := keepalloc r0 (.cells #[.int .i64 px, .int .i64 py] 91)
       have b1 := keepalloc r1 (.cells #[.int .i64 px, .int .i64 py] 91)
       refine hK.out _ _ ?_ (fun hHeld => ?_)
       ·exact True.intro
       clear hK K
       try simp only [sq]
       refine rd1 12 rfl (fun K hK => ?_)
       have hSW := lt_of_block gS
       refine step_append_lies _ (by rfl) _ _ _ (by rfl) B 91 i0 _ 2 16 Tryz.underlying46 hi0 hz0 hz1 hz2 rfl (by omega) _ ps.length (flat2 ps) (by rfl) (World.ownsRow.alloc hrow _) ⟨y1.heap.size, 0, none⟩ 1 1 [.int .i64 px, .int .i64 py] (by rfl) (by rfl) (World.news_of_block (cs := #[.int .i64 px, .int .i64 py]) (t := 91) (fr := (0, 0)) (heap_alloc_new y1 _)) (by simp [Value.oneCell']) (by omega) (by unfold maxLen; omega) (by omega) (by simp; omega) (y1.heap.size + 1) (by simp) ?_
       intro gg cq s2 hown2 hgrow hat hlt2
       have hvS : some S ≠ (Value.slice (some ⟨g, 0, none⟩) ps.length cp).ownBlock := by simp [Value.ownBlock]; omega
       have hvR : some w.heap.size ≠ (Value.slice (some ⟨g, 0, none⟩) ps.length cp).ownBlock := by simp [Value.ownBlock]; omega
       replace gS := (hgrow.block S (by have := lt_of_block gS; simp; omega) hvS).trans (old_alloc gS)
       replace gR := (hgrow.block _ (by have := lt_of_block gR; simp; omega) hvR).trans (old_alloc gR)
       have hgS2 : gg ≠ S := by
        rcases hat with e | e
        ·simp [Value.ownBlock] at e; omega
        ·omega
       have hgg : B ≤ gg := (World.ownsRow.lt hown2 gg rfl).1
       refine hK.out _ _ ?_ (fun hHeld => ?_)
       ·exact True.intro
       clear hK K r0 r1 rf0 rf1
       replace hr := (hr.alloc _).kept hgrow (fun y hy => by simp [Value.ownBlock] at hy; omega)
       replace hg := grown_upr (grown_trans hg (grown_alloc _ _ _)) hgrow (fun y hy => by simp [Value.ownBlock] at hy; omega)
       obtain ⟨r0, r1, rf0, rf1⟩ := cell2g gS
       try simp only [sq]
       refine tkR ?_ 13 rfl (fun _ _ _ h => h) hHeld ?_ ?_
       rotate_left
       ·intro w hSw; (try dsimp only at hSw); go_simp; try (with_reducible rfl)
       try simp only [sq]
       refine rd1 14 rfl (fun K hK => ?_)
       try simp only [sq]
       go_simp
       refine hK.out _ _ ?_ (fun hHeld => ?_)
       ·exact True.intro
       clear hK K
       have hrow2 := row_self hown2
       try simp only [sq]
       refine wpAnyH_done (by kernel_rfl) ?_ _
       have gR2 := set_far (q := S) (k := 1) (u := (.slice (some ⟨gg, 0, none⟩) (ps.length + 1) cq)) gR (by omega)
       have gS2 := set_at (k := 1) (u := (.slice (some ⟨gg, 0, none⟩) (ps.length + 1) cq)) gS
       obtain ⟨t0, t1, tf0, tf1⟩ := cell2g gS2
       have hrow3 : PtRow _ B (.slice (some ⟨gg, 0, none⟩) (ps.length + 1) cq) (ps ++ [(px, py)]) := World.ownsRow.kept hrow2 (grown_set s2 S 1 (.slice (some ⟨gg, 0, none⟩) (ps.length + 1) cq)) (Or.inr (by simp [Value.ownBlock]; omega))
       have hr3 := hr.set (n := S) (k := 1) (by omega) (.slice (some ⟨gg, 0, none⟩) (ps.length + 1) cq)
       have hg3 := grown_setn (k := 1) hg (n := S) (by omega) (.slice (some ⟨gg, 0, none⟩) (ps.length + 1) cq)
       clear hown2 hgrow hat hrow2 hrow HA
       obtain ⟨e0, e1, ef0, ef1⟩ := cell2g gR2
       have hzf : w.heap.size < (s2.setCell ⟨S, 1, none⟩ (.slice (some ⟨gg, 0, none⟩) (ps.length + 1) cq)).heap.size := lt_of_block gR2
       obtain ⟨v', ev, z0', z1', hrow', hr', hg'⟩ := fin_shape (k := kd) hp (Nat.le_refl _) gR2 hrow3 (by omega) (by simp [Value.ownBlock]; omega) hr3 hg3
       have Hev := hid ev
       have Hrow := hid hrow'
       clear ev hrow'
       go_wp2_with fail
       rw [← Hev.out]
       exact bodyPost_ret (v := .agg #[.int .i64 (kd), (.slice (some ⟨gg, 0, none⟩) (ps.length + 1) cq)]) (by simp [results, Tryz.results154, go_sem, z0', z1']) rfl ⟨kd, (ps ++ [(px, py)]), _, rfl, by simp; omega, Hrow.out, hr', hg'⟩
      ·skip
       try simp only [sq]
       go_simp
       have b0 := keepalloc r0 (.cells #[.int .i64 px, .int .i64 py] 91)
       have b1 := keepalloc r1 (.cells #[.int .i64 px, .int .i64 py] 91)
       refine hK.out _ _ ?_ (fun hHeld => ?_)
       ·exact True.intro
       clear hK K
       try simp only [sq]
       refine rd1 1 rfl (fun K hK => ?_)
       try simp only [sq]
       go_simp
       refine hK.out _ _ ?_ (fun hHeld => ?_)
       ·exact True.intro
       clear hK K
       try simp only [sq]
       refine rd1 12 rfl (fun K hK => ?_)
       have hSW := lt_of_block gS
       refine step_append_lies _ (by rfl) _ _ _ (by rfl) B 91 i0 _ 2 16 Tryz.underlying46 hi0 hz0 hz1 hz2 rfl (by omega) _ ps.length (flat2 ps) (by rfl) (World.ownsRow.alloc hrow _) ⟨y1.heap.size, 0, none⟩ 1 1 [.int .i64 px, .int .i64 py] (by rfl) (by rfl) (World.news_of_block (cs := #[.int .i64 px, .int .i64 py]) (t := 91) (fr := (0, 0)) (heap_alloc_new y1 _)) (by simp [Value.oneCell']) (by omega) (by unfold maxLen; omega) (by omega) (by simp; omega) (y1.heap.size + 1) (by simp) ?_
       intro gg cq s2 hown2 hgrow hat hlt2
       have hvS : some S ≠ (Value.slice (some ⟨g, 0, none⟩) ps.length cp).ownBlock := by simp [Value.ownBlock]; omega
       have hvR : some w.heap.size ≠ (Value.slice (some ⟨g, 0, none⟩) ps.length cp).ownBlock := by simp [Value.ownBlock]; omega
       replace gS := (hgrow.block S (by have := lt_of_block gS; simp; omega) hvS).trans (old_alloc gS)
       replace gR := (hgrow.block _ (by have := lt_of_block gR; simp; omega) hvR).trans (old_alloc gR)
       have hgS2 : gg ≠ S := by
        rcases hat with e | e
        ·simp [Value.ownBlock] at e; omega
        ·omega
       have hgg : B ≤ gg := (World.ownsRow.lt hown2 gg rfl).1
       refine hK.out _ _ ?_ (fun hHeld => ?_)
       ·exact True.intro
       clear hK K r0 r1 rf0 rf1
       replace hr := (hr.alloc _).kept hgrow (fun y hy => by simp [Value.ownBlock] at hy; omega)
       replace hg := grown_upr (grown_trans hg (grown_alloc _ _ _)) hgrow (fun y hy => by simp [Value.ownBlock] at hy; omega)
       obtain ⟨r0, r1, rf0, rf1⟩ := cell2g gS
       try simp only [sq]
       refine tkR ?_ 13 rfl (fun _ _ _ h => h) hHeld ?_ ?_
       rotate_left
       ·intro w hSw; (try dsimp only at hSw); go_simp; try (with_reducible rfl)
       try simp only [sq]
       refine rd1 14 rfl (fun K hK => ?_)
       try simp only [sq]
       go_simp
       refine hK.out _ _ ?_ (fun hHeld => ?_)
       ·exact True.intro
       clear hK K
       have hrow2 := row_self hown2
       try simp only [sq]
       refine wpAnyH_done (by kernel_rfl) ?_ _
       have gR2 := set_far (q := S) (k := 1) (u := (.slice (some ⟨gg, 0, none⟩) (ps.length + 1) cq)) gR (by omega)
       have gS2 := set_at (k := 1) (u := (.slice (some ⟨gg, 0, none⟩) (ps.length + 1) cq)) gS
       obtain ⟨t0, t1, tf0, tf1⟩ := cell2g gS2
       have hrow3 : PtRow _ B (.slice (some ⟨gg, 0, none⟩) (ps.length + 1) cq) (ps ++ [(px, py)]) := World.ownsRow.kept hrow2 (grown_set s2 S 1 (.slice (some ⟨gg, 0, none⟩) (ps.length + 1) cq)) (Or.inr (by simp [Value.ownBlock]; omega))
       have hr3 := hr.set (n := S) (k := 1) (by omega) (.slice (some ⟨gg, 0, none⟩) (ps.length + 1) cq)
       have hg3 := grown_setn (k := 1) hg (n := S) (by omega) (.slice (some ⟨gg, 0, none⟩) (ps.length + 1) cq)
       clear hown2 hgrow hat hrow2 hrow HA
       obtain ⟨e0, e1, ef0, ef1⟩ := cell2g gR2
       have hzf : w.heap.size < (s2.setCell ⟨S, 1, none⟩ (.slice (some ⟨gg, 0, none⟩) (ps.length + 1) cq)).heap.size := lt_of_block gR2
       obtain ⟨v', ev, z0', z1', hrow', hr', hg'⟩ := fin_shape (k := kd) hp (Nat.le_refl _) gR2 hrow3 (by omega) (by simp [Value.ownBlock]; omega) hr3 hg3
       have Hev := hid ev
       have Hrow := hid hrow'
       clear ev hrow'
       go_wp2_with fail
       rw [← Hev.out]
       exact bodyPost_ret (v := .agg #[.int .i64 (kd), (.slice (some ⟨gg, 0, none⟩) (ps.length + 1) cq)]) (by simp [results, Tryz.results154, go_sem, z0', z1']) rfl ⟨kd, (ps ++ [(px, py)]), _, rfl, by simp; omega, Hrow.out, hr', hg'⟩
  ·skip
   try simp only [sq]
   go_simp
   refine hK.out _ _ ?_ (fun hHeld => ?_)
   ·exact True.intro
   clear hK K
   try simp only [sq]
   refine tkR ?_ 7 rfl (fun _ _ _ h => h) hHeld ?_ ?_
   rotate_left
   ·intro w hSw; (try dsimp only at hSw); go_simp; try (with_reducible rfl)
   try simp only [sq]
   refine wpAnyH_ready (rs := [1, 3, 8]) (by kernel_rfl) (by simp) ?_
   refine (AllReadyH.cons rfl (fun K hK => ?_) (AllReadyH.cons rfl (fun K hK => ?_) (AllReadyH.cons rfl (fun K hK => ?_) AllReadyH.nil)))
   ·skip
    try simp only [sq]
    go_simp
    refine hK.out _ _ ?_ (fun hHeld => ?_)
    ·exact True.intro
    clear hK K
    try simp only [sq]
    refine wpAnyH_ready (rs := [3, 8]) (by kernel_rfl) (by simp) ?_
    refine (AllReadyH.cons rfl (fun K hK => ?_) (AllReadyH.cons rfl (fun K hK => ?_) AllReadyH.nil))
    ·skip
     try simp only [sq]
     go_simp
     refine hK.out _ _ ?_ (fun hHeld => ?_)
     ·exact True.intro
     clear hK K
     try simp only [sq]
     refine rd1 8 rfl (fun K hK => ?_)
     try simp only [sq]
     go_simp
     go_at_call 38
     refine (below_r _ p a len cap (ps.length : Int) (by omega) (by omega) hr).mono ?_
     rintro e y1 ⟨c, rfl, c0, c1, hr2, hg2⟩
     obtain ⟨kk, rfl⟩ := Int.eq_ofNat_of_zero_le c0
     have hkk : kk < ps.length := by omega
     replace gS := grown_blk hg2 gS (by omega)
     replace gR := grown_blk hg2 gR (by omega)
     replace hrow := World.ownsRow.kept hrow hg2 (Or.inr (by simp [Value.ownBlock]; omega))
     replace hg := grown_trans hg hg2
     replace HA := hid (show PtsAt y1 g 0 ps from fun j hj => ⟨hg2.cell (HA.out j hj).1 (by simp; omega), hg2.cell (HA.out j hj).2 (by simp; omega)⟩)
     clear hr hg2 r0 r1 rf0 rf1
     rename Ready y1 p a len cap => hr
     obtain ⟨r0, r1, rf0, rf1⟩ := cell2g gS
     obtain ⟨px, hpx⟩ : ∃ px, (ps.getD kk (0, 0)).1 = px := ⟨_, rfl⟩
     obtain ⟨py, hpy⟩ : ∃ py, (ps.getD kk (0, 0)).2 = py := ⟨_, rfl⟩
     have HPX := hid hpx
     have HPY := hid hpy
     clear hpx hpy
     go_wp2_with fail
     refine hK.out _ _ ?_ (fun hHeld => ?_)
     ·exact True.intro
     clear hK K
     try simp only [sq]
     refine tkR ?_ 9 rfl (fun _ _ _ h => h) hHeld ?_ ?_
     rotate_left
     ·intro w hSw; (try dsimp only at hSw); go_simp; try (with_reducible rfl)
     try simp only [sq]
     refine rd1 10 rfl (fun K hK => ?_)
     try simp only [sq]
     obtain ⟨d0, d1⟩ := HA.out kk hkk
     rw [HPX.out] at d0
     rw [HPY.out] at d1
     simp only [Nat.zero_add] at d0 d1
     go_simp
     refine hK.out _ _ ?_ (fun hHeld => ?_)
     ·exact True.intro
     clear hK K
     try simp only [sq]
     refine rd1 11 rfl (fun K hK => ?_)
     try simp only [sq]
     go_simp
     have b0 := keepalloc r0 (.cells #[.int .i64 px, .int .i64 py] 91)
     have b1 := keepalloc r1 (.cells #[.int .i64 px, .int .i64 py] 91)
     refine hK.out _ _ ?_ (fun hHeld => ?_)
     ·exact True.intro
     clear hK K
     try simp only [sq]
     refine rd1 12 rfl (fun K hK => ?_)
     have hSW := lt_of_block gS
     refine step_append_lies _ (by rfl) _ _ _ (by rfl) B 91 i0 _ 2 16 Tryz.underlying46 hi0 hz0 hz1 hz2 rfl (by omega) _ ps.length (flat2 ps) (by rfl) (World.ownsRow.alloc hrow _) ⟨y1.heap.size, 0, none⟩ 1 1 [.int .i64 px, .int .i64 py] (by rfl) (by rfl) (World.news_of_block (cs := #[.int .i64 px, .int .i64 py]) (t := 91) (fr := (0, 0)) (heap_alloc_new y1 _)) (by simp [Value.oneCell']) (by omega) (by unfold maxLen; omega) (by omega) (by simp; omega) (y1.heap.size + 1) (by simp) ?_
     intro gg cq s2 hown2 hgrow hat hlt2
     have hvS : some S ≠ (Value.slice (some ⟨g, 0, none⟩) ps.length cp).ownBlock := by simp [Value.ownBlock]; omega
     have hvR : some w.heap.size ≠ (Value.slice (some ⟨g, 0, none⟩) ps.length cp).ownBlock := by simp [Value.ownBlock]; omega
     replace gS := (hgrow.block S (by have := lt_of_block gS; simp; omega) hvS).trans (old_alloc gS)
     replace gR := (hgrow.block _ (by have := lt_of_block gR; simp; omega) hvR).trans (old_alloc gR)
     have hgS2 : gg ≠ S := by
      rcases hat with e | e
      ·simp [Value.ownBlock] at e; omega
      ·omega
     have hgg : B ≤ gg := (World.ownsRow.lt hown2 gg rfl).1
     refine hK.out _ _ ?_ (fun hHeld => ?_)
     ·exact True.intro
     clear hK K r0 r1 rf0 rf1
     replace hr := (hr.alloc _).kept hgrow (fun y hy => by simp [Value.ownBlock] at hy; omega)
     replace hg := grown_upr (grown_trans hg (grown_alloc _ _ _)) hgrow (fun y hy => by simp [Value.ownBlock] at hy; omega)
     obtain ⟨r0, r1, rf0, rf1⟩ := cell2g gS
     try simp only [sq]
     refine tkR ?_ 13 rfl (fun _ _ _ h => h) hHeld ?_ ?_
     rotate_left
     ·intro w hSw; (try dsimp only at hSw); go_simp; try (with_reducible rfl)
     try simp only [sq]
     refine rd1 14 rfl (fun K hK => ?_)
     try simp only [sq]
     go_simp
     refine hK.out _ _ ?_ (fun hHeld => ?_)
     ·exact True.intro
     clear hK K
     have hrow2 := row_self hown2
     try simp only [sq]
     refine wpAnyH_done (by kernel_rfl) ?_ _
     have gR2 := set_far (q := S) (k := 1) (u := (.slice (some ⟨gg, 0, none⟩) (ps.length + 1) cq)) gR (by omega)
     have gS2 := set_at (k := 1) (u := (.slice (some ⟨gg, 0, none⟩) (ps.length + 1) cq)) gS
     obtain ⟨t0, t1, tf0, tf1⟩ := cell2g gS2
     have hrow3 : PtRow _ B (.slice (some ⟨gg, 0, none⟩) (ps.length + 1) cq) (ps ++ [(px, py)]) := World.ownsRow.kept hrow2 (grown_set s2 S 1 (.slice (some ⟨gg, 0, none⟩) (ps.length + 1) cq)) (Or.inr (by simp [Value.ownBlock]; omega))
     have hr3 := hr.set (n := S) (k := 1) (by omega) (.slice (some ⟨gg, 0, none⟩) (ps.length + 1) cq)
     have hg3 := grown_setn (k := 1) hg (n := S) (by omega) (.slice (some ⟨gg, 0, none⟩) (ps.length + 1) cq)
     clear hown2 hgrow hat hrow2 hrow HA
     obtain ⟨e0, e1, ef0, ef1⟩ := cell2g gR2
     have hzf : w.heap.size < (s2.setCell ⟨S, 1, none⟩ (.slice (some ⟨gg, 0, none⟩) (ps.length + 1) cq)).heap.size := lt_of_block gR2
     obtain ⟨v', ev, z0', z1', hrow', hr', hg'⟩ := fin_shape (k := kd) hp (Nat.le_refl _) gR2 hrow3 (by omega) (by simp [Value.ownBlock]; omega) hr3 hg3
     have Hev := hid ev
     have Hrow := hid hrow'
     clear ev hrow'
     go_wp2_with fail
     rw [← Hev.out]
     exact bodyPost_ret (v := .agg #[.int .i64 (kd), (.slice (some ⟨gg, 0, none⟩) (ps.length + 1) cq)]) (by simp [results, Tryz.results154, go_sem, z0', z1']) rfl ⟨kd, (ps ++ [(px, py)]), _, rfl, by simp; omega, Hrow.out, hr', hg'⟩
    ·skip
     try simp only [sq]
     go_simp
     go_at_call 38
     refine (below_r _ p a len cap (ps.length : Int) (by omega) (by omega) hr).mono ?_
     rintro e y1 ⟨c, rfl, c0, c1, hr2, hg2⟩
     obtain ⟨kk, rfl⟩ := Int.eq_ofNat_of_zero_le c0
     have hkk : kk < ps.length := by omega
     replace gS := grown_blk hg2 gS (by omega)
     replace gR := grown_blk hg2 gR (by omega)
     replace hrow := World.ownsRow.kept hrow hg2 (Or.inr (by simp [Value.ownBlock]; omega))
     replace hg := grown_trans hg hg2
     replace HA := hid (show PtsAt y1 g 0 ps from fun j hj => ⟨hg2.cell (HA.out j hj).1 (by simp; omega), hg2.cell (HA.out j hj).2 (by simp; omega)⟩)
     clear hr hg2 r0 r1 rf0 rf1
     rename Ready y1 p a len cap => hr
     obtain ⟨r0, r1, rf0, rf1⟩ := cell2g gS
     obtain ⟨px, hpx⟩ : ∃ px, (ps.getD kk (0, 0)).1 = px := ⟨_, rfl⟩
     obtain ⟨py, hpy⟩ : ∃ py, (ps.getD kk (0, 0)).2 = py := ⟨_, rfl⟩
     have HPX := hid hpx
     have HPY := hid hpy
     clear hpx hpy
     go_wp2_with fail
     refine hK.out _ _ ?_ (fun hHeld => ?_)
     ·exact True.intro
     clear hK K
     try simp only [sq]
     refine rd1 3 rfl (fun K hK => ?_)
     try simp only [sq]
     go_simp
     refine hK.out _ _ ?_ (fun hHeld => ?_)
     ·exact True.intro
     clear hK K
     try simp only [sq]
     refine tkR ?_ 9 rfl (fun _ _ _ h => h) hHeld ?_ ?_
     rotate_left
     ·intro w hSw; (try dsimp only at hSw); go_simp; try (with_reducible rfl)
     try simp only [sq]
     refine rd1 10 rfl (fun K hK => ?_)
     try simp only [sq]
     obtain ⟨d0, d1⟩ := HA.out kk hkk
     rw [HPX.out] at d0
     rw [HPY.out] at d1
     simp only [Nat.zero_add] at d0 d1
     go_simp
     refine hK.out _ _ ?_ (fun hHeld => ?_)
     ·exact True.intro
     clear hK K
     try simp only [sq]
     refine rd1 11 rfl (fun K hK => ?_)
     try simp only [sq]
     go_simp
     have b0 := keepalloc r0 (.cells #[.int .i64 px, .int .i64 py] 91)
     have b1 := keepalloc r1 (.cells #[.int .i64 px, .int .i64 py] 91)
     refine hK.out _ _ ?_ (fun hHeld => ?_)
     ·exact True.intro
     clear hK K
     try simp only [sq]
     refine rd1 12 rfl (fun K hK => ?_)
     have hSW := lt_of_block gS
     refine step_append_lies _ (by rfl) _ _ _ (by rfl) B 91 i0 _ 2 16 Tryz.underlying46 hi0 hz0 hz1 hz2 rfl (by omega) _ ps.length (flat2 ps) (by rfl) (World.ownsRow.alloc hrow _) ⟨y1.heap.size, 0, none⟩ 1 1 [.int .i64 px, .int .i64 py] (by rfl) (by rfl) (World.news_of_block (cs := #[.int .i64 px, .int .i64 py]) (t := 91) (fr := (0, 0)) (heap_alloc_new y1 _)) (by simp [Value.oneCell']) (by omega) (by unfold maxLen; omega) (by omega) (by simp; omega) (y1.heap.size + 1) (by simp) ?_
     intro gg cq s2 hown2 hgrow hat hlt2
     have hvS : some S ≠ (Value.slice (some ⟨g, 0, none⟩) ps.length cp).ownBlock := by simp [Value.ownBlock]; omega
     have hvR : some w.heap.size ≠ (Value.slice (some ⟨g, 0, none⟩) ps.length cp).ownBlock := by simp [Value.ownBlock]; omega
     replace gS := (hgrow.block S (by have := lt_of_block gS; simp; omega) hvS).trans (old_alloc gS)
     replace gR := (hgrow.block _ (by have := lt_of_block gR; simp; omega) hvR).trans (old_alloc gR)
     have hgS2 : gg ≠ S := by
      rcases hat with e | e
      ·simp [Value.ownBlock] at e; omega
      ·omega
     have hgg : B ≤ gg := (World.ownsRow.lt hown2 gg rfl).1
     refine hK.out _ _ ?_ (fun hHeld => ?_)
     ·exact True.intro
     clear hK K r0 r1 rf0 rf1
     replace hr := (hr.alloc _).kept hgrow (fun y hy => by simp [Value.ownBlock] at hy; omega)
     replace hg := grown_upr (grown_trans hg (grown_alloc _ _ _)) hgrow (fun y hy => by simp [Value.ownBlock] at hy; omega)
     obtain ⟨r0, r1, rf0, rf1⟩ := cell2g gS
     try simp only [sq]
     refine tkR ?_ 13 rfl (fun _ _ _ h => h) hHeld ?_ ?_
     rotate_left
     ·intro w hSw; (try dsimp only at hSw); go_simp; try (with_reducible rfl)
     try simp only [sq]
     refine rd1 14 rfl (fun K hK => ?_)
     try simp only [sq]
     go_simp
     refine hK.out _ _ ?_ (fun hHeld => ?_)
     ·exact True.intro
     clear hK K
     have hrow2 := row_self hown2
     try simp only [sq]
     refine wpAnyH_done (by kernel_rfl) ?_ _
     have gR2 := set_far (q := S) (k := 1) (u := (.slice (some ⟨gg, 0, none⟩) (ps.length + 1) cq)) gR (by omega)
     have gS2 := set_at (k := 1) (u := (.slice (some ⟨gg, 0, none⟩) (ps.length + 1) cq)) gS
     obtain ⟨t0, t1, tf0, tf1⟩ := cell2g gS2
     have hrow3 : PtRow _ B (.slice (some ⟨gg, 0, none⟩) (ps.length + 1) cq) (ps ++ [(px, py)]) := World.ownsRow.kept hrow2 (grown_set s2 S 1 (.slice (some ⟨gg, 0, none⟩) (ps.length + 1) cq)) (Or.inr (by simp [Value.ownBlock]; omega))
     have hr3 := hr.set (n := S) (k := 1) (by omega) (.slice (some ⟨gg, 0, none⟩) (ps.length + 1) cq)
     have hg3 := grown_setn (k := 1) hg (n := S) (by omega) (.slice (some ⟨gg, 0, none⟩) (ps.length + 1) cq)
     clear hown2 hgrow hat hrow2 hrow HA
     obtain ⟨e0, e1, ef0, ef1⟩ := cell2g gR2
     have hzf : w.heap.size < (s2.setCell ⟨S, 1, none⟩ (.slice (some ⟨gg, 0, none⟩) (ps.length + 1) cq)).heap.size := lt_of_block gR2
     obtain ⟨v', ev, z0', z1', hrow', hr', hg'⟩ := fin_shape (k := kd) hp (Nat.le_refl _) gR2 hrow3 (by omega) (by simp [Value.ownBlock]; omega) hr3 hg3
     have Hev := hid ev
     have Hrow := hid hrow'
     clear ev hrow'
     go_wp2_with fail
     rw [← Hev.out]
     exact bodyPost_ret (v := .agg #[.int .i64 (kd), (.slice (some ⟨gg, 0, none⟩) (ps.length + 1) cq)]) (by simp [results, Tryz.results154, go_sem, z0', z1']) rfl ⟨kd, (ps ++ [(px, py)]), _, rfl, by simp; omega, Hrow.out, hr', hg'⟩
   ·skip
    try simp only [sq]
    go_simp
    refine hK.out _ _ ?_ (fun hHeld => ?_)
    ·exact True.intro
    clear hK K
    try simp only [sq]
    refine wpAnyH_ready (rs := [1, 8]) (by kernel_rfl) (by simp) ?_
    refine (AllReadyH.cons rfl (fun K hK => ?_) (AllReadyH.cons rfl (fun K hK => ?_) AllReadyH.nil))
    ·skip
     try simp only [sq]
     go_simp
     refine hK.out _ _ ?_ (fun hHeld => ?_)
     ·exact True.intro
     clear hK K
     try simp only [sq]
     refine rd1 8 rfl (fun K hK => ?_)
     try simp only [sq]
     go_simp
     go_at_call 38
     refine (below_r _ p a len cap (ps.length : Int) (by omega) (by omega) hr).mono ?_
     rintro e y1 ⟨c, rfl, c0, c1, hr2, hg2⟩
     obtain ⟨kk, rfl⟩ := Int.eq_ofNat_of_zero_le c0
     have hkk : kk < ps.length := by omega
     replace gS := grown_blk hg2 gS (by omega)
     replace gR := grown_blk hg2 gR (by omega)
     replace hrow := World.ownsRow.kept hrow hg2 (Or.inr (by simp [Value.ownBlock]; omega))
     replace hg := grown_trans hg hg2
     replace HA := hid (show PtsAt y1 g 0 ps from fun j hj => ⟨hg2.cell (HA.out j hj).1 (by simp; omega), hg2.cell (HA.out j hj).2 (by simp; omega)⟩)
     clear hr hg2 r0 r1 rf0 rf1
     rename Ready y1 p a len cap => hr
     obtain ⟨r0, r1, rf0, rf1⟩ := cell2g gS
     obtain ⟨px, hpx⟩ : ∃ px, (ps.getD kk (0, 0)).1 = px := ⟨_, rfl⟩
     obtain ⟨py, hpy⟩ : ∃ py, (ps.getD kk (0, 0)).2 = py := ⟨_, rfl⟩
     have HPX := hid hpx
     have HPY := hid hpy
     clear hpx hpy
     go_wp2_with fail
     refine hK.out _ _ ?_ (fun hHeld => ?_)
     ·exact True.intro
     clear hK K
     try simp only [sq]
     refine tkR ?_ 9 rfl (fun _ _ _ h => h) hHeld ?_ ?_
     rotate_left
     ·intro w hSw; (try dsimp only at hSw); go_simp; try (with_reducible rfl)
     try simp only [sq]
     refine rd1 10 rfl (fun K hK => ?_)
     try simp only [sq]
     obtain ⟨d0, d1⟩ := HA.out kk hkk
     rw [HPX.out] at d0
     rw [HPY.out] at d1
     simp only [Nat.zero_add] at d0 d1
     go_simp
     refine hK.out _ _ ?_ (fun hHeld => ?_)
     ·exact True.intro
     clear hK K
     try simp only [sq]
     refine rd1 11 rfl (fun K hK => ?_)
     try simp only [sq]
     go_simp
     have b0 := keepalloc r0 (.cells #[.int .i64 px, .int .i64 py] 91)
     have b1 := keepalloc r1 (.cells #[.int .i64 px, .int .i64 py] 91)
     refine hK.out _ _ ?_ (fun hHeld => ?_)
     ·exact True.intro
     clear hK K
     try simp only [sq]
     refine rd1 12 rfl (fun K hK => ?_)
     have hSW := lt_of_block gS
     refine step_append_lies _ (by rfl) _ _ _ (by rfl) B 91 i0 _ 2 16 Tryz.underlying46 hi0 hz0 hz1 hz2 rfl (by omega) _ ps.length (flat2 ps) (by rfl) (World.ownsRow.alloc hrow _) ⟨y1.heap.size, 0, none⟩ 1 1 [.int .i64 px, .int .i64 py] (by rfl) (by rfl) (World.news_of_block (cs := #[.int .i64 px, .int .i64 py]) (t := 91) (fr := (0, 0)) (heap_alloc_new y1 _)) (by simp [Value.oneCell']) (by omega) (by unfold maxLen; omega) (by omega) (by simp; omega) (y1.heap.size + 1) (by simp) ?_
     intro gg cq s2 hown2 hgrow hat hlt2
     have hvS : some S ≠ (Value.slice (some ⟨g, 0, none⟩) ps.length cp).ownBlock := by simp [Value.ownBlock]; omega
     have hvR : some w.heap.size ≠ (Value.slice (some ⟨g, 0, none⟩) ps.length cp).ownBlock := by simp [Value.ownBlock]; omega
     replace gS := (hgrow.block S (by have := lt_of_block gS; simp; omega) hvS).trans (old_alloc gS)
     replace gR := (hgrow.block _ (by have := lt_of_block gR; simp; omega) hvR).trans (old_alloc gR)
     have hgS2 : gg ≠ S := by
      rcases hat with e | e
      ·simp [Value.ownBlock] at e; omega
      ·omega
     have hgg : B ≤ gg := (World.ownsRow.lt hown2 gg rfl).1
     refine hK.out _ _ ?_ (fun hHeld => ?_)
     ·exact True.intro
     clear hK K r0 r1 rf0 rf1
     replace hr := (hr.alloc _).kept hgrow (fun y hy => by simp [Value.ownBlock] at hy; omega)
     replace hg := grown_upr (grown_trans hg (grown_alloc _ _ _)) hgrow (fun y hy => by simp [Value.ownBlock] at hy; omega)
     obtain ⟨r0, r1, rf0, rf1⟩ := cell2g gS
     try simp only [sq]
     refine tkR ?_ 13 rfl (fun _ _ _ h => h) hHeld ?_ ?_
     rotate_left
     ·intro w hSw; (try dsimp only at hSw); go_simp; try (with_reducible rfl)
     try simp only [sq]
     refine rd1 14 rfl (fun K hK => ?_)
     try simp only [sq]
     go_simp
     refine hK.out _ _ ?_ (fun hHeld => ?_)
     ·exact True.intro
     clear hK K
     have hrow2 := row_self hown2
     try simp only [sq]
     refine wpAnyH_done (by kernel_rfl) ?_ _
     have gR2 := set_far (q := S) (k := 1) (u := (.slice (some ⟨gg, 0, none⟩) (ps.length + 1) cq)) gR (by omega)
     have gS2 := set_at (k := 1) (u := (.slice (some ⟨gg, 0, none⟩) (ps.length + 1) cq)) gS
     obtain ⟨t0, t1, tf0, tf1⟩ := cell2g gS2
     have hrow3 : PtRow _ B (.slice (some ⟨gg, 0, none⟩) (ps.length + 1) cq) (ps ++ [(px, py)]) := World.ownsRow.kept hrow2 (grown_set s2 S 1 (.slice (some ⟨gg, 0, none⟩) (ps.length + 1) cq)) (Or.inr (by simp [Value.ownBlock]; omega))
     have hr3 := hr.set (n := S) (k := 1) (by omega) (.slice (some ⟨gg, 0, none⟩) (ps.length + 1) cq)
     have hg3 := grown_setn (k := 1) hg (n := S) (by omega) (.slice (some ⟨gg, 0, none⟩) (ps.length + 1) cq)
     clear hown2 hgrow hat hrow2 hrow HA
     obtain ⟨e0, e1, ef0, ef1⟩ := cell2g gR2
     have hzf : w.heap.size < (s2.setCell ⟨S, 1, none⟩ (.slice (some ⟨gg, 0, none⟩) (ps.length + 1) cq)).heap.size := lt_of_block gR2
     obtain ⟨v', ev, z0', z1', hrow', hr', hg'⟩ := fin_shape (k := kd) hp (Nat.le_refl _) gR2 hrow3 (by omega) (by simp [Value.ownBlock]; omega) hr3 hg3
     have Hev := hid ev
     have Hrow := hid hrow'
     clear ev hrow'
     go_wp2_with fail
     rw [← Hev.out]
     exact bodyPost_ret (v := .agg #[.int .i64 (kd), (.slice (some ⟨gg, 0, none⟩) (ps.length + 1) cq)]) (by simp [results, Tryz.results154, go_sem, z0', z1']) rfl ⟨kd, (ps ++ [(px, py)]), _, rfl, by simp; omega, Hrow.out, hr', hg'⟩
    ·skip
     try simp only [sq]
     go_simp
     go_at_call 38
     refine (below_r _ p a len cap (ps.length : Int) (by omega) (by omega) hr).mono ?_
     rintro e y1 ⟨c, rfl, c0, c1, hr2, hg2⟩
     obtain ⟨kk, rfl⟩ := Int.eq_ofNat_of_zero_le c0
     have hkk : kk < ps.length := by omega
     replace gS := grown_blk hg2 gS (by omega)
     replace gR := grown_blk hg2 gR (by omega)
     replace hrow := World.ownsRow.kept hrow hg2 (Or.inr (by simp [Value.ownBlock]; omega))
     replace hg := grown_trans hg hg2
     replace HA := hid (show PtsAt y1 g 0 ps from fun j hj => ⟨hg2.cell (HA.out j hj).1 (by simp; omega), hg2.cell (HA.out j hj).2 (by simp; omega)⟩)
     clear hr hg2 r0 r1 rf0 rf1
     rename Ready y1 p a len cap => hr
     obtain ⟨r0, r1, rf0, rf1⟩ := cell2g gS
     obtain ⟨px, hpx⟩ : ∃ px, (ps.getD kk (0, 0)).1 = px := ⟨_, rfl⟩
     obtain ⟨py, hpy⟩ : ∃ py, (ps.getD kk (0, 0)).2 = py := ⟨_, rfl⟩
     have HPX := hid hpx
     have HPY := hid hpy
     clear hpx hpy
     go_wp2_with fail
     refine hK.out _ _ ?_ (fun hHeld => ?_)
     ·exact True.intro
     clear hK K
     try simp only [sq]
     refine tkR ?_ 9 rfl (fun _ _ _ h => h) hHeld ?_ ?_
     rotate_left
     ·intro w hSw; (try dsimp only at hSw); go_simp; try (with_reducible rfl)
     try simp only [sq]
     refine wpAnyH_ready (rs := [1, 10]) (by kernel_rfl) (by simp) ?_
     refine (AllReadyH.cons rfl (fun K hK => ?_) (AllReadyH.cons rfl (fun K hK => ?_) AllReadyH.nil))
     ·skip
      try simp only [sq]
      go_simp
      refine hK.out _ _ ?_ (fun hHeld => ?_)
      ·exact True.intro
      clear hK K
      try simp only [sq]
      refine rd1 10 rfl (fun K hK => ?_)
      try simp only [sq]
      obtain ⟨d0, d1⟩ := HA.out kk hkk
      rw [HPX.out] at d0
      rw [HPY.out] at d1
      simp only [Nat.zero_add] at d0 d1
      go_simp
      refine hK.out _ _ ?_ (fun hHeld => ?_)
      ·exact True.intro
      clear hK K
      try simp only [sq]
      refine rd1 11 rfl (fun K hK => ?_)
      try simp only [sq]
      go_simp
      have b0 := keepalloc r0 (.cells #[.int .i64 px, .int .i64 py] 91)
      have b1 := keepalloc r1 (.cells #[.int .i64 px, .int .i64 py] 91)
      refine hK.out _ _ ?_ (fun hHeld => ?_)
      ·exact True.intro
      clear hK K
      try simp only [sq]
      refine rd1 12 rfl (fun K hK => ?_)
      have hSW := lt_of_block gS
      refine step_append_lies _ (by rfl) _ _ _ (by rfl) B 91 i0 _ 2 16 Tryz.underlying46 hi0 hz0 hz1 hz2 rfl (by omega) _ ps.length (flat2 ps) (by rfl) (World.ownsRow.alloc hrow _) ⟨y1.heap.size, 0, none⟩ 1 1 [.int .i64 px, .int .i64 py] (by rfl) (by rfl) (World.news_of_block (cs := #[.int .i64 px, .int .i64 py]) (t := 91) (fr := (0, 0)) (heap_alloc_new y1 _)) (by simp [Value.oneCell']) (by omega) (by unfold maxLen; omega) (by omega) (by simp; omega) (y1.heap.size + 1) (by simp) ?_
      intro gg cq s2 hown2 hgrow hat hlt2
      have hvS : some S ≠ (Value.slice (some ⟨g, 0, none⟩) ps.length cp).ownBlock := by simp [Value.ownBlock]; omega
      have hvR : some w.heap.size ≠ (Value.slice (some ⟨g, 0, none⟩) ps.length cp).ownBlock := by simp [Value.ownBlock]; omega
      replace gS := (hgrow.block S (by have := lt_of_block gS; simp; omega) hvS).trans (old_alloc gS)
      replace gR := (hgrow.block _ (by have := lt_of_block gR; simp; omega) hvR).trans (old_alloc gR)
      have hgS2 : gg ≠ S := by
       rcases hat with e | e
       ·simp [Value.ownBlock] at e; omega
       ·omega
      have hgg : B ≤ gg := (World.ownsRow.lt hown2 gg rfl).1
      refine hK.out _ _ ?_ (fun hHeld => ?_)
      ·exact True.intro
      clear hK K r0 r1 rf0 rf1
      replace hr := (hr.alloc _).kept hgrow (fun y hy => by simp [Value.ownBlock] at hy; omega)
      replace hg := grown_upr (grown_trans hg (grown_alloc _ _ _)) hgrow (fun y hy => by simp [Value.ownBlock] at hy; omega)
      obtain ⟨r0, r1, rf0, rf1⟩ := cell2g gS
      try simp only [sq]
      refine tkR ?_ 13 rfl (fun _ _ _ h => h) hHeld ?_ ?_
      rotate_left
      ·intro w hSw; (try dsimp only at hSw); go_simp; try (with_reducible rfl)
      try simp only [sq]
      refine rd1 14 rfl (fun K hK => ?_)
      try simp only [sq]
      go_simp
      refine hK.out _ _ ?_ (fun hHeld => ?_)
      ·exact True.intro
      clear hK K
      have hrow2 := row_self hown2
      try simp only [sq]
      refine wpAnyH_done (by kernel_rfl) ?_ _
      have gR2 := set_far (q := S) (k := 1) (u := (.slice (some ⟨gg, 0, none⟩) (ps.length + 1) cq)) gR (by omega)
      have gS2 := set_at (k := 1) (u := (.slice (some ⟨gg, 0, none⟩) (ps.length + 1) cq)) gS
      obtain ⟨t0, t1, tf0, tf1⟩ := cell2g gS2
      have hrow3 : PtRow _ B (.slice (some ⟨gg, 0, none⟩) (ps.length + 1) cq) (ps ++ [(px, py)]) := World.ownsRow.kept hrow2 (grown_set s2 S 1 (.slice (some ⟨gg, 0, none⟩) (ps.length + 1) cq)) (Or.inr (by simp [Value.ownBlock]; omega))
      have hr3 := hr.set (n := S) (k := 1) (by omega) (.slice (some ⟨gg, 0, none⟩) (ps.length + 1) cq)
      have hg3 := grown_setn (k := 1) hg (n := S) (by omega) (.slice (some ⟨gg, 0, none⟩) (ps.length + 1) cq)
      clear hown2 hgrow hat hrow2 hrow HA
      obtain ⟨e0, e1, ef0, ef1⟩ := cell2g gR2
      have hzf : w.heap.size < (s2.setCell ⟨S, 1, none⟩ (.slice (some ⟨gg, 0, none⟩) (ps.length + 1) cq)).heap.size := lt_of_block gR2
      obtain ⟨v', ev, z0', z1', hrow', hr', hg'⟩ := fin_shape (k := kd) hp (Nat.le_refl _) gR2 hrow3 (by omega) (by simp [Value.ownBlock]; omega) hr3 hg3
      have Hev := hid ev
      have Hrow := hid hrow'
      clear ev hrow'
      go_wp2_with fail
      rw [← Hev.out]
      exact bodyPost_ret (v := .agg #[.int .i64 (kd), (.slice (some ⟨gg, 0, none⟩) (ps.length + 1) cq)]) (by simp [results, Tryz.results154, go_sem, z0', z1']) rfl ⟨kd, (ps ++ [(px, py)]), _, rfl, by simp; omega, Hrow.out, hr', hg'⟩
     ·skip
      try simp only [sq]
      obtain ⟨d0, d1⟩ := HA.out kk hkk
      rw [HPX.out] at d0
      rw [HPY.out] at d1
      simp only [Nat.zero_add] at d0 d1
      go_simp
      refine hK.out _ _ ?_ (fun hHeld => ?_)
      ·exact True.intro
      clear hK K
      try simp only [sq]
      refine wpAnyH_ready (rs := [1, 11]) (by kernel_rfl) (by simp) ?_
      refine (AllReadyH.cons rfl (fun K hK => ?_) (AllReadyH.cons rfl (fun K hK => ?_) AllReadyH.nil))
      ·skip
       try simp only [sq]
       go_simp
       refine hK.out _ _ ?_ (fun hHeld => ?_)
       ·exact True.intro
       clear hK K
       try simp only [sq]
       refine rd1 11 rfl (fun K hK => ?_)
       try simp only [sq]
       go_simp
       have b0 := keepalloc r0 (.cells #[.int .i64 px, .int .i64 py] 91)
       have b1 := keepalloc r1 (.cells #[.int .i64 px, .int .i64 py] 91)
       refine hK.out _ _ ?_ (fun hHeld => ?_)
       ·exact True.intro
       clear hK K
       try simp only [sq]
       refine rd1 12 rfl (fun K hK => ?_)
       have hSW := lt_of_block gS
       refine step_append_lies _ (by rfl) _ _ _ (by rfl) B 91 i0 _ 2 16 Tryz.underlying46 hi0 hz0 hz1 hz2 rfl (by omega) _ ps.length (flat2 ps) (by rfl) (World.ownsRow.alloc hrow _) ⟨y1.heap.size, 0, none⟩ 1 1 [.int .i64 px, .int .i64 py] (by rfl) (by rfl) (World.news_of_block (cs := #[.int .i64 px, .int .i64 py]) (t := 91) (fr := (0, 0)) (heap_alloc_new y1 _)) (by simp [Value.oneCell']) (by omega) (by unfold maxLen; omega) (by omega) (by simp; omega) (y1.heap.size + 1) (by simp) ?_
       intro gg cq s2 hown2 hgrow hat hlt2
       have hvS : some S ≠ (Value.slice (some ⟨g, 0, none⟩) ps.length cp).ownBlock := by simp [Value.ownBlock]; omega
       have hvR : some w.heap.size ≠ (Value.slice (some ⟨g, 0, none⟩) ps.length cp).ownBlock := by simp [Value.ownBlock]; omega
       replace gS := (hgrow.block S (by have := lt_of_block gS; simp; omega) hvS).trans (old_alloc gS)
       replace gR := (hgrow.block _ (by have := lt_of_block gR; simp; omega) hvR).trans (old_alloc gR)
       have hgS2 : gg ≠ S := by
        rcases hat with e | e
        ·simp [Value.ownBlock] at e; omega
        ·omega
       have hgg : B ≤ gg := (World.ownsRow.lt hown2 gg rfl).1
       refine hK.out _ _ ?_ (fun hHeld => ?_)
       ·exact True.intro
       clear hK K r0 r1 rf0 rf1
       replace hr := (hr.alloc _).kept hgrow (fun y hy => by simp [Value.ownBlock] at hy; omega)
       replace hg := grown_upr (grown_trans hg (grown_alloc _ _ _)) hgrow (fun y hy => by simp [Value.ownBlock] at hy; omega)
       obtain ⟨r0, r1, rf0, rf1⟩ := cell2g gS
       try simp only [sq]
       refine tkR ?_ 13 rfl (fun _ _ _ h => h) hHeld ?_ ?_
       rotate_left
       ·intro w hSw; (try dsimp only at hSw); go_simp; try (with_reducible rfl)
       try simp only [sq]
       refine rd1 14 rfl (fun K hK => ?_)
       try simp only [sq]
       go_simp
       refine hK.out _ _ ?_ (fun hHeld => ?_)
       ·exact True.intro
       clear hK K
       have hrow2 := row_self hown2
       try simp only [sq]
       refine wpAnyH_done (by kernel_rfl) ?_ _
       have gR2 := set_far (q := S) (k := 1) (u := (.slice (some ⟨gg, 0, none⟩) (ps.length + 1) cq)) gR (by omega)
       have gS2 := set_at (k := 1) (u := (.slice (some ⟨gg, 0, none⟩) (ps.length + 1) cq)) gS
       obtain ⟨t0, t1, tf0, tf1⟩ := cell2g gS2
       have hrow3 : PtRow _ B (.slice (some ⟨gg, 0, none⟩) (ps.length + 1) cq) (ps ++ [(px, py)]) := World.ownsRow.kept hrow2 (grown_set s2 S 1 (.slice (some ⟨gg, 0, none⟩) (ps.length + 1) cq)) (Or.inr (by simp [Value.ownBlock]; omega))
       have hr3 := hr.set (n := S) (k := 1) (by omega) (.slice (some ⟨gg, 0, none⟩) (ps.length + 1) cq)
       have hg3 := grown_setn (k := 1) hg (n := S) (by omega) (.slice (some ⟨gg, 0, none⟩) (ps.length + 1) cq)
       clear hown2 hgrow hat hrow2 hrow HA
       obtain ⟨e0, e1, ef0, ef1⟩ := cell2g gR2
       have hzf : w.heap.size < (s2.setCell ⟨S, 1, none⟩ (.slice (some ⟨gg, 0, none⟩) (ps.length + 1) cq)).heap.size := lt_of_block gR2
       obtain ⟨v', ev, z0', z1', hrow', hr', hg'⟩ := fin_shape (k := kd) hp (Nat.le_refl _) gR2 hrow3 (by omega) (by simp [Value.ownBlock]; omega) hr3 hg3
       have Hev := hid ev
       have Hrow := hid hrow'
       clear ev hrow'
       go_wp2_with fail
       rw [← Hev.out]
       exact bodyPost_ret (v := .agg #[.int .i64 (kd), (.slice (some ⟨gg, 0, none⟩) (ps.length + 1) cq)]) (by simp [results, Tryz.results154, go_sem, z0', z1']) rfl ⟨kd, (ps ++ [(px, py)]), _, rfl, by simp; omega, Hrow.out, hr', hg'⟩
      ·skip
       try simp only [sq]
       go_simp
       have b0 := keepalloc r0 (.cells #[.int .i64 px, .int .i64 py] 91)
       have b1 := keepalloc r1 (.cells #[.int .i64 px, .int .i64 py] 91)
       refine hK.out _ _ ?_ (fun hHeld => ?_)
       ·exact True.intro
       clear hK K
       try simp only [sq]
       refine rd1 1 rfl (fun K hK => ?_)
       try simp only [sq]
       go_simp
       refine hK.out _ _ ?_ (fun hHeld => ?_)
       ·exact True.intro
       clear hK K
       try simp only [sq]
       refine rd1 12 rfl (fun K hK => ?_)
       have hSW := lt_of_block gS
       refine step_append_lies _ (by rfl) _ _ _ (by rfl) B 91 i0 _ 2 16 Tryz.underlying46 hi0 hz0 hz1 hz2 rfl (by omega) _ ps.length (flat2 ps) (by rfl) (World.ownsRow.alloc hrow _) ⟨y1.heap.size, 0, none⟩ 1 1 [.int .i64 px, .int .i64 py] (by rfl) (by rfl) (World.news_of_block (cs := #[.int .i64 px, .int .i64 py]) (t := 91) (fr := (0, 0)) (heap_alloc_new y1 _)) (by simp [Value.oneCell']) (by omega) (by unfold maxLen; omega) (by omega) (by simp; omega) (y1.heap.size + 1) (by simp) ?_
       intro gg cq s2 hown2 hgrow hat hlt2
       have hvS : some S ≠ (Value.slice (some ⟨g, 0, none⟩) ps.length cp).ownBlock := by simp [Value.ownBlock]; omega
       have hvR : some w.heap.size ≠ (Value.slice (some ⟨g, 0, none⟩) ps.length cp).ownBlock := by simp [Value.ownBlock]; omega
       replace gS := (hgrow.block S (by have := lt_of_block gS; simp; omega) hvS).trans (old_alloc gS)
       replace gR := (hgrow.block _ (by have := lt_of_block gR; simp; omega) hvR).trans (old_alloc gR)
       have hgS2 : gg ≠ S := by
        rcases hat with e | e
        ·simp [Value.ownBlock] at e; omega
        ·omega
       have hgg : B ≤ gg := (World.ownsRow.lt hown2 gg rfl).1
       refine hK.out _ _ ?_ (fun hHeld => ?_)
       ·exact True.intro
       clear hK K r0 r1 rf0 rf1
       replace hr := (hr.alloc _).kept hgrow (fun y hy => by simp [Value.ownBlock] at hy; omega)
       replace hg := grown_upr (grown_trans hg (grown_alloc _ _ _)) hgrow (fun y hy => by simp [Value.ownBlock] at hy; omega)
       obtain ⟨r0, r1, rf0, rf1⟩ := cell2g gS
       try simp only [sq]
       refine tkR ?_ 13 rfl (fun _ _ _ h => h) hHeld ?_ ?_
       rotate_left
       ·intro w hSw; (try dsimp only at hSw); go_simp; try (with_reducible rfl)
       try simp only [sq]
       refine rd1 14 rfl (fun K hK => ?_)
       try simp only [sq]
       go_simp
       refine hK.out _ _ ?_ (fun hHeld => ?_)
       ·exact True.intro
       clear hK K
       have hrow2 := row_self hown2
       try simp only [sq]
       refine wpAnyH_done (by kernel_rfl) ?_ _
       have gR2 := set_far (q := S) (k := 1) (u := (.slice (some ⟨gg, 0, none⟩) (ps.length + 1) cq)) gR (by omega)
       have gS2 := set_at (k := 1) (u := (.slice (some ⟨gg, 0, none⟩) (ps.length + 1) cq)) gS
       obtain ⟨t0, t1, tf0, tf1⟩ := cell2g gS2
       have hrow3 : PtRow _ B (.slice (some ⟨gg, 0, none⟩) (ps.length + 1) cq) (ps ++ [(px, py)]) := World.ownsRow.kept hrow2 (grown_set s2 S 1 (.slice (some ⟨gg, 0, none⟩) (ps.length + 1) cq)) (Or.inr (by simp [Value.ownBlock]; omega))
       have hr3 := hr.set (n := S) (k := 1) (by omega) (.slice (some ⟨gg, 0, none⟩) (ps.length + 1) cq)
       have hg3 := grown_setn (k := 1) hg (n := S) (by omega) (.slice (some ⟨gg, 0, none⟩) (ps.length + 1) cq)
       clear hown2 hgrow hat hrow2 hrow HA
       obtain ⟨e0, e1, ef0, ef1⟩ := cell2g gR2
       have hzf : w.heap.size < (s2.setCell ⟨S, 1, none⟩ (.slice (some ⟨gg, 0, none⟩) (ps.length + 1) cq)).heap.size := lt_of_block gR2
       obtain ⟨v', ev, z0', z1', hrow', hr', hg'⟩ := fin_shape (k := kd) hp (Nat.le_refl _) gR2 hrow3 (by omega) (by simp [Value.ownBlock]; omega) hr3 hg3
       have Hev := hid ev
       have Hrow := hid hrow'
       clear ev hrow'
       go_wp2_with fail
       rw [← Hev.out]
       exact bodyPost_ret (v := .agg #[.int .i64 (kd), (.slice (some ⟨gg, 0, none⟩) (ps.length + 1) cq)]) (by simp [results, Tryz.results154, go_sem, z0', z1']) rfl ⟨kd, (ps ++ [(px, py)]), _, rfl, by simp; omega, Hrow.out, hr', hg'⟩
   ·skip
    try simp only [sq]
    go_simp
    go_at_call 38
    refine (below_r _ p a len cap (ps.length : Int) (by omega) (by omega) hr).mono ?_
    rintro e y1 ⟨c, rfl, c0, c1, hr2, hg2⟩
    obtain ⟨kk, rfl⟩ := Int.eq_ofNat_of_zero_le c0
    have hkk : kk < ps.length := by omega
    replace gS := grown_blk hg2 gS (by omega)
    replace gR := grown_blk hg2 gR (by omega)
    replace hrow := World.ownsRow.kept hrow hg2 (Or.inr (by simp [Value.ownBlock]; omega))
    replace hg := grown_trans hg hg2
    replace HA := hid (show PtsAt y1 g 0 ps from fun j hj => ⟨hg2.cell (HA.out j hj).1 (by simp; omega), hg2.cell (HA.out j hj).2 (by simp; omega)⟩)
    clear hr hg2 r0 r1 rf0 rf1
    rename Ready y1 p a len cap => hr
    obtain ⟨r0, r1, rf0, rf1⟩ := cell2g gS
    obtain ⟨px, hpx⟩ : ∃ px, (ps.getD kk (0, 0)).1 = px := ⟨_, rfl⟩
    obtain ⟨py, hpy⟩ : ∃ py, (ps.getD kk (0, 0)).2 = py := ⟨_, rfl⟩
    have HPX := hid hpx
    have HPY := hid hpy
    clear hpx hpy
    go_wp2_with fail
    refine hK.out _ _ ?_ (fun hHeld => ?_)
    ·exact True.intro
    clear hK K
    try simp only [sq]
    refine wpAnyH_ready (rs := [1, 3]) (by kernel_rfl) (by simp) ?_
    refine (AllReadyH.cons rfl (fun K hK => ?_) (AllReadyH.cons rfl (fun K hK => ?_) AllReadyH.nil))
    ·skip
     try simp only [sq]
     go_simp
     refine hK.out _ _ ?_ (fun hHeld => ?_)
     ·exact True.intro
     clear hK K
     try simp only [sq]
     refine rd1 3 rfl (fun K hK => ?_)
     try simp only [sq]
     go_simp
     refine hK.out _ _ ?_ (fun hHeld => ?_)
     ·exact True.intro
     clear hK K
     try simp only [sq]
     refine tkR ?_ 9 rfl (fun _ _ _ h => h) hHeld ?_ ?_
     rotate_left
     ·intro w hSw; (try dsimp only at hSw); go_simp; try (with_reducible rfl)
     try simp only [sq]
     refine rd1 10 rfl (fun K hK => ?_)
     try simp only [sq]
     obtain ⟨d0, d1⟩ := HA.out kk hkk
     rw [HPX.out] at d0
     rw [HPY.out] at d1
     simp only [Nat.zero_add] at d0 d1
     go_simp
     refine hK.out _ _ ?_ (fun hHeld => ?_)
     ·exact True.intro
     clear hK K
     try simp only [sq]
     refine rd1 11 rfl (fun K hK => ?_)
     try simp only [sq]
     go_simp
     have b0 := keepalloc r0 (.cells #[.int .i64 px, .int .i64 py] 91)
     have b1 := keepalloc r1 (.cells #[.int .i64 px, .int .i64 py] 91)
     refine hK.out _ _ ?_ (fun hHeld => ?_)
     ·exact True.intro
     clear hK K
     try simp only [sq]
     refine rd1 12 rfl (fun K hK => ?_)
     have hSW := lt_of_block gS
     refine step_append_lies _ (by rfl) _ _ _ (by rfl) B 91 i0 _ 2 16 Tryz.underlying46 hi0 hz0 hz1 hz2 rfl (by omega) _ ps.length (flat2 ps) (by rfl) (World.ownsRow.alloc hrow _) ⟨y1.heap.size, 0, none⟩ 1 1 [.int .i64 px, .int .i64 py] (by rfl) (by rfl) (World.news_of_block (cs := #[.int .i64 px, .int .i64 py]) (t := 91) (fr := (0, 0)) (heap_alloc_new y1 _)) (by simp [Value.oneCell']) (by omega) (by unfold maxLen; omega) (by omega) (by simp; omega) (y1.heap.size + 1) (by simp) ?_
     intro gg cq s2 hown2 hgrow hat hlt2
     have hvS : some S ≠ (Value.slice (some ⟨g, 0, none⟩) ps.length cp).ownBlock := by simp [Value.ownBlock]; omega
     have hvR : some w.heap.size ≠ (Value.slice (some ⟨g, 0, none⟩) ps.length cp).ownBlock := by simp [Value.ownBlock]; omega
     replace gS := (hgrow.block S (by have := lt_of_block gS; simp; omega) hvS).trans (old_alloc gS)
     replace gR := (hgrow.block _ (by have := lt_of_block gR; simp; omega) hvR).trans (old_alloc gR)
     have hgS2 : gg ≠ S := by
      rcases hat with e | e
      ·simp [Value.ownBlock] at e; omega
      ·omega
     have hgg : B ≤ gg := (World.ownsRow.lt hown2 gg rfl).1
     refine hK.out _ _ ?_ (fun hHeld => ?_)
     ·exact True.intro
     clear hK K r0 r1 rf0 rf1
     replace hr := (hr.alloc _).kept hgrow (fun y hy => by simp [Value.ownBlock] at hy; omega)
     replace hg := grown_upr (grown_trans hg (grown_alloc _ _ _)) hgrow (fun y hy => by simp [Value.ownBlock] at hy; omega)
     obtain ⟨r0, r1, rf0, rf1⟩ := cell2g gS
     try simp only [sq]
     refine tkR ?_ 13 rfl (fun _ _ _ h => h) hHeld ?_ ?_
     rotate_left
     ·intro w hSw; (try dsimp only at hSw); go_simp; try (with_reducible rfl)
     try simp only [sq]
     refine rd1 14 rfl (fun K hK => ?_)
     try simp only [sq]
     go_simp
     refine hK.out _ _ ?_ (fun hHeld => ?_)
     ·exact True.intro
     clear hK K
     have hrow2 := row_self hown2
     try simp only [sq]
     refine wpAnyH_done (by kernel_rfl) ?_ _
     have gR2 := set_far (q := S) (k := 1) (u := (.slice (some ⟨gg, 0, none⟩) (ps.length + 1) cq)) gR (by omega)
     have gS2 := set_at (k := 1) (u := (.slice (some ⟨gg, 0, none⟩) (ps.length + 1) cq)) gS
     obtain ⟨t0, t1, tf0, tf1⟩ := cell2g gS2
     have hrow3 : PtRow _ B (.slice (some ⟨gg, 0, none⟩) (ps.length + 1) cq) (ps ++ [(px, py)]) := World.ownsRow.kept hrow2 (grown_set s2 S 1 (.slice (some ⟨gg, 0, none⟩) (ps.length + 1) cq)) (Or.inr (by simp [Value.ownBlock]; omega))
     have hr3 := hr.set (n := S) (k := 1) (by omega) (.slice (some ⟨gg, 0, none⟩) (ps.length + 1) cq)
     have hg3 := grown_setn (k := 1) hg (n := S) (by omega) (.slice (some ⟨gg, 0, none⟩) (ps.length + 1) cq)
     clear hown2 hgrow hat hrow2 hrow HA
     obtain ⟨e0, e1, ef0, ef1⟩ := cell2g gR2
     have hzf : w.heap.size < (s2.setCell ⟨S, 1, none⟩ (.slice (some ⟨gg, 0, none⟩) (ps.length + 1) cq)).heap.size := lt_of_block gR2
     obtain ⟨v', ev, z0', z1', hrow', hr', hg'⟩ := fin_shape (k := kd) hp (Nat.le_refl _) gR2 hrow3 (by omega) (by simp [Value.ownBlock]; omega) hr3 hg3
     have Hev := hid ev
     have Hrow := hid hrow'
     clear ev hrow'
     go_wp2_with fail
     rw [← Hev.out]
     exact bodyPost_ret (v := .agg #[.int .i64 (kd), (.slice (some ⟨gg, 0, none⟩) (ps.length + 1) cq)]) (by simp [results, Tryz.results154, go_sem, z0', z1']) rfl ⟨kd, (ps ++ [(px, py)]), _, rfl, by simp; omega, Hrow.out, hr', hg'⟩
    ·skip
     try simp only [sq]
     go_simp
     refine hK.out _ _ ?_ (fun hHeld => ?_)
     ·exact True.intro
     clear hK K
     try simp only [sq]
     refine tkR ?_ 9 rfl (fun _ _ _ h => h) hHeld ?_ ?_
     rotate_left
     ·intro w hSw; (try dsimp only at hSw); go_simp; try (with_reducible rfl)
     try simp only [sq]
     refine wpAnyH_ready (rs := [1, 10]) (by kernel_rfl) (by simp) ?_
     refine (AllReadyH.cons rfl (fun K hK => ?_) (AllReadyH.cons rfl (fun K hK => ?_) AllReadyH.nil))
     ·skip
      try simp only [sq]
      go_simp
      refine hK.out _ _ ?_ (fun hHeld => ?_)
      ·exact True.intro
      clear hK K
      try simp only [sq]
      refine rd1 10 rfl (fun K hK => ?_)
      try simp only [sq]
      obtain ⟨d0, d1⟩ := HA.out kk hkk
      rw [HPX.out] at d0
      rw [HPY.out] at d1
      simp only [Nat.zero_add] at d0 d1
      go_simp
      refine hK.out _ _ ?_ (fun hHeld => ?_)
      ·exact True.intro
      clear hK K
      try simp only [sq]
      refine rd1 11 rfl (fun K hK => ?_)
      try simp only [sq]
      go_simp
      have b0 := keepalloc r0 (.cells #[.int .i64 px, .int .i64 py] 91)
      have b1 := keepalloc r1 (.cells #[.int .i64 px, .int .i64 py] 91)
      refine hK.out _ _ ?_ (fun hHeld => ?_)
      ·exact True.intro
      clear hK K
      try simp only [sq]
      refine rd1 12 rfl (fun K hK => ?_)
      have hSW := lt_of_block gS
      refine step_append_lies _ (by rfl) _ _ _ (by rfl) B 91 i0 _ 2 16 Tryz.underlying46 hi0 hz0 hz1 hz2 rfl (by omega) _ ps.length (flat2 ps) (by rfl) (World.ownsRow.alloc hrow _) ⟨y1.heap.size, 0, none⟩ 1 1 [.int .i64 px, .int .i64 py] (by rfl) (by rfl) (World.news_of_block (cs := #[.int .i64 px, .int .i64 py]) (t := 91) (fr := (0, 0)) (heap_alloc_new y1 _)) (by simp [Value.oneCell']) (by omega) (by unfold maxLen; omega) (by omega) (by simp; omega) (y1.heap.size + 1) (by simp) ?_
      intro gg cq s2 hown2 hgrow hat hlt2
      have hvS : some S ≠ (Value.slice (some ⟨g, 0, none⟩) ps.length cp).ownBlock := by simp [Value.ownBlock]; omega
      have hvR : some w.heap.size ≠ (Value.slice (some ⟨g, 0, none⟩) ps.length cp).ownBlock := by simp [Value.ownBlock]; omega
      replace gS := (hgrow.block S (by have := lt_of_block gS; simp; omega) hvS).trans (old_alloc gS)
      replace gR := (hgrow.block _ (by have := lt_of_block gR; simp; omega) hvR).trans (old_alloc gR)
      have hgS2 : gg ≠ S := by
       rcases hat with e | e
       ·simp [Value.ownBlock] at e; omega
       ·omega
      have hgg : B ≤ gg := (World.ownsRow.lt hown2 gg rfl).1
      refine hK.out _ _ ?_ (fun hHeld => ?_)
      ·exact True.intro
      clear hK K r0 r1 rf0 rf1
      replace hr := (hr.alloc _).kept hgrow (fun y hy => by simp [Value.ownBlock] at hy; omega)
      replace hg := grown_upr (grown_trans hg (grown_alloc _ _ _)) hgrow (fun y hy => by simp [Value.ownBlock] at hy; omega)
      obtain ⟨r0, r1, rf0, rf1⟩ := cell2g gS
      try simp only [sq]
      refine tkR ?_ 13 rfl (fun _ _ _ h => h) hHeld ?_ ?_
      rotate_left
      ·intro w hSw; (try dsimp only at hSw); go_simp; try (with_reducible rfl)
      try simp only [sq]
      refine rd1 14 rfl (fun K hK => ?_)
      try simp only [sq]
      go_simp
      refine hK.out _ _ ?_ (fun hHeld => ?_)
      ·exact True.intro
      clear hK K
      have hrow2 := row_self hown2
      try simp only [sq]
      refine wpAnyH_done (by kernel_rfl) ?_ _
      have gR2 := set_far (q := S) (k := 1) (u := (.slice (some ⟨gg, 0, none⟩) (ps.length + 1) cq)) gR (by omega)
      have gS2 := set_at (k := 1) (u := (.slice (some ⟨gg, 0, none⟩) (ps.length + 1) cq)) gS
      obtain ⟨t0, t1, tf0, tf1⟩ := cell2g gS2
      have hrow3 : PtRow _ B (.slice (some ⟨gg, 0, none⟩) (ps.length + 1) cq) (ps ++ [(px, py)]) := World.ownsRow.kept hrow2 (grown_set s2 S 1 (.slice (some ⟨gg, 0, none⟩) (ps.length + 1) cq)) (Or.inr (by simp [Value.ownBlock]; omega))
      have hr3 := hr.set (n := S) (k := 1) (by omega) (.slice (some ⟨gg, 0, none⟩) (ps.length + 1) cq)
      have hg3 := grown_setn (k := 1) hg (n := S) (by omega) (.slice (some ⟨gg, 0, none⟩) (ps.length + 1) cq)
      clear hown2 hgrow hat hrow2 hrow HA
      obtain ⟨e0, e1, ef0, ef1⟩ := cell2g gR2
      have hzf : w.heap.size < (s2.setCell ⟨S, 1, none⟩ (.slice (some ⟨gg, 0, none⟩) (ps.length + 1) cq)).heap.size := lt_of_block gR2
      obtain ⟨v', ev, z0', z1', hrow', hr', hg'⟩ := fin_shape (k := kd) hp (Nat.le_refl _) gR2 hrow3 (by omega) (by simp [Value.ownBlock]; omega) hr3 hg3
      have Hev := hid ev
      have Hrow := hid hrow'
      clear ev hrow'
      go_wp2_with fail
      rw [← Hev.out]
      exact bodyPost_ret (v := .agg #[.int .i64 (kd), (.slice (some ⟨gg, 0, none⟩) (ps.length + 1) cq)]) (by simp [results, Tryz.results154, go_sem, z0', z1']) rfl ⟨kd, (ps ++ [(px, py)]), _, rfl, by simp; omega, Hrow.out, hr', hg'⟩
     ·skip
      try simp only [sq]
      obtain ⟨d0, d1⟩ := HA.out kk hkk
      rw [HPX.out] at d0
      rw [HPY.out] at d1
      simp only [Nat.zero_add] at d0 d1
      go_simp
      refine hK.out _ _ ?_ (fun hHeld => ?_)
      ·exact True.intro
      clear hK K
      try simp only [sq]
      refine wpAnyH_ready (rs := [1, 11]) (by kernel_rfl) (by simp) ?_
      refine (AllReadyH.cons rfl (fun K hK => ?_) (AllReadyH.cons rfl (fun K hK => ?_) AllReadyH.nil))
      ·skip
       try simp only [sq]
       go_simp
       refine hK.out _ _ ?_ (fun hHeld => ?_)
       ·exact True.intro
       clear hK K
       try simp only [sq]
       refine rd1 11 rfl (fun K hK => ?_)
       try simp only [sq]
       go_simp
       have b0 := keepalloc r0 (.cells #[.int .i64 px, .int .i64 py] 91)
       have b1 := keepalloc r1 (.cells #[.int .i64 px, .int .i64 py] 91)
       refine hK.out _ _ ?_ (fun hHeld => ?_)
       ·exact True.intro
       clear hK K
       try simp only [sq]
       refine rd1 12 rfl (fun K hK => ?_)
       have hSW := lt_of_block gS
       refine step_append_lies _ (by rfl) _ _ _ (by rfl) B 91 i0 _ 2 16 Tryz.underlying46 hi0 hz0 hz1 hz2 rfl (by omega) _ ps.length (flat2 ps) (by rfl) (World.ownsRow.alloc hrow _) ⟨y1.heap.size, 0, none⟩ 1 1 [.int .i64 px, .int .i64 py] (by rfl) (by rfl) (World.news_of_block (cs := #[.int .i64 px, .int .i64 py]) (t := 91) (fr := (0, 0)) (heap_alloc_new y1 _)) (by simp [Value.oneCell']) (by omega) (by unfold maxLen; omega) (by omega) (by simp; omega) (y1.heap.size + 1) (by simp) ?_
       intro gg cq s2 hown2 hgrow hat hlt2
       have hvS : some S ≠ (Value.slice (some ⟨g, 0, none⟩) ps.length cp).ownBlock := by simp [Value.ownBlock]; omega
       have hvR : some w.heap.size ≠ (Value.slice (some ⟨g, 0, none⟩) ps.length cp).ownBlock := by simp [Value.ownBlock]; omega
       replace gS := (hgrow.block S (by have := lt_of_block gS; simp; omega) hvS).trans (old_alloc gS)
       replace gR := (hgrow.block _ (by have := lt_of_block gR; simp; omega) hvR).trans (old_alloc gR)
       have hgS2 : gg ≠ S := by
        rcases hat with e | e
        ·simp [Value.ownBlock] at e; omega
        ·omega
       have hgg : B ≤ gg := (World.ownsRow.lt hown2 gg rfl).1
       refine hK.out _ _ ?_ (fun hHeld => ?_)
       ·exact True.intro
       clear hK K r0 r1 rf0 rf1
       replace hr := (hr.alloc _).kept hgrow (fun y hy => by simp [Value.ownBlock] at hy; omega)
       replace hg := grown_upr (grown_trans hg (grown_alloc _ _ _)) hgrow (fun y hy => by simp [Value.ownBlock] at hy; omega)
       obtain ⟨r0, r1, rf0, rf1⟩ := cell2g gS
       try simp only [sq]
       refine tkR ?_ 13 rfl (fun _ _ _ h => h) hHeld ?_ ?_
       rotate_left
       ·intro w hSw; (try dsimp only at hSw); go_simp; try (with_reducible rfl)
       try simp only [sq]
       refine rd1 14 rfl (fun K hK => ?_)
       try simp only [sq]
       go_simp
       refine hK.out _ _ ?_ (fun hHeld => ?_)
       ·exact True.intro
       clear hK K
       have hrow2 := row_self hown2
       try simp only [sq]
       refine wpAnyH_done (by kernel_rfl) ?_ _
       have gR2 := set_far (q := S) (k := 1) (u := (.slice (some ⟨gg, 0, none⟩) (ps.length + 1) cq)) gR (by omega)
       have gS2 := set_at (k := 1) (u := (.slice (some ⟨gg, 0, none⟩) (ps.length + 1) cq)) gS
       obtain ⟨t0, t1, tf0, tf1⟩ := cell2g gS2
       have hrow3 : PtRow _ B (.slice (some ⟨gg, 0, none⟩) (ps.length + 1) cq) (ps ++ [(px, py)]) := World.ownsRow.kept hrow2 (grown_set s2 S 1 (.slice (some ⟨gg, 0, none⟩) (ps.length + 1) cq)) (Or.inr (by simp [Value.ownBlock]; omega))
       have hr3 := hr.set (n := S) (k := 1) (by omega) (.slice (some ⟨gg, 0, none⟩) (ps.length + 1) cq)
       have hg3 := grown_setn (k := 1) hg (n := S) (by omega) (.slice (some ⟨gg, 0, none⟩) (ps.length + 1) cq)
       clear hown2 hgrow hat hrow2 hrow HA
       obtain ⟨e0, e1, ef0, ef1⟩ := cell2g gR2
       have hzf : w.heap.size < (s2.setCell ⟨S, 1, none⟩ (.slice (some ⟨gg, 0, none⟩) (ps.length + 1) cq)).heap.size := lt_of_block gR2
       obtain ⟨v', ev, z0', z1', hrow', hr', hg'⟩ := fin_shape (k := kd) hp (Nat.le_refl _) gR2 hrow3 (by omega) (by simp [Value.ownBlock]; omega) hr3 hg3
       have Hev := hid ev
       have Hrow := hid hrow'
       clear ev hrow'
       go_wp2_with fail
       rw [← Hev.out]
       exact bodyPost_ret (v := .agg #[.int .i64 (kd), (.slice (some ⟨gg, 0, none⟩) (ps.length + 1) cq)]) (by simp [results, Tryz.results154, go_sem, z0', z1']) rfl ⟨kd, (ps ++ [(px, py)]), _, rfl, by simp; omega, Hrow.out, hr', hg'⟩
      ·skip
       try simp only [sq]
       go_simp
       have b0 := keepalloc r0 (.cells #[.int .i64 px, .int .i64 py] 91)
       have b1 := keepalloc r1 (.cells #[.int .i64 px, .int .i64 py] 91)
       refine hK.out _ _ ?_ (fun hHeld => ?_)
       ·exact True.intro
       clear hK K
       try simp only [sq]
       refine rd1 1 rfl (fun K hK => ?_)
       try simp only [sq]
       go_simp
       refine hK.out _ _ ?_ (fun hHeld => ?_)
       ·exact True.intro
       clear hK K
       try simp only [sq]
       refine rd1 12 rfl (fun K hK => ?_)
       have hSW := lt_of_block gS
       refine step_append_lies _ (by rfl) _ _ _ (by rfl) B 91 i0 _ 2 16 Tryz.underlying46 hi0 hz0 hz1 hz2 rfl (by omega) _ ps.length (flat2 ps) (by rfl) (World.ownsRow.alloc hrow _) ⟨y1.heap.size, 0, none⟩ 1 1 [.int .i64 px, .int .i64 py] (by rfl) (by rfl) (World.news_of_block (cs := #[.int .i64 px, .int .i64 py]) (t := 91) (fr := (0, 0)) (heap_alloc_new y1 _)) (by simp [Value.oneCell']) (by omega) (by unfold maxLen; omega) (by omega) (by simp; omega) (y1.heap.size + 1) (by simp) ?_
       intro gg cq s2 hown2 hgrow hat hlt2
       have hvS : some S ≠ (Value.slice (some ⟨g, 0, none⟩) ps.length cp).ownBlock := by simp [Value.ownBlock]; omega
       have hvR : some w.heap.size ≠ (Value.slice (some ⟨g, 0, none⟩) ps.length cp).ownBlock := by simp [Value.ownBlock]; omega
       replace gS := (hgrow.block S (by have := lt_of_block gS; simp; omega) hvS).trans (old_alloc gS)
       replace gR := (hgrow.block _ (by have := lt_of_block gR; simp; omega) hvR).trans (old_alloc gR)
       have hgS2 : gg ≠ S := by
        rcases hat with e | e
        ·simp [Value.ownBlock] at e; omega
        ·omega
       have hgg : B ≤ gg := (World.ownsRow.lt hown2 gg rfl).1
       refine hK.out _ _ ?_ (fun hHeld => ?_)
       ·exact True.intro
       clear hK K r0 r1 rf0 rf1
       replace hr := (hr.alloc _).kept hgrow (fun y hy => by simp [Value.ownBlock] at hy; omega)
       replace hg := grown_upr (grown_trans hg (grown_alloc _ _ _)) hgrow (fun y hy => by simp [Value.ownBlock] at hy; omega)
       obtain ⟨r0, r1, rf0, rf1⟩ := cell2g gS
       try simp only [sq]
       refine tkR ?_ 13 rfl (fun _ _ _ h => h) hHeld ?_ ?_
       rotate_left
       ·intro w hSw; (try dsimp only at hSw); go_simp; try (with_reducible rfl)
       try simp only [sq]
       refine rd1 14 rfl (fun K hK => ?_)
       try simp only [sq]
       go_simp
       refine hK.out _ _ ?_ (fun hHeld => ?_)
       ·exact True.intro
       clear hK K
       have hrow2 := row_self hown2
       try simp only [sq]
       refine wpAnyH_done (by kernel_rfl) ?_ _
       have gR2 := set_far (q := S) (k := 1) (u := (.slice (some ⟨gg, 0, none⟩) (ps.length + 1) cq)) gR (by omega)
       have gS2 := set_at (k := 1) (u := (.slice (some ⟨gg, 0, none⟩) (ps.length + 1) cq)) gS
       obtain ⟨t0, t1, tf0, tf1⟩ := cell2g gS2
       have hrow3 : PtRow _ B (.slice (some ⟨gg, 0, none⟩) (ps.length + 1) cq) (ps ++ [(px, py)]) := World.ownsRow.kept hrow2 (grown_set s2 S 1 (.slice (some ⟨gg, 0, none⟩) (ps.length + 1) cq)) (Or.inr (by simp [Value.ownBlock]; omega))
       have hr3 := hr.set (n := S) (k := 1) (by omega) (.slice (some ⟨gg, 0, none⟩) (ps.length + 1) cq)
       have hg3 := grown_setn (k := 1) hg (n := S) (by omega) (.slice (some ⟨gg, 0, none⟩) (ps.length + 1) cq)
       clear hown2 hgrow hat hrow2 hrow HA
       obtain ⟨e0, e1, ef0, ef1⟩ := cell2g gR2
       have hzf : w.heap.size < (s2.setCell ⟨S, 1, none⟩ (.slice (some ⟨gg, 0, none⟩) (ps.length + 1) cq)).heap.size := lt_of_block gR2
       obtain ⟨v', ev, z0', z1', hrow', hr', hg'⟩ := fin_shape (k := kd) hp (Nat.le_refl _) gR2 hrow3 (by omega) (by simp [Value.ownBlock]; omega) hr3 hg3
       have Hev := hid ev
       have Hrow := hid hrow'
       clear ev hrow'
       go_wp2_with fail
       rw [← Hev.out]
       exact bodyPost_ret (v := .agg #[.int .i64 (kd), (.slice (some ⟨gg, 0, none⟩) (ps.length + 1) cq)]) (by simp [results, Tryz.results154, go_sem, z0', z1']) rfl ⟨kd, (ps ++ [(px, py)]), _, rfl, by simp; omega, Hrow.out, hr', hg'⟩
 ·have HS := hid gS
  have HR := hid gR
  have HO : Hid (PtRow v3 B (.slice (some ⟨g, 0, none⟩) ps.length cp) ps) := hid hrow
  have Hr := hid hr
  have Hg := hid hg
  have hne0 : (Value.slice (some ⟨g, 0, none⟩) ps.length cp).ownBlock ≠ some S := by simp [Value.ownBlock]; omega
  clear gS gR hrow hr hg
  go_wp2_with fail
  go_loopw [54] (fun _ wr => ∃ ao : Option Addr, ∃ cp' : Nat, ∃ done : List (Int × Int), ∃ (_ : True), Hid (wr.heap[S]? = some (.cells #[.int .i64 kd, .slice ao done.length cp'] 48 (0, 0))) ∧ Hid (wr.heap[w.heap.size]? = some (.cells #[.int .i64 0, .slice none 0 0] 48 (0, 0))) ∧ Hid (PtRow wr B (.slice ao done.length cp') done) ∧ Hid ((Value.slice ao done.length cp').ownBlock ≠ some S) ∧ Hid (Ready wr p a len cap) ∧ Hid (w.grownBy wr (some p)) ∧ Hid (done.length ≤ 61)) (fun _ wr => 62 - lenAt S wr)
  case atStart => exact ⟨_, _, ps, True.intro, HS, HR, HO, hne0, Hr, Hg, hid (by omega)⟩
  case round =>
   clear HS HR HO Hr Hg
   obtain ⟨ao, cp', done, _, HS, HR, HO, HN, Hr, Hg, HD⟩ := hrel
   have HL := hid (cell2g HS.out).2.1
   have hd61 := HD.out
   have gS := HS.out
   have gR := HR.out
   have hrow : wr.ownsRow B 91 2 (.slice ao done.length cp') done.length (flat2 done) := HO.out
   have hr := Hr.out
   have hg := Hg.out
   have hvS : some S ≠ (Value.slice ao done.length cp').ownBlock := fun e => HN.out e.symm
   have hvR : some w.heap.size ≠ (Value.slice ao done.length cp').ownBlock := fun e => by have := (World.ownsRow.lt hrow _ e.symm).1; omega
   clear HS HR HO HN Hr Hg HD
   go_wp2_with fail
   refine wp_region_held_drew (S := (fun w' => w'.cell? ⟨S, 1, none⟩ = some (.slice ao done.length cp'))) (by kernel_rfl) ?_ (fun hHeld => ?_)
   ·exact (cell2g gS).2.1
   replace gS : wr.drew.heap[S]? = _ := gS
   replace gR : wr.drew.heap[w.heap.size]? = _ := gR
   replace hrow : wr.drew.ownsRow B 91 2 (.slice ao done.length cp') done.length (flat2 done) := hrow
   replace hr : Ready wr.drew p a len cap := hr
   replace hg : w.grownBy wr.drew (some p) := grown_trans hg (grown_drew (grown_same _ _) 1)
   generalize wr.drew = y0 at *
   obtain ⟨r0, r1, rf0, rf1⟩ := cell2g gS
   refine tkR ?_ 0 rfl (fun _ _ _ h => h) hHeld ?_ ?_
   rotate_left
   ·intro w hSw; (try dsimp only at hSw); go_simp; try (with_reducible rfl)
   try simp only [sq]
   refine tkR ?_ 1 rfl (fun _ _ _ h => h) hHeld ?_ ?_
   rotate_left
   ·intro w hSw; (try dsimp only at hSw); go_simp; try (with_reducible rfl)
   try simp only [sq]
   refine tkR ?_ 2 rfl (fun _ _ _ h => h) hHeld ?_ ?_
   rotate_left
   ·intro w hSw; (try dsimp only at hSw); go_simp; try (with_reducible rfl)
   try simp only [sq]
   refine tkR ?_ 3 rfl (fun _ _ _ h => h) hHeld ?_ ?_
   rotate_left
   ·intro w hSw; (try dsimp only at hSw); go_simp; try (with_reducible rfl)
   try simp only [sq]
   refine rd1 4 rfl (fun K hK => ?_)
   try simp only [sq]
   go_simp
   go_at_call 38
   refine (below_r _ p a len cap 2 (by omega) (by omega) hr).mono ?_
   rintro e y1 ⟨c, rfl, c0, c1, hr2, hg2⟩
   replace gS := grown_blk hg2 gS (by omega)
   replace gR := grown_blk hg2 gR (by omega)
   replace hrow := World.ownsRow.kept hrow hg2 (Or.inr (fun e => by have := (World.ownsRow.lt hrow p e).1; omega))
   replace hg := grown_trans hg hg2
   clear hr hg2 r0 r1 rf0 rf1
   obtain ⟨r0, r1, rf0, rf1⟩ := cell2g gS
   go_wp2_with fail
   refine hK.out _ _ ?_ (fun hHeld => ?_)
   ·exact r1
   clear hK K
   try simp only [sq]
   refine tkR ?_ 5 rfl (fun _ _ _ h => h) hHeld ?_ ?_
   rotate_left
   ·intro w hSw; (try dsimp only at hSw); go_simp; try (with_reducible rfl)
   try simp only [sq]
   refine tkR ?_ 6 rfl (fun _ _ _ h => h) hHeld ?_ ?_
   rotate_left
   ·intro w hSw; (try dsimp only at hSw); go_simp; try (with_reducible rfl)
   try simp only [sq]
   refine wpAnyH_done (by kernel_rfl) ?_ _
   have hSW := lt_of_block gS
   have hm3 : 0 ≤ (done.length : Int) % 3 ∧ (done.length : Int) % 3 ≤ 2 := by omega
   have hwc : IntKind.i64.wrap (60 + c) = 60 + c := by rw [IntKind.wrap_i64]; omega
   by_cases hlt : (done.length : Int) < 60 + c
   ·have hown := hrow
    go_wp2_with (at_builtin; refine wpList_append_lies _ rfl (.tmp 56) (.tmp 65) 46 rfl B 91 i0 _ 2 16 Tryz.underlying46 hi0 hz0 hz1 hz2 rfl (by decide) _ done.length (flat2 done) rfl (World.ownsRow.alloc hown _) ⟨y1.heap.size, 0, none⟩ 1 1 [.int .i64 (done.length : Int), .int .i64 ((done.length : Int) % 3)] rfl rfl (World.news_of_block (cs := #[.int .i64 (done.length : Int), .int .i64 ((done.length : Int) % 3)]) (t := 91) (fr := (0, 0)) (heap_alloc_new y1 _)) (by simp [Value.oneCell']) (by decide) (by unfold maxLen; omega) (by omega) (by simp; omega) (y1.heap.size + 1) (by simp) ?_; intro gg cq s2 hown2 hgrow hat hlt2; have gS2 := (hgrow.block S (by simp; omega) hvS).trans (old_alloc gS); obtain ⟨t0, t1, tf0, tf1⟩ := cell2g gS2)
    have gR2 := (hgrow.block _ (by have := lt_of_block gR; simp; omega) hvR).trans (old_alloc gR)
    have hgS2 : gg ≠ S := by
     rcases hat with e | e
     ·exact fun e2 => hvS (by rw [← e2]; exact e.symm)
     ·omega
    have hrow2 := row_self hown2
    have hln : (done ++ [((done.length : Int), (done.length : Int) % 3)]).length = done.length + 1 := by simp
    have HS : Hid ((s2.setCell ⟨S, 1, none⟩ (.slice (some ⟨gg, 0, none⟩) (done.length + 1) cq)).heap[S]? = some (.cells #[.int .i64 kd, (.slice (some ⟨gg, 0, none⟩) (done.length + 1) cq)] 48 (0, 0))) := hid (set_at (k := 1) (u := (.slice (some ⟨gg, 0, none⟩) (done.length + 1) cq)) gS2)
    have HR := hid (set_far (q := S) (k := 1) (u := (.slice (some ⟨gg, 0, none⟩) (done.length + 1) cq)) gR2 (by omega))
    have HO : Hid (PtRow _ B (.slice (some ⟨gg, 0, none⟩) (done.length + 1) cq) (done ++ [((done.length : Int), (done.length : Int) % 3)])) := hid (World.ownsRow.kept hrow2 (grown_set s2 S 1 (.slice (some ⟨gg, 0, none⟩) (done.length + 1) cq)) (Or.inr (by simp [Value.ownBlock]; omega)))
    have Hr := hid (((hr2.alloc _).kept hgrow (fun y hy => by have := (World.ownsRow.lt hown y hy).1; omega)).set (n := S) (k := 1) (by omega) (.slice (some ⟨gg, 0, none⟩) (done.length + 1) cq))
    have Hg := hid (grown_setn (k := 1) (grown_upr (grown_trans hg (grown_alloc _ _ _)) hgrow (fun y hy => by have := (World.ownsRow.lt hown y hy).1; omega)) (n := S) (by omega) (.slice (some ⟨gg, 0, none⟩) (done.length + 1) cq))
    go_roundw
    case rel => exact ⟨some ⟨gg, 0, none⟩, cq, _, True.intro, by rw [hln]; exact HS, HR, by rw [hln]; exact HO, by show _ ≠ _; simp [Value.ownBlock]; omega, Hr, Hg, hid (by rw [hln]; omega)⟩
    case measure =>
     have l1 : lenAt S wr = done.length := lenAt_of HL.out
     have l2 := lenAt_of (cell2g HS.out).2.1
     rw [l1, l2]; omega
   ·have hge : 60 + c ≤ (done.length : Int) := by omega
    obtain ⟨e0, e1, ef0, ef1⟩ := cell2g gR
    have hzf : w.heap.size < y1.heap.size := lt_of_block gR
    obtain ⟨v', ev, z0', z1', hrow', hr', hg'⟩ := fin_shape (k := kd) hp (Nat.le_refl _) gR hrow (by omega) (fun e => hvR e.symm) hr2 hg
    have Hev := hid ev
    have Hrow := hid hrow'
    clear ev hrow'
    go_wp2_with fail
    rw [← Hev.out]
    exact bodyPost_ret (v := .agg #[.int .i64 (kd), (.slice ao done.length cp')]) (by simp [results, Tryz.results154, go_sem, z0', z1']) rfl ⟨kd, done, _, rfl, by omega, Hrow.out, hr', hg'⟩
end Go.Proofs.YtenlhgnobfadgaaGreatDoor
