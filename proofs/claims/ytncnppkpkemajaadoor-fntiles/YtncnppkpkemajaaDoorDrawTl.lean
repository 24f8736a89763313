/- Tiles that are drawn. -/
import Derived.Test.YtncnppkpkemajaaDoorDrawT
import Derived.Test.YtncnppkpkemajaaDoorTileM
namespace Go.Proofs.YtncnppkpkemajaaDoor
open Go.RowKit
set_option linter.unusedVariables false
set_option linter.unusedSimpArgs false
set_option maxRecDepth 100000 in
set_option maxHeartbeats 1000000 in
theorem tile_r (w : World) (p : Nat) (a : Option Addr) (len cap : Nat) (h : Ready w p a len cap) : Calls Tryd.prog 31 #[.pointer (some ⟨p, 0, none⟩)] w fun e w' => ∃ l c r : Int, e = .returned (.agg #[.int .i64 l, .int .i64 c, .int .i64 r]) ∧ Ready w' p a len cap ∧ w.grownBy w' (some p) := by
  have hlt := h.lt
  go_enter Tryd.func31, Tryd.ntmps31
  go_wp2_with fail
  refine (below_r _ p a len cap 9 (by omega) (by omega) (h.alloc _)).mono ?_
  rintro e w1 ⟨l, rfl, l0, l9, hr, hg⟩
  have hb := grown_blk hg (heap_alloc_new w _) (by omega)
  replace hg := grown_trans (grown_alloc _ _ _) hg
  obtain ⟨k, rfl⟩ := Int.eq_ofNat_of_zero_le l0
  have hk8 : k ≤ 8 := by omega
  obtain ⟨_, _, _, n1, n2, _, _⟩ := sid_bounds k hk8
  go_wp2_with fail
  refine (count_calls k hk8 _).mono ?_
  rintro e w' ⟨rfl, hw⟩
  replace hw := hw.symm
  subst hw
  generalize cols (k : Int) = n at *
  go_wp2_with fail
  refine (below_r _ p a len cap n (by omega) (by omega) hr).mono ?_
  rintro e w2 ⟨c, rfl, c0, c1, hr2, hg2⟩
  replace hb := grown_blk hg2 hb (by omega)
  replace hg := grown_trans hg hg2
  clear hg2 hr
  go_wp2_with fail
  refine (below_r _ p a len cap n (by omega) (by omega) hr2).mono ?_
  rintro e w3 ⟨r, rfl, r0, r1, hr, hg2⟩
  replace hb := grown_blk hg2 hb (by omega)
  replace hg := grown_trans hg hg2
  have hsz := hg.size
  have hlt3 := hr.lt
  clear hg2 hr2
  have hqz : w.heap.size < w3.heap.size := lt_of_block hb
  go_wp2_with fail
  refine (below_r _ p a len cap 16 (by omega) (by omega) (hr.alloc _)).mono ?_
  rintro e w4 ⟨s, rfl, s0, s1, hr2, hg2⟩
  have hq := grown_blk hg2 (heap_alloc_new w3 _) (by omega)
  replace hb := grown_blk hg2 (old_alloc hb) (by omega)
  replace hg := grown_trans (grown_trans hg (grown_alloc _ _ _)) hg2
  clear hg2 hr
  generalize w3.heap.size = q at *
  have hlt4 := hr2.lt
  have hqw : q < w4.heap.size := lt_of_block hq
  have hpw4 : p < w4.heap.size := hr2.lt
  have hl4 : w.heap.size < w4.heap.size := lt_of_block hb
  obtain ⟨k0, k1, k2, f0, f1, f2⟩ := cellT hb
  obtain ⟨m0, m1, m2, e0, e1, e2⟩ := cellT hq
  have Hb := hid hb
  have Hq := hid hq
  clear hb hq
  by_cases hs0 : s = 0
  · subst hs0
    have hi : Ints (w4.alloc (.cells #[.int .i64 (-1), .int .i64 9, .int .i64 8] 3)) w4.heap.size 3 := ints_new w4 [-1, 9, 8] _ (by intro z hz; simp at hz; unfold I64; omega)
    go_wp2_with fail
    refine (pick_r _ p a len cap w4.heap.size 3 (by omega) (by omega) (by omega) hi (hr2.alloc _)).mono ?_
    rintro e w5 ⟨z, rfl, hz, hr, hg2⟩
    have gb := grown_blk hg2 (old_alloc Hb.out) (by omega)
    have gq := grown_blk hg2 (old_alloc Hq.out) (by omega)
    replace hg := grown_trans (grown_trans hg (grown_alloc _ _ _)) hg2
    clear hg2 hr2 k0 k1 k2 f0 f1 f2 m0 m1 m2 e0 e1 e2 Hb Hq hi
    obtain ⟨k0, k1, k2, f0, f1, f2⟩ := cellT gb
    obtain ⟨m0, m1, m2, e0, e1, e2⟩ := cellT gq
    have gq' := set_at (k := 0) (u := .int .i64 z) gq
    have gb' := set_far (k := 0) (u := .int .i64 z) gb (show w.heap.size ≠ q by omega)
    have hr' := Ready.set hr (n := q) (k := 0) (by omega) (.int .i64 z)
    have hg' := grown_setn hg (n := q) (k := 0) (by omega) (.int .i64 z)
    have Gb := hid gb'
    have HR := hid hr'
    have HG := hid hg'
    obtain ⟨n0', n1', n2', _, _, _⟩ := cellT gq'
    clear gq gb gb' hr' hg' gq'
    go_wp2_with fail
    have gF := set3 Gb.out (.int .i64 z) (.int .i64 c) (.int .i64 r)
    have rF := (Ready.set (Ready.set (Ready.set HR.out (n := w.heap.size) (k := 0) hlt (.int .i64 z)) (n := w.heap.size) (k := 1) hlt (.int .i64 c)) (n := w.heap.size) (k := 2) hlt (.int .i64 r))
    have wF := (grown_setn (grown_setn (grown_setn HG.out (n := w.heap.size) (k := 0) (Nat.le_refl _) (.int .i64 z)) (n := w.heap.size) (k := 1) (Nat.le_refl _) (.int .i64 c)) (n := w.heap.size) (k := 2) (Nat.le_refl _) (.int .i64 r))
    generalize ((((w5.setCell ⟨q, 0, none⟩ (.int .i64 z)).setCell ⟨w.heap.size, 0, none⟩ (.int .i64 z)).setCell ⟨w.heap.size, 1, none⟩ (.int .i64 c)).setCell ⟨w.heap.size, 2, none⟩ (.int .i64 r)) = wf at gF rF wF ⊢
    obtain ⟨z0', z1', z2', _, _, _⟩ := cellT gF
    exact bodyPost_ret (v := .agg #[.int .i64 z, .int .i64 c, .int .i64 r]) (by simp [results, Tryd.results31, go_sem, z0', z1', z2']) rfl ⟨z, c, r, rfl, rF, wF⟩
  · by_cases hs1 : s = 1
    · subst hs1
      have hi : Ints (w4.alloc (.cells #[.int .i64 (-1), .int .i64 n, .int .i64 (n - 1)] 3)) w4.heap.size 3 := ints_new w4 [-1, n, n - 1] _ (by intro z hz; simp at hz; unfold I64; omega)
      go_wp2_with fail
      refine (pick_r _ p a len cap w4.heap.size 3 (by omega) (by omega) (by omega) hi (hr2.alloc _)).mono ?_
      rintro e w5 ⟨z, rfl, hz, hr, hg2⟩
      have gb := grown_blk hg2 (old_alloc Hb.out) (by omega)
      have gq := grown_blk hg2 (old_alloc Hq.out) (by omega)
      replace hg := grown_trans (grown_trans hg (grown_alloc _ _ _)) hg2
      clear hg2 hr2 k0 k1 k2 f0 f1 f2 m0 m1 m2 e0 e1 e2 Hb Hq hi
      obtain ⟨k0, k1, k2, f0, f1, f2⟩ := cellT gb
      obtain ⟨m0, m1, m2, e0, e1, e2⟩ := cellT gq
      have gq' := set_at (k := 1) (u := .int .i64 z) gq
      have gb' := set_far (k := 1) (u := .int .i64 z) gb (show w.heap.size ≠ q by omega)
      have hr' := Ready.set hr (n := q) (k := 1) (by omega) (.int .i64 z)
      have hg' := grown_setn hg (n := q) (k := 1) (by omega) (.int .i64 z)
      have Gb := hid gb'
      have HR := hid hr'
      have HG := hid hg'
      obtain ⟨n0', n1', n2', _, _, _⟩ := cellT gq'
      clear gq gb gb' hr' hg' gq'
      go_wp2_with fail
      have gF := set3 Gb.out (.int .i64 k) (.int .i64 z) (.int .i64 r)
      have rF := (Ready.set (Ready.set (Ready.set HR.out (n := w.heap.size) (k := 0) hlt (.int .i64 k)) (n := w.heap.size) (k := 1) hlt (.int .i64 z)) (n := w.heap.size) (k := 2) hlt (.int .i64 r))
      have wF := (grown_setn (grown_setn (grown_setn HG.out (n := w.heap.size) (k := 0) (Nat.le_refl _) (.int .i64 k)) (n := w.heap.size) (k := 1) (Nat.le_refl _) (.int .i64 z)) (n := w.heap.size) (k := 2) (Nat.le_refl _) (.int .i64 r))
      generalize ((((w5.setCell ⟨q, 1, none⟩ (.int .i64 z)).setCell ⟨w.heap.size, 0, none⟩ (.int .i64 k)).setCell ⟨w.heap.size, 1, none⟩ (.int .i64 z)).setCell ⟨w.heap.size, 2, none⟩ (.int .i64 r)) = wf at gF rF wF ⊢
      obtain ⟨z0', z1', z2', _, _, _⟩ := cellT gF
      exact bodyPost_ret (v := .agg #[.int .i64 k, .int .i64 z, .int .i64 r]) (by simp [results, Tryd.results31, go_sem, z0', z1', z2']) rfl ⟨k, z, r, rfl, rF, wF⟩
    · go_wp2_with fail
      have gF := set3 Hb.out (.int .i64 k) (.int .i64 c) (.int .i64 r)
      have rF := (Ready.set (Ready.set (Ready.set hr2 (n := w.heap.size) (k := 0) hlt (.int .i64 k)) (n := w.heap.size) (k := 1) hlt (.int .i64 c)) (n := w.heap.size) (k := 2) hlt (.int .i64 r))
      have wF := (grown_setn (grown_setn (grown_setn hg (n := w.heap.size) (k := 0) (Nat.le_refl _) (.int .i64 k)) (n := w.heap.size) (k := 1) (Nat.le_refl _) (.int .i64 c)) (n := w.heap.size) (k := 2) (Nat.le_refl _) (.int .i64 r))
      generalize (((w4.setCell ⟨w.heap.size, 0, none⟩ (.int .i64 k)).setCell ⟨w.heap.size, 1, none⟩ (.int .i64 c)).setCell ⟨w.heap.size, 2, none⟩ (.int .i64 r)) = wf at gF rF wF ⊢
      obtain ⟨z0', z1', z2', _, _, _⟩ := cellT gF
      exact bodyPost_ret (v := .agg #[.int .i64 k, .int .i64 c, .int .i64 r]) (by simp [results, Tryd.results31, go_sem, z0', z1', z2']) rfl ⟨k, c, r, rfl, rF, wF⟩
set_option maxRecDepth 100000 in
set_option maxHeartbeats 1000000 in
theorem draw_tileup (w : World) (a : Option Addr) (len cap : Nat) (hc : CodeAt w a len w.heap.size) : Calls Tryd.prog 11 #[.slice a len cap] w fun e w' => ∃ l c r : Int, e = .returned (.agg #[.int .i64 l, .int .i64 c, .int .i64 r]) ∧ Below w.heap.size w w' := by
  go_enter Tryd.func11, Tryd.ntmps11
  go_wp2_with fail
  generalize hv0 : (w.alloc (.cells #[.int .i64 0, .int .i64 0, .int .i64 0] 25)) = v0
  have g0 : v0.heap[w.heap.size]? = some (.cells #[.int .i64 0, .int .i64 0, .int .i64 0] 25 (0, 0)) := by rw [← hv0]; exact new_alloc _ _ _ rfl
  have hb0 : Below w.heap.size w v0 := by rw [← hv0]; exact balloc (Below.refl _ _) _
  have hc0 : CodeAt v0 a len v0.heap.size := (hc.below hb0).mono hb0.size
  have hz0 : v0.heap.size = w.heap.size + 1 := by rw [← hv0]; simp
  clear hv0
  refine (new_q _ a len cap hc0).mono ?_
  rintro e v1 ⟨p, rfl, hp0, hr, hold, hbn⟩
  have hlt := hr.lt
  replace g0 := hold _ _ g0
  replace hb0 := btrans hb0 hbn
  go_wp2_with fail
  refine (tile_r _ p a len cap hr).mono ?_
  rintro e v2 ⟨l, c, r, rfl, hr2, hg⟩
  replace g0 := grown_blk hg g0 (by omega)
  replace hb0 := bgrown hb0 hg (by omega)
  obtain ⟨k0, k1, k2, f0, f1, f2⟩ := cellT g0
  have G0 := hid g0
  clear g0
  go_wp2_with fail
  have gF := set3 G0.out (.int .i64 l) (.int .i64 c) (.int .i64 r)
  have hF := bset (k := 2) (bset (k := 1) (bset (k := 0) hb0 (Nat.le_refl w.heap.size) (.int .i64 l)) (Nat.le_refl w.heap.size) (.int .i64 c)) (Nat.le_refl w.heap.size) (.int .i64 r)
  generalize (((v2.setCell ⟨w.heap.size, 0, none⟩ (.int .i64 l)).setCell ⟨w.heap.size, 1, none⟩ (.int .i64 c)).setCell ⟨w.heap.size, 2, none⟩ (.int .i64 r)) = wf at gF hF ⊢
  obtain ⟨z0, z1, z2, _, _, _⟩ := cellT gF
  exact bodyPost_ret (v := .agg #[.int .i64 l, .int .i64 c, .int .i64 r]) (by simp [results, Tryd.results11, go_sem, z0, z1, z2]) rfl ⟨l, c, r, rfl, hF⟩
set_option maxRecDepth 100000 in
set_option maxHeartbeats 1000000 in
theorem draw_tileof (w : World) (a : Option Addr) (len cap : Nat) (hc : CodeAt w a len w.heap.size) : Calls Tryd.prog 14 #[.slice a len cap] w fun e w' => ∃ x y l : Int, e = .returned (.tuple #[.agg #[.int .i64 x, .int .i64 y], .int .i64 l]) ∧ Below w.heap.size w w' := by
  go_enter Tryd.func14, Tryd.ntmps14
  go_wp2_with fail
  generalize hv0 : (w.alloc (.cells #[.int .i64 0, .int .i64 0] 30)) = v0
  have g0 : v0.heap[w.heap.size]? = some (.cells #[.int .i64 0, .int .i64 0] 30 (0, 0)) := by rw [← hv0]; exact new_alloc _ _ _ rfl
  have hb0 : Below w.heap.size w v0 := by rw [← hv0]; exact balloc (Below.refl _ _) _
  have hc0 : CodeAt v0 a len v0.heap.size := (hc.below hb0).mono hb0.size
  have hz0 : v0.heap.size = w.heap.size + 1 := by rw [← hv0]; simp
  clear hv0
  refine (new_q _ a len cap hc0).mono ?_
  rintro e v1 ⟨p, rfl, hp0, hr, hold, hbn⟩
  have hlt := hr.lt
  replace g0 := hold _ _ g0
  replace hb0 := btrans hb0 hbn
  clear hold hbn
  go_wp2_with fail
  refine (below_r _ p a len cap 60003 (by omega) (by omega) hr).mono ?_
  rintro e v2 ⟨x, rfl, x0, x1, hr2, hg⟩
  replace g0 := grown_blk hg g0 (by omega)
  replace hb0 := bgrown hb0 hg (by omega)
  clear hg hr
  go_wp2_with fail
  refine (below_r _ p a len cap 60003 (by omega) (by omega) hr2).mono ?_
  rintro e v3 ⟨y, rfl, y0, y1, hr, hg⟩
  replace g0 := grown_blk hg g0 (by omega)
  replace hb0 := bgrown hb0 hg (by omega)
  clear hg hr2
  have hl3 := hr.lt
  have hw3 : w.heap.size < v3.heap.size := lt_of_block g0
  go_wp2_with fail
  have gq := new_alloc v3 v3.heap.size (.cells #[.int .i64 (x - 30001), .int .i64 (y - 30001)] 30) rfl
  replace g0 := old_alloc (o' := .cells #[.int .i64 (x - 30001), .int .i64 (y - 30001)] 30) g0
  replace hr := hr.alloc (.cells #[.int .i64 (x - 30001), .int .i64 (y - 30001)] 30)
  replace hb0 := balloc hb0 (.cells #[.int .i64 (x - 30001), .int .i64 (y - 30001)] 30)
  generalize (v3.alloc (.cells #[.int .i64 (x - 30001), .int .i64 (y - 30001)] 30)) = v4 at g0 gq hr hb0 ⊢
  generalize v3.heap.size = q at *
  obtain ⟨_, _⟩ : True ∧ True := ⟨trivial, trivial⟩
  refine wp_region_held_drew (S := (fun w' => w'.heap[q]? = some (.cells #[.int .i64 (x - 30001), .int .i64 (y - 30001)] 30 (0, 0)))) (by kernel_rfl) ?_ (fun hHeld => ?_)
  · exact gq
  replace gq : v4.drew.heap[q]? = some (.cells #[.int .i64 (x - 30001), .int .i64 (y - 30001)] 30 (0, 0)) := gq
  replace g0 : v4.drew.heap[w.heap.size]? = some (.cells #[.int .i64 0, .int .i64 0] 30 (0, 0)) := g0
  replace hr : Ready v4.drew p a len cap := hr
  replace hb0 := bdrew hb0
  generalize v4.drew = v4' at *
  refine wpAnyH_take (i := 0) (v := ?_) rfl (by kernel_rfl) (by kernel_rfl) (by kernel_rfl) (fun _ _ _ h => h) (Or.inl ⟨by rfl, ?_⟩) hHeld ?_
  rotate_left
  · intro w hSw; (try dsimp only at hSw); obtain ⟨_, _, _, _⟩ := cell2g hSw; go_simp; try (with_reducible rfl)
  try simp only [sq]
  refine wpAnyH_take (i := 1) (v := ?_) rfl (by kernel_rfl) (by kernel_rfl) (by kernel_rfl) (fun _ _ _ h => h) (Or.inl ⟨by rfl, ?_⟩) hHeld ?_
  rotate_left
  · intro w hSw; (try dsimp only at hSw); go_simp; try (with_reducible rfl)
  try simp only [sq]
  refine wpAnyH_ready (rs := [2]) (by kernel_rfl) (by simp) ?_
  refine AllReadyH.cons rfl (fun K hK => ?_) AllReadyH.nil
  try simp only [sq]
  go_simp
  go_at_call 33
  refine (below_r _ p a len cap 11 (by omega) (by omega) hr).mono ?_
  rintro e v5 ⟨l, rfl, l0, l1, hr2, hg⟩
  replace g0 := grown_blk hg g0 (by omega)
  replace gq := grown_blk hg gq (by omega)
  replace hb0 := bgrown hb0 hg (by omega)
  clear hg hr
  go_wp2_with fail
  refine hK.out _ _ ?_ (fun hHeld => ?_)
  · exact gq
  clear hK K
  try simp only [sq]
  refine wpAnyH_take (i := 3) (v := ?_) rfl (by kernel_rfl) (by kernel_rfl) (by kernel_rfl) (fun _ _ _ h => h) (Or.inl ⟨by rfl, ?_⟩) hHeld ?_
  rotate_left
  · intro w hSw; (try dsimp only at hSw); go_simp; try (with_reducible rfl)
  try simp only [sq]
  obtain ⟨k0, k1, f0, f1⟩ := cell2g g0
  have hne : q ≠ w.heap.size := by omega
  refine wpAnyH_ready (rs := [4]) (by kernel_rfl) (by simp) ?_
  refine AllReadyH.cons rfl (fun K hK => ?_) AllReadyH.nil
  try simp only [sq]
  go_simp
  refine hK.out _ _ ?_ (fun hHeld => ?_)
  · exact set_far (set_far gq hne) hne
  clear hK K
  try simp only [sq]
  refine wpAnyH_take (i := 5) (v := ?_) rfl (by kernel_rfl) (by kernel_rfl) (by kernel_rfl) (fun _ _ _ h => h) (Or.inl ⟨by rfl, ?_⟩) hHeld ?_
  rotate_left
  · intro w hSw; (try dsimp only at hSw); go_simp; try (with_reducible rfl)
  try simp only [sq]
  refine wpAnyH_done (by kernel_rfl) ?_ _
  clear hHeld
  have hwl : IntKind.i64.wrap (l - 1) = l - 1 := by rw [IntKind.wrap_i64]; omega
  try rw [hwl]
  have G0 := hid g0
  clear g0 k0 k1 f0 f1
  go_wp2_with fail
  have gF := (set2 G0.out (.int .i64 (x - 30001)) (.int .i64 (y - 30001))).1
  have hF := bset (k := 1) (bset (k := 0) hb0 (Nat.le_refl w.heap.size) (.int .i64 (x - 30001))) (Nat.le_refl w.heap.size) (.int .i64 (y - 30001))
  generalize ((v5.setCell ⟨w.heap.size, 0, none⟩ (.int .i64 (x - 30001))).setCell ⟨w.heap.size, 1, none⟩ (.int .i64 (y - 30001))) = wf at gF hF ⊢
  obtain ⟨z0, z1, _, _⟩ := cell2g gF
  exact bodyPost_ret (v := .tuple #[.agg #[.int .i64 (x - 30001), .int .i64 (y - 30001)], .int .i64 (l - 1)]) (by simp [results, Tryd.results14, go_sem, z0, z1]) rfl ⟨_, _, _, rfl, hF⟩
end Go.Proofs.YtncnppkpkemajaaDoor
