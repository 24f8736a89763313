/- Shapes that are drawn for the laws. -/
import Derived.Test.YtkncdncpgjpemaaDrawS3
import Derived.Test.YtkncdncpgjpemaaDrawB
namespace Go.Proofs.Ytkncdncpgjpemaa
open Go.RowKit
set_option linter.unusedVariables false
set_option linter.unusedSimpArgs false
set_option maxRecDepth 100000 in
set_option maxHeartbeats 1000000 in
theorem mostly_r (w : World) (p : Nat) (a : Option Addr) (len cap : Nat) (h : Ready w p a len cap) : Calls Try.prog 93 #[.pointer (some ⟨p, 0, none⟩)] w fun e w' => ∃ kd : Int, ∃ ps : List (Int × Int), ∃ ao cp, e = .returned (.agg #[.int .i64 kd, .slice ao ps.length cp]) ∧ ps.length ≤ 61 ∧ ps.length ≤ cp ∧ PtRow w' w.heap.size (.slice ao ps.length cp) ps ∧ Ready w' p a len cap ∧ w.grownBy w' (some p) := by
  have hp := h.lt
  go_enter Try.func93, Try.ntmps93
  go_wp2_with fail
  have gR := heap_alloc_new w (.cells #[.int .i64 0, .slice none 0 0] 52)
  have hr := h.alloc (.cells #[.int .i64 0, .slice none 0 0] 52)
  have hg := grown_alloc w (.cells #[.int .i64 0, .slice none 0 0] 52) (some p)
  have hz : (w.alloc (.cells #[.int .i64 0, .slice none 0 0] 52)).heap.size = w.heap.size + 1 := by simp
  generalize w.alloc (.cells #[.int .i64 0, .slice none 0 0] 52) = v0 at *
  clear h
  refine (once_r _ p a len cap 10 (by omega) (by omega) hr).mono ?_
  rintro e v1 ⟨b, rfl, hr2, hg2⟩
  replace gR := grown_blk hg2 gR (by omega)
  replace hg := grown_trans hg hg2
  have hz1 := hg2.size
  clear hr hg2
  cases b
  · go_wp2_with fail
    refine (right_r _ p a len cap hr2).mono ?_
    rintro e v2 ⟨kd, ps, vs, rfl, hl1, hl2, hrow, hr, hg2⟩
    replace gR := grown_blk hg2 gR (by omega)
    replace hg := grown_trans hg hg2
    clear hr2 hg2
    obtain ⟨e0, e1, ef0, ef1⟩ := cell2g gR
    have hzf : w.heap.size < v2.heap.size := lt_of_block gR
    have hne : vs.ownBlock ≠ some w.heap.size := fun e => by have := (World.ownsRow.lt hrow _ e).1; omega
    obtain ⟨ao, cp, rfl, hcp, hpt⟩ := hrow.pts
    clear hpt
    obtain ⟨v', ev, z0', z1', hrow', hr', hg'⟩ := fin_shape (k := kd) hp (Nat.le_refl _) gR hrow (by omega) hne hr hg
    have Hev := hid ev
    have Hrow := hid hrow'
    clear ev hrow' hrow
    go_wp2_with fail
    rw [← Hev.out]
    exact bodyPost_ret (v := .agg #[.int .i64 kd, .slice ao ps.length cp]) (by simp [results, Try.results93, go_sem, z0', z1']) rfl ⟨kd, ps, ao, cp, rfl, by omega, hcp, Hrow.out, hr', hg'⟩
  · go_wp2_with fail
    refine (any_r _ p a len cap hr2).mono ?_
    rintro e v2 ⟨kd, ps, vs, rfl, hl2, hrow, hr, hg2⟩
    replace gR := grown_blk hg2 gR (by omega)
    replace hg := grown_trans hg hg2
    clear hr2 hg2
    obtain ⟨e0, e1, ef0, ef1⟩ := cell2g gR
    have hzf : w.heap.size < v2.heap.size := lt_of_block gR
    have hne : vs.ownBlock ≠ some w.heap.size := fun e => by have := (World.ownsRow.lt hrow _ e).1; omega
    obtain ⟨ao, cp, rfl, hcp, hpt⟩ := hrow.pts
    clear hpt
    obtain ⟨v', ev, z0', z1', hrow', hr', hg'⟩ := fin_shape (k := kd) hp (Nat.le_refl _) gR hrow (by omega) hne hr hg
    have Hev := hid ev
    have Hrow := hid hrow'
    clear ev hrow' hrow
    go_wp2_with fail
    rw [← Hev.out]
    exact bodyPost_ret (v := .agg #[.int .i64 kd, .slice ao ps.length cp]) (by simp [results, Try.results93, go_sem, z0', z1']) rfl ⟨kd, ps, ao, cp, rfl, by omega, hcp, Hrow.out, hr', hg'⟩
set_option maxRecDepth 100000 in
set_option maxHeartbeats 4000000 in
theorem draw_move (w : World) (a : Option Addr) (len cap : Nat) (hc : CodeAt w a len w.heap.size) : Calls Try.prog 54 #[.slice a len cap] w fun e w' => ∃ kd : Int, ∃ ps : List (Int × Int), ∃ ao cp, ∃ dx dy : Int, e = .returned (.tuple #[.agg #[.int .i64 kd, .slice ao ps.length cp], .int .i64 dx, .int .i64 dy]) ∧ ps.length ≤ 61 ∧ ps.length ≤ cp ∧ (-70000 ≤ dx ∧ dx ≤ 70000) ∧ (-70000 ≤ dy ∧ dy ≤ 70000) ∧ Pts w' ao ps ∧ Below w.heap.size w w' := by
  go_enter Try.func54, Try.ntmps54
  go_wp2_with fail
  have g0 : (w.alloc (.cells #[.int .i64 0, .slice none 0 0] 52)).heap[w.heap.size]? = some (.cells #[.int .i64 0, .slice none 0 0] 52 (0, 0)) := by (repeat (first | (with_reducible refine new_alloc _ _ _ ?_; (first | rfl | (simp; done))) | with_reducible refine old_alloc ?_))
  have hb0 : Below w.heap.size w (w.alloc (.cells #[.int .i64 0, .slice none 0 0] 52)) := by (repeat (first | with_reducible exact Below.refl _ _ | with_reducible assumption | (with_reducible refine btrans ?_ (by with_reducible assumption)) | with_reducible refine bdrew ?_ | with_reducible refine balloc ?_ _))
  have hc0 : CodeAt (w.alloc (.cells #[.int .i64 0, .slice none 0 0] 52)) a len (w.alloc (.cells #[.int .i64 0, .slice none 0 0] 52)).heap.size := (hc.below hb0).mono (by simp <;> omega)
  have hz0 : (w.alloc (.cells #[.int .i64 0, .slice none 0 0] 52)).heap.size = w.heap.size + 1 := by simp
  generalize (w.alloc (.cells #[.int .i64 0, .slice none 0 0] 52)) = v0 at *
  refine (new_q _ a len cap hc0).mono ?_
  rintro e v1 ⟨p, rfl, hp0, hr, hold, hbn⟩
  replace g0 := hold _ _ g0
  replace hb0 := btrans hb0 hbn
  have hpw : w.heap.size + 1 ≤ p := by omega
  have hlt1 := hr.lt
  clear hbn hold hc0 hz0 hp0
  go_wp2_with fail
  refine (mostly_r _ p a len cap hr).mono ?_
  rintro e v2 ⟨kd, ps, ao, cp, rfl, hlps, hcps, Rps, hr2, hg2⟩
  replace g0 := grown_blk hg2 g0 (by omega)
  replace hb0 := bgrown hb0 hg2 (by omega)
  have hzv2 := hg2.size
  clear hr hg2
  rename Ready v2 p a len cap => hr
  go_wp2_with fail
  generalize hBB : v1.heap.size = B at *
  clear hBB
  have hwp : w.heap.size < B := by omega
  replace g0 := old_alloc (o' := .cells #[.int .i64 kd, .slice ao ps.length cp] 52) g0
  replace Rps := World.ownsRow.alloc Rps (.cells #[.int .i64 kd, .slice ao ps.length cp] 52)
  have gS := new_alloc v2 v2.heap.size (.cells #[.int .i64 kd, .slice ao ps.length cp] 52) rfl
  replace hr := hr.alloc (.cells #[.int .i64 kd, .slice ao ps.length cp] 52)
  replace hb0 := balloc hb0 (.cells #[.int .i64 kd, .slice ao ps.length cp] 52)
  have hzv3 : (v2.alloc (.cells #[.int .i64 kd, .slice ao ps.length cp] 52)).heap.size = v2.heap.size + 1 := by simp
  generalize v2.alloc (.cells #[.int .i64 kd, .slice ao ps.length cp] 52) = v3 at *
  generalize v2.heap.size = S at *
  refine (below_r _ p a len cap 100 (by omega) (by omega) hr).mono ?_
  rintro e v4 ⟨x, rfl, x0, x1, hr2, hg2⟩
  replace g0 := grown_blk hg2 g0 (by omega)
  replace gS := grown_blk hg2 gS (by omega)
  replace Rps := World.ownsRow.kept Rps hg2 (Or.inr (fun e => by have := (World.ownsRow.lt Rps p e).1; omega))
  replace hb0 := bgrown hb0 hg2 (by omega)
  have hzv4 := hg2.size
  clear hr hg2
  rename Ready v4 p a len cap => hr
  go_wp2_with fail
  refine (once_r _ p a len cap 8 (by omega) (by omega) hr).mono ?_
  rintro e v5 ⟨b, rfl, hr2, hg2⟩
  replace g0 := grown_blk hg2 g0 (by omega)
  replace gS := grown_blk hg2 gS (by omega)
  replace Rps := World.ownsRow.kept Rps hg2 (Or.inr (fun e => by have := (World.ownsRow.lt Rps p e).1; omega))
  replace hb0 := bgrown hb0 hg2 (by omega)
  have hzv5 := hg2.size
  clear hr hg2
  rename Ready v5 p a len cap => hr
  cases b
  · go_wp2_with fail
    refine wp_region_held_drew (S := (fun w' => w'.cell? ⟨S, 0, none⟩ = some (.int .i64 kd) ∧ w'.cell? ⟨S, 1, none⟩ = some (.slice ao ps.length cp))) (by kernel_rfl) ?_ (fun hHeld => ?_)
    · have := cell2g gS; exact ⟨this.1, this.2.1⟩
    replace g0 : v5.drew.heap[_]? = _ := g0
    replace gS : v5.drew.heap[_]? = _ := gS
    replace Rps : World.ownsRow v5.drew B 25 2 (.slice ao ps.length cp) ps.length (flat2 ps) := Rps
    replace hr : Ready v5.drew p a len cap := hr
    replace hb0 : Below w.heap.size w v5.drew := hb0.drew
    generalize v5.drew = y0 at *
    obtain ⟨r0, r1, rf0, rf1⟩ := cell2g gS
    refine wpAnyH_take (i := 0) (v := ?_) rfl (by kernel_rfl) (by kernel_rfl) (by kernel_rfl) (fun _ _ _ h => h) (Or.inl ⟨by rfl, ?_⟩) hHeld ?_
    rotate_left
    · intro w hSw; (try dsimp only at hSw); go_simp; try (with_reducible rfl)
    try simp only [Act.put, List.getElem_toArray, List.getElem_cons_zero, List.getElem_cons_succ, List.setIfInBounds_toArray, List.set_cons_zero, List.set_cons_succ]
    refine wpAnyH_take (i := 1) (v := ?_) rfl (by kernel_rfl) (by kernel_rfl) (by kernel_rfl) (fun _ _ _ h => h) (Or.inl ⟨by rfl, ?_⟩) hHeld ?_
    rotate_left
    · intro w hSw; (try dsimp only at hSw); go_simp; try (with_reducible rfl)
    try simp only [Act.put, List.getElem_toArray, List.getElem_cons_zero, List.getElem_cons_succ, List.setIfInBounds_toArray, List.set_cons_zero, List.set_cons_succ]
    refine wpAnyH_take (i := 2) (v := ?_) rfl (by kernel_rfl) (by kernel_rfl) (by kernel_rfl) (fun _ _ _ h => h) (Or.inl ⟨by rfl, ?_⟩) hHeld ?_
    rotate_left
    · intro w hSw; (try dsimp only at hSw); go_simp; try (with_reducible rfl)
    try simp only [Act.put, List.getElem_toArray, List.getElem_cons_zero, List.getElem_cons_succ, List.setIfInBounds_toArray, List.set_cons_zero, List.set_cons_succ]
    refine wpAnyH_ready (rs := [3]) (by kernel_rfl) (by simp) ?_
    refine (AllReadyH.cons rfl (fun K hK => ?_) AllReadyH.nil)
    try simp only [Act.put, List.getElem_toArray, List.getElem_cons_zero, List.getElem_cons_succ, List.setIfInBounds_toArray, List.set_cons_zero, List.set_cons_succ]
    go_simp
    go_at_call 71
    refine (below_r _ p a len cap 100 (by omega) (by omega) hr).mono ?_
    rintro e y1 ⟨z, rfl, z0, z1, hr2, hg2⟩
    replace g0 := grown_blk hg2 g0 (by omega)
    replace gS := grown_blk hg2 gS (by omega)
    replace Rps := World.ownsRow.kept Rps hg2 (Or.inr (fun e => by have := (World.ownsRow.lt Rps p e).1; omega))
    replace hb0 := bgrown hb0 hg2 (by omega)
    have hzy1 := hg2.size
    clear hr hg2
    rename Ready y1 p a len cap => hr
    clear r0 r1 rf0 rf1
    obtain ⟨r0, r1, rf0, rf1⟩ := cell2g gS
    go_wp2_with fail
    refine hK.out _ _ ?_ (fun hHeld => ?_)
    · exact ⟨r0, r1⟩
    clear hK K
    obtain ⟨e0, e1, ef0, ef1⟩ := cell2g g0
    have hzf : w.heap.size < y1.heap.size := lt_of_block g0
    try simp only [Act.put, List.getElem_toArray, List.getElem_cons_zero, List.getElem_cons_succ, List.setIfInBounds_toArray, List.set_cons_zero, List.set_cons_succ]
    refine wpAnyH_take (i := 4) (v := ?_) rfl (by kernel_rfl) (by kernel_rfl) (by kernel_rfl) (fun _ _ _ h => h) (Or.inl ⟨by rfl, ?_⟩) hHeld ?_
    rotate_left
    · intro w hSw; (try dsimp only at hSw); go_simp; try (with_reducible rfl)
    try simp only [Act.put, List.getElem_toArray, List.getElem_cons_zero, List.getElem_cons_succ, List.setIfInBounds_toArray, List.set_cons_zero, List.set_cons_succ]
    refine wpAnyH_ready (rs := [5]) (by kernel_rfl) (by simp) ?_
    refine (AllReadyH.cons rfl (fun K hK => ?_) AllReadyH.nil)
    try simp only [Act.put, List.getElem_toArray, List.getElem_cons_zero, List.getElem_cons_succ, List.setIfInBounds_toArray, List.set_cons_zero, List.set_cons_succ]
    go_simp
    refine hK.out _ _ ?_ (fun hHeld => ?_)
    · exact ⟨keepset4 (keepset4 r0 (by omega)) (by omega), keepset4 (keepset4 r1 (by omega)) (by omega)⟩
    clear hK K
    try simp only [Act.put, List.getElem_toArray, List.getElem_cons_zero, List.getElem_cons_succ, List.setIfInBounds_toArray, List.set_cons_zero, List.set_cons_succ]
    refine wpAnyH_take (i := 6) (v := ?_) rfl (by kernel_rfl) (by kernel_rfl) (by kernel_rfl) (fun _ _ _ h => h) (Or.inl ⟨by rfl, ?_⟩) hHeld ?_
    rotate_left
    · intro w hSw; (try dsimp only at hSw); go_simp; try (with_reducible rfl)
    try simp only [Act.put, List.getElem_toArray, List.getElem_cons_zero, List.getElem_cons_succ, List.setIfInBounds_toArray, List.set_cons_zero, List.set_cons_succ]
    refine wpAnyH_take (i := 7) (v := ?_) rfl (by kernel_rfl) (by kernel_rfl) (by kernel_rfl) (fun _ _ _ h => h) (Or.inl ⟨by rfl, ?_⟩) hHeld ?_
    rotate_left
    · intro w hSw; (try dsimp only at hSw); go_simp; try (with_reducible rfl)
    try simp only [Act.put, List.getElem_toArray, List.getElem_cons_zero, List.getElem_cons_succ, List.setIfInBounds_toArray, List.set_cons_zero, List.set_cons_succ]
    refine wpAnyH_done (by kernel_rfl) ?_ _
    have hset := set2 g0 (.int .i64 kd) (.slice ao ps.length cp)
    obtain ⟨f0, f1, _, _⟩ := cell2g hset.1
    have hR1 : PtRow _ B (.slice ao ps.length cp) ps := World.ownsRow.kept (World.ownsRow.kept Rps (grown_set y1 w.heap.size 0 (.int .i64 kd)) (Or.inr (fun e => by have := (World.ownsRow.lt Rps _ e).1; omega))) (grown_set _ w.heap.size 1 (.slice ao ps.length cp)) (Or.inr (fun e => by have := (World.ownsRow.lt Rps _ e).1; omega))
    have hbF := bset (bset hb0 (q := w.heap.size) (k := 0) (Nat.le_refl _) (.int .i64 kd)) (q := w.heap.size) (k := 1) (Nat.le_refl _) (.slice ao ps.length cp)
    obtain ⟨_, _, e', _, hpt⟩ := hR1.pts
    cases e'
    generalize (y1.setCell ⟨w.heap.size, 0, none⟩ (.int .i64 kd)).setCell ⟨w.heap.size, 1, none⟩ (.slice ao ps.length cp) = yf at *
    have HP := hid hpt
    clear hset hpt hR1
    have hwz : IntKind.i64.wrap (z - 50) = z - 50 := by rw [IntKind.wrap_i64]; omega
    go_wp2_with fail
    exact bodyPost_ret (v := .tuple #[.agg #[.int .i64 kd, .slice ao ps.length cp], .int .i64 (x - 50), .int .i64 (z - 50)]) (by simp [results, Try.results54, go_sem, f0, f1, hwz]) rfl ⟨kd, ps, ao, cp, x - 50, z - 50, rfl, hlps, hcps, by omega, by omega, HP.out, hbF⟩
  · go_wp2_with fail
    have hlt5 := hr.lt
    refine (pick_p (fun z => -70000 ≤ z ∧ z ≤ 70000) _ p a len cap _ 4 (by omega) (by omega) (by omega) (intsP_new (fun z => -70000 ≤ z ∧ z ≤ 70000) v5 [60000, 60001, -60001, 29990] 3 (by decide)) (hr.alloc _)).mono ?_
    rintro e v6 ⟨dx, rfl, hdx, hr2, hg2⟩
    replace g0 := grown_blk hg2 (old_alloc g0) (by omega)
    replace gS := grown_blk hg2 (old_alloc gS) (by omega)
    replace Rps := World.ownsRow.kept (World.ownsRow.alloc Rps _) hg2 (Or.inr (fun e => by have := (World.ownsRow.lt Rps p e).1; omega))
    replace hb0 := bgrown (balloc hb0 _) hg2 (by omega)
    clear hr hg2
    rename Ready v6 p a len cap => hr
    go_wp2_with fail
    refine wp_region_held_drew (S := (fun w' => w'.cell? ⟨S, 0, none⟩ = some (.int .i64 kd) ∧ w'.cell? ⟨S, 1, none⟩ = some (.slice ao ps.length cp))) (by kernel_rfl) ?_ (fun hHeld => ?_)
    · have := cell2g gS; exact ⟨this.1, this.2.1⟩
    replace g0 : v6.drew.heap[_]? = _ := g0
    replace gS : v6.drew.heap[_]? = _ := gS
    replace Rps : World.ownsRow v6.drew B 25 2 (.slice ao ps.length cp) ps.length (flat2 ps) := Rps
    replace hr : Ready v6.drew p a len cap := hr
    replace hb0 : Below w.heap.size w v6.drew := hb0.drew
    generalize v6.drew = y0 at *
    obtain ⟨r0, r1, rf0, rf1⟩ := cell2g gS
    refine wpAnyH_take (i := 0) (v := ?_) rfl (by kernel_rfl) (by kernel_rfl) (by kernel_rfl) (fun _ _ _ h => h) (Or.inl ⟨by rfl, ?_⟩) hHeld ?_
    rotate_left
    · intro w hSw; (try dsimp only at hSw); go_simp; try (with_reducible rfl)
    try simp only [Act.put, List.getElem_toArray, List.getElem_cons_zero, List.getElem_cons_succ, List.setIfInBounds_toArray, List.set_cons_zero, List.set_cons_succ]
    refine wpAnyH_take (i := 1) (v := ?_) rfl (by kernel_rfl) (by kernel_rfl) (by kernel_rfl) (fun _ _ _ h => h) (Or.inl ⟨by rfl, ?_⟩) hHeld ?_
    rotate_left
    · intro w hSw; (try dsimp only at hSw); go_simp; try (with_reducible rfl)
    try simp only [Act.put, List.getElem_toArray, List.getElem_cons_zero, List.getElem_cons_succ, List.setIfInBounds_toArray, List.set_cons_zero, List.set_cons_succ]
    refine wpAnyH_take (i := 2) (v := ?_) rfl (by kernel_rfl) (by kernel_rfl) (by kernel_rfl) (fun _ _ _ h => h) (Or.inl ⟨by rfl, ?_⟩) hHeld ?_
    rotate_left
    · intro w hSw; (try dsimp only at hSw); go_simp; try (with_reducible rfl)
    try simp only [Act.put, List.getElem_toArray, List.getElem_cons_zero, List.getElem_cons_succ, List.setIfInBounds_toArray, List.set_cons_zero, List.set_cons_succ]
    refine wpAnyH_ready (rs := [3]) (by kernel_rfl) (by simp) ?_
    refine (AllReadyH.cons rfl (fun K hK => ?_) AllReadyH.nil)
    try simp only [Act.put, List.getElem_toArray, List.getElem_cons_zero, List.getElem_cons_succ, List.setIfInBounds_toArray, List.set_cons_zero, List.set_cons_succ]
    go_simp
    go_at_call 71
    refine (below_r _ p a len cap 100 (by omega) (by omega) hr).mono ?_
    rintro e y1 ⟨z, rfl, z0, z1, hr2, hg2⟩
    replace g0 := grown_blk hg2 g0 (by omega)
    replace gS := grown_blk hg2 gS (by omega)
    replace Rps := World.ownsRow.kept Rps hg2 (Or.inr (fun e => by have := (World.ownsRow.lt Rps p e).1; omega))
    replace hb0 := bgrown hb0 hg2 (by omega)
    have hzy1 := hg2.size
    clear hr hg2
    rename Ready y1 p a len cap => hr
    clear r0 r1 rf0 rf1
    obtain ⟨r0, r1, rf0, rf1⟩ := cell2g gS
    go_wp2_with fail
    refine hK.out _ _ ?_ (fun hHeld => ?_)
    · exact ⟨r0, r1⟩
    clear hK K
    obtain ⟨e0, e1, ef0, ef1⟩ := cell2g g0
    have hzf : w.heap.size < y1.heap.size := lt_of_block g0
    try simp only [Act.put, List.getElem_toArray, List.getElem_cons_zero, List.getElem_cons_succ, List.setIfInBounds_toArray, List.set_cons_zero, List.set_cons_succ]
    refine wpAnyH_take (i := 4) (v := ?_) rfl (by kernel_rfl) (by kernel_rfl) (by kernel_rfl) (fun _ _ _ h => h) (Or.inl ⟨by rfl, ?_⟩) hHeld ?_
    rotate_left
    · intro w hSw; (try dsimp only at hSw); go_simp; try (with_reducible rfl)
    try simp only [Act.put, List.getElem_toArray, List.getElem_cons_zero, List.getElem_cons_succ, List.setIfInBounds_toArray, List.set_cons_zero, List.set_cons_succ]
    refine wpAnyH_ready (rs := [5]) (by kernel_rfl) (by simp) ?_
    refine (AllReadyH.cons rfl (fun K hK => ?_) AllReadyH.nil)
    try simp only [Act.put, List.getElem_toArray, List.getElem_cons_zero, List.getElem_cons_succ, List.setIfInBounds_toArray, List.set_cons_zero, List.set_cons_succ]
    go_simp
    refine hK.out _ _ ?_ (fun hHeld => ?_)
    · exact ⟨keepset4 (keepset4 r0 (by omega)) (by omega), keepset4 (keepset4 r1 (by omega)) (by omega)⟩
    clear hK K
    try simp only [Act.put, List.getElem_toArray, List.getElem_cons_zero, List.getElem_cons_succ, List.setIfInBounds_toArray, List.set_cons_zero, List.set_cons_succ]
    refine wpAnyH_take (i := 6) (v := ?_) rfl (by kernel_rfl) (by kernel_rfl) (by kernel_rfl) (fun _ _ _ h => h) (Or.inl ⟨by rfl, ?_⟩) hHeld ?_
    rotate_left
    · intro w hSw; (try dsimp only at hSw); go_simp; try (with_reducible rfl)
    try simp only [Act.put, List.getElem_toArray, List.getElem_cons_zero, List.getElem_cons_succ, List.setIfInBounds_toArray, List.set_cons_zero, List.set_cons_succ]
    refine wpAnyH_take (i := 7) (v := ?_) rfl (by kernel_rfl) (by kernel_rfl) (by kernel_rfl) (fun _ _ _ h => h) (Or.inl ⟨by rfl, ?_⟩) hHeld ?_
    rotate_left
    · intro w hSw; (try dsimp only at hSw); go_simp; try (with_reducible rfl)
    try simp only [Act.put, List.getElem_toArray, List.getElem_cons_zero, List.getElem_cons_succ, List.setIfInBounds_toArray, List.set_cons_zero, List.set_cons_succ]
    refine wpAnyH_done (by kernel_rfl) ?_ _
    have hset := set2 g0 (.int .i64 kd) (.slice ao ps.length cp)
    obtain ⟨f0, f1, _, _⟩ := cell2g hset.1
    have hR1 : PtRow _ B (.slice ao ps.length cp) ps := World.ownsRow.kept (World.ownsRow.kept Rps (grown_set y1 w.heap.size 0 (.int .i64 kd)) (Or.inr (fun e => by have := (World.ownsRow.lt Rps _ e).1; omega))) (grown_set _ w.heap.size 1 (.slice ao ps.length cp)) (Or.inr (fun e => by have := (World.ownsRow.lt Rps _ e).1; omega))
    have hbF := bset (bset hb0 (q := w.heap.size) (k := 0) (Nat.le_refl _) (.int .i64 kd)) (q := w.heap.size) (k := 1) (Nat.le_refl _) (.slice ao ps.length cp)
    obtain ⟨_, _, e', _, hpt⟩ := hR1.pts
    cases e'
    generalize (y1.setCell ⟨w.heap.size, 0, none⟩ (.int .i64 kd)).setCell ⟨w.heap.size, 1, none⟩ (.slice ao ps.length cp) = yf at *
    have HP := hid hpt
    clear hset hpt hR1
    have hwz : IntKind.i64.wrap (z - 50) = z - 50 := by rw [IntKind.wrap_i64]; omega
    go_wp2_with fail
    exact bodyPost_ret (v := .tuple #[.agg #[.int .i64 kd, .slice ao ps.length cp], .int .i64 (dx), .int .i64 (z - 50)]) (by simp [results, Try.results54, go_sem, f0, f1, hwz]) rfl ⟨kd, ps, ao, cp, dx, z - 50, rfl, hlps, hcps, hdx, by omega, HP.out, hbF⟩
set_option maxRecDepth 100000 in
set_option maxHeartbeats 4000000 in
theorem draw_meet (w : World) (a : Option Addr) (len cap : Nat) (hc : CodeAt w a len w.heap.size) : Calls Try.prog 45 #[.slice a len cap] w fun e w' => ∃ kd : Int, ∃ ps : List (Int × Int), ∃ ao cp, ∃ kd2 : Int, ∃ qs : List (Int × Int), ∃ ao2 cp2, e = .returned (.tuple #[.agg #[.int .i64 kd, .slice ao ps.length cp], .agg #[.int .i64 kd2, .slice ao2 qs.length cp2]]) ∧ ps.length ≤ 61 ∧ ps.length ≤ cp ∧ qs.length ≤ 61 ∧ qs.length ≤ cp2 ∧ Pts w' ao ps ∧ Pts w' ao2 qs ∧ Below w.heap.size w w' := by
  go_enter Try.func45, Try.ntmps45
  go_wp2_with fail
  have g0 : ((w.alloc (.cells #[.int .i64 0, .slice none 0 0] 52)).alloc (.cells #[.int .i64 0, .slice none 0 0] 52)).heap[w.heap.size]? = some (.cells #[.int .i64 0, .slice none 0 0] 52 (0, 0)) := by (repeat (first | (with_reducible refine new_alloc _ _ _ ?_; (first | rfl | (simp; done))) | with_reducible refine old_alloc ?_))
  have g1 : ((w.alloc (.cells #[.int .i64 0, .slice none 0 0] 52)).alloc (.cells #[.int .i64 0, .slice none 0 0] 52)).heap[w.heap.size + 1]? = some (.cells #[.int .i64 0, .slice none 0 0] 52 (0, 0)) := by (repeat (first | (with_reducible refine new_alloc _ _ _ ?_; (first | rfl | (simp; done))) | with_reducible refine old_alloc ?_))
  have hb0 : Below w.heap.size w ((w.alloc (.cells #[.int .i64 0, .slice none 0 0] 52)).alloc (.cells #[.int .i64 0, .slice none 0 0] 52)) := by (repeat (first | with_reducible exact Below.refl _ _ | with_reducible assumption | (with_reducible refine btrans ?_ (by with_reducible assumption)) | with_reducible refine bdrew ?_ | with_reducible refine balloc ?_ _))
  have hc0 : CodeAt ((w.alloc (.cells #[.int .i64 0, .slice none 0 0] 52)).alloc (.cells #[.int .i64 0, .slice none 0 0] 52)) a len ((w.alloc (.cells #[.int .i64 0, .slice none 0 0] 52)).alloc (.cells #[.int .i64 0, .slice none 0 0] 52)).heap.size := (hc.below hb0).mono (by simp <;> omega)
  have hz0 : ((w.alloc (.cells #[.int .i64 0, .slice none 0 0] 52)).alloc (.cells #[.int .i64 0, .slice none 0 0] 52)).heap.size = w.heap.size + 2 := by simp
  generalize ((w.alloc (.cells #[.int .i64 0, .slice none 0 0] 52)).alloc (.cells #[.int .i64 0, .slice none 0 0] 52)) = v0 at *
  refine (new_q _ a len cap hc0).mono ?_
  rintro e v1 ⟨p, rfl, hp0, hr, hold, hbn⟩
  replace g0 := hold _ _ g0
  replace g1 := hold _ _ g1
  replace hb0 := btrans hb0 hbn
  have hpw : w.heap.size + 2 ≤ p := by omega
  have hlt1 := hr.lt
  clear hbn hold hc0 hz0 hp0
  go_wp2_with fail
  refine (mostly_r _ p a len cap hr).mono ?_
  rintro e v2 ⟨kd, ps, ao, cp, rfl, hlps, hcps, Rps, hr2, hg2⟩
  replace g0 := grown_blk hg2 g0 (by omega)
  replace g1 := grown_blk hg2 g1 (by omega)
  replace hb0 := bgrown hb0 hg2 (by omega)
  have hzv2 := hg2.size
  clear hr hg2
  rename Ready v2 p a len cap => hr
  go_wp2_with fail
  generalize hBB : v1.heap.size = B at *
  clear hBB
  have hwp : w.heap.size + 1 < B := by omega
  replace Rps := World.ownsRow.alloc Rps (.cells #[.int .i64 kd, .slice ao ps.length cp] 52)
  replace g0 := old_alloc (o' := .cells #[.int .i64 kd, .slice ao ps.length cp] 52) g0
  replace g1 := old_alloc (o' := .cells #[.int .i64 kd, .slice ao ps.length cp] 52) g1
  have gS := new_alloc v2 v2.heap.size (.cells #[.int .i64 kd, .slice ao ps.length cp] 52) rfl
  replace hr := hr.alloc (.cells #[.int .i64 kd, .slice ao ps.length cp] 52)
  replace hb0 := balloc hb0 (.cells #[.int .i64 kd, .slice ao ps.length cp] 52)
  have hzv3 : (v2.alloc (.cells #[.int .i64 kd, .slice ao ps.length cp] 52)).heap.size = v2.heap.size + 1 := by simp
  generalize v2.alloc (.cells #[.int .i64 kd, .slice ao ps.length cp] 52) = v3 at *
  generalize v2.heap.size = S at *
  refine wp_region_held_drew (S := (fun w' => w'.cell? ⟨S, 0, none⟩ = some (.int .i64 kd) ∧ w'.cell? ⟨S, 1, none⟩ = some (.slice ao ps.length cp))) (by kernel_rfl) ?_ (fun hHeld => ?_)
  · have := cell2g gS; exact ⟨this.1, this.2.1⟩
  replace g0 : v3.drew.heap[_]? = _ := g0
  replace g1 : v3.drew.heap[_]? = _ := g1
  replace gS : v3.drew.heap[_]? = _ := gS
  replace Rps : World.ownsRow v3.drew B 25 2 (.slice ao ps.length cp) ps.length (flat2 ps) := Rps
  replace hr : Ready v3.drew p a len cap := hr
  replace hb0 : Below w.heap.size w v3.drew := hb0.drew
  generalize v3.drew = y0 at *
  obtain ⟨r0, r1, rf0, rf1⟩ := cell2g gS
  have hzS := lt_of_block gS
  refine wpAnyH_take (i := 0) (v := ?_) rfl (by kernel_rfl) (by kernel_rfl) (by kernel_rfl) (fun _ _ _ h => h) (Or.inl ⟨by rfl, ?_⟩) hHeld ?_
  rotate_left
  · intro w hSw; (try dsimp only at hSw); go_simp; try (with_reducible rfl)
  try simp only [Act.put, List.getElem_toArray, List.getElem_cons_zero, List.getElem_cons_succ, List.setIfInBounds_toArray, List.set_cons_zero, List.set_cons_succ]
  refine wpAnyH_take (i := 1) (v := ?_) rfl (by kernel_rfl) (by kernel_rfl) (by kernel_rfl) (fun _ _ _ h => h) (Or.inl ⟨by rfl, ?_⟩) hHeld ?_
  rotate_left
  · intro w hSw; (try dsimp only at hSw); go_simp; try (with_reducible rfl)
  try simp only [Act.put, List.getElem_toArray, List.getElem_cons_zero, List.getElem_cons_succ, List.setIfInBounds_toArray, List.set_cons_zero, List.set_cons_succ]
  refine wpAnyH_ready (rs := [2]) (by kernel_rfl) (by simp) ?_
  refine (AllReadyH.cons rfl (fun K hK => ?_) AllReadyH.nil)
  try simp only [Act.put, List.getElem_toArray, List.getElem_cons_zero, List.getElem_cons_succ, List.setIfInBounds_toArray, List.set_cons_zero, List.set_cons_succ]
  go_simp
  go_at_call 93
  refine (mostly_r _ p a len cap hr).mono ?_
  rintro e y1 ⟨kd2, qs, ao2, cp2, rfl, hlqs, hcqs, Rqs, hr2, hg2⟩
  replace g0 := grown_blk hg2 g0 (by omega)
  replace g1 := grown_blk hg2 g1 (by omega)
  replace gS := grown_blk hg2 gS (by omega)
  replace Rps := World.ownsRow.kept Rps hg2 (Or.inr (fun e => by have := (World.ownsRow.lt Rps p e).1; omega))
  replace hb0 := bgrown hb0 hg2 (by omega)
  have hzy1 := hg2.size
  clear hr hg2
  rename Ready y1 p a len cap => hr
  clear r0 r1 rf0 rf1
  obtain ⟨r0, r1, rf0, rf1⟩ := cell2g gS
  go_wp2_with fail
  refine hK.out _ _ ?_ (fun hHeld => ?_)
  · exact ⟨r0, r1⟩
  clear hK K
  obtain ⟨e0, e1, ef0, ef1⟩ := cell2g g0
  obtain ⟨d0, d1, df0, df1⟩ := cell2g g1
  have hzf : w.heap.size + 1 < y1.heap.size := lt_of_block g1
  try simp only [Act.put, List.getElem_toArray, List.getElem_cons_zero, List.getElem_cons_succ, List.setIfInBounds_toArray, List.set_cons_zero, List.set_cons_succ]
  refine wpAnyH_ready (rs := [3]) (by kernel_rfl) (by simp) ?_
  refine (AllReadyH.cons rfl (fun K hK => ?_) AllReadyH.nil)
  try simp only [Act.put, List.getElem_toArray, List.getElem_cons_zero, List.getElem_cons_succ, List.setIfInBounds_toArray, List.set_cons_zero, List.set_cons_succ]
  go_simp
  refine hK.out _ _ ?_ (fun hHeld => ?_)
  · exact ⟨keepset4 (keepset4 hHeld.1 (by omega)) (by omega), keepset4 (keepset4 hHeld.2 (by omega)) (by omega)⟩
  clear hK K
  try simp only [Act.put, List.getElem_toArray, List.getElem_cons_zero, List.getElem_cons_succ, List.setIfInBounds_toArray, List.set_cons_zero, List.set_cons_succ]
  have hset := set2 g0 (.int .i64 kd) (.slice ao ps.length cp)
  have g1' := hset.2 _ _ (by omega) g1
  have g0' := hset.1
  have hR1 := World.ownsRow.kept (World.ownsRow.kept Rps (grown_set y1 w.heap.size 0 (.int .i64 kd)) (Or.inr (fun e => by have := (World.ownsRow.lt Rps _ e).1; omega))) (grown_set _ w.heap.size 1 (.slice ao ps.length cp)) (Or.inr (fun e => by have := (World.ownsRow.lt Rps _ e).1; omega))
  have hR2 := World.ownsRow.kept (World.ownsRow.kept Rqs (grown_set y1 w.heap.size 0 (.int .i64 kd)) (Or.inr (fun e => by have := (World.ownsRow.lt Rqs _ e).1; omega))) (grown_set _ w.heap.size 1 (.slice ao ps.length cp)) (Or.inr (fun e => by have := (World.ownsRow.lt Rqs _ e).1; omega))
  have hbF := bset (bset hb0 (q := w.heap.size) (k := 0) (Nat.le_refl _) (.int .i64 kd)) (q := w.heap.size) (k := 1) (Nat.le_refl _) (.slice ao ps.length cp)
  have hzz : ((y1.setCell ⟨w.heap.size, 0, none⟩ (.int .i64 kd)).setCell ⟨w.heap.size, 1, none⟩ (.slice ao ps.length cp)).heap.size = y1.heap.size := by simp
  clear hset d0 d1 df0 df1 e0 e1 ef0 ef1
  generalize (y1.setCell ⟨w.heap.size, 0, none⟩ (.int .i64 kd)).setCell ⟨w.heap.size, 1, none⟩ (.slice ao ps.length cp) = yf at *
  obtain ⟨d0, d1, df0, df1⟩ := cell2g g1'
  refine wpAnyH_ready (rs := [4]) (by kernel_rfl) (by simp) ?_
  refine (AllReadyH.cons rfl (fun K hK => ?_) AllReadyH.nil)
  try simp only [Act.put, List.getElem_toArray, List.getElem_cons_zero, List.getElem_cons_succ, List.setIfInBounds_toArray, List.set_cons_zero, List.set_cons_succ]
  go_simp
  refine hK.out _ _ ?_ (fun hHeld => ?_)
  · exact ⟨keepset4 (keepset4 hHeld.1 (by omega)) (by omega), keepset4 (keepset4 hHeld.2 (by omega)) (by omega)⟩
  clear hK K
  try simp only [Act.put, List.getElem_toArray, List.getElem_cons_zero, List.getElem_cons_succ, List.setIfInBounds_toArray, List.set_cons_zero, List.set_cons_succ]
  refine wpAnyH_done (by kernel_rfl) ?_ _
  have hset := set2 g1' (.int .i64 kd2) (.slice ao2 qs.length cp2)
  obtain ⟨f0, f1, _, _⟩ := cell2g hset.1
  obtain ⟨f2, f3, _, _⟩ := cell2g (hset.2 _ _ (by omega) g0')
  have hS1 : PtRow _ B (.slice ao ps.length cp) ps := World.ownsRow.kept (World.ownsRow.kept hR1 (grown_set yf (w.heap.size + 1) 0 (.int .i64 kd2)) (Or.inr (fun e => by have := (World.ownsRow.lt hR1 _ e).1; omega))) (grown_set _ (w.heap.size + 1) 1 (.slice ao2 qs.length cp2)) (Or.inr (fun e => by have := (World.ownsRow.lt hR1 _ e).1; omega))
  have hS2 : PtRow _ y0.heap.size (.slice ao2 qs.length cp2) qs := World.ownsRow.kept (World.ownsRow.kept hR2 (grown_set yf (w.heap.size + 1) 0 (.int .i64 kd2)) (Or.inr (fun e => by have := (World.ownsRow.lt hR2 _ e).1; omega))) (grown_set _ (w.heap.size + 1) 1 (.slice ao2 qs.length cp2)) (Or.inr (fun e => by have := (World.ownsRow.lt hR2 _ e).1; omega))
  have hbG := bset (bset hbF (q := w.heap.size + 1) (k := 0) (by omega) (.int .i64 kd2)) (q := w.heap.size + 1) (k := 1) (by omega) (.slice ao2 qs.length cp2)
  obtain ⟨_, _, e', _, hpt⟩ := hS1.pts
  cases e'
  obtain ⟨_, _, e', _, hpt2⟩ := hS2.pts
  cases e'
  generalize (yf.setCell ⟨w.heap.size + 1, 0, none⟩ (.int .i64 kd2)).setCell ⟨w.heap.size + 1, 1, none⟩ (.slice ao2 qs.length cp2) = yg at *
  have HP := hid hpt
  have HP2 := hid hpt2
  clear hset hpt hpt2 hS1 hS2 hR1 hR2
  go_wp2_with fail
  exact bodyPost_ret (v := .tuple #[.agg #[.int .i64 kd, .slice ao ps.length cp], .agg #[.int .i64 kd2, .slice ao2 qs.length cp2]]) (by simp [results, Try.results45, go_sem, f0, f1, f2, f3]) rfl ⟨kd, ps, ao, cp, kd2, qs, ao2, cp2, rfl, hlps, hcps, hlqs, hcqs, HP.out, HP2.out, hbG⟩
end Go.Proofs.Ytkncdncpgjpemaa
