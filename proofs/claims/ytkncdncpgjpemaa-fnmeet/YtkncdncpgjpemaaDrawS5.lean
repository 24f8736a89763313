/- Shapes that are drawn with a box, or with a point. -/
import Derived.Test.YtkncdncpgjpemaaDrawS3
import Derived.Test.YtkncdncpgjpemaaDrawB
namespace Go.Proofs.Ytkncdncpgjpemaa
open Go.RowKit
set_option linter.unusedVariables false
set_option linter.unusedSimpArgs false
set_option maxRecDepth 100000 in
set_option maxHeartbeats 1000000 in
theorem mostly_r (w : World) (p : Nat) (a : Option Addr) (len cap : Nat) (h : Ready w p a len cap) : Calls Try.prog 93 #[.pointer (some ⟨p, 0, none⟩)] w fun e w' => ∃ kd : Int, ∃ ps : List (Int × Int), ∃ ao cp, e = .returned (.agg #[.int .i64 kd, .slice ao ps.length cp]) ∧ ps.length ≤ 61 ∧ ps.length ≤ cp ∧ PtRow w' w.heap.size (.slice ao ps.length cp) ps ∧ Ready w' p a len cap ∧ w.grownBy w' (some p) := by
  have hp := h.lt
  go_enter Try.func93, Try.ntmps93
  go_wp2_with fail
  have gR := heap_alloc_new w (.cells #[.int .i64 0, .slice none 0 0] 52)
  have hr := h.alloc (.cells #[.int .i64 0, .slice none 0 0] 52)
  have hg := grown_alloc w (.cells #[.int .i64 0, .slice none 0 0] 52) (some p)
  have hz : (w.alloc (.cells #[.int .i64 0, .slice none 0 0] 52)).heap.size = w.heap.size + 1 := by simp
  generalize w.alloc (.cells #[.int .i64 0, .slice none 0 0] 52) = v0 at *
  clear h
  refine (once_r _ p a len cap 10 (by omega) (by omega) hr).mono ?_
  rintro e v1 ⟨b, rfl, hr2, hg2⟩
  replace gR := grown_blk hg2 gR (by omega)
  replace hg := grown_trans hg hg2
  have hz1 := hg2.size
  clear hr hg2
  cases b
  · go_wp2_with fail
    refine (right_r _ p a len cap hr2).mono ?_
    rintro e v2 ⟨kd, ps, vs, rfl, hl1, hl2, hrow, hr, hg2⟩
    replace gR := grown_blk hg2 gR (by omega)
    replace hg := grown_trans hg hg2
    clear hr2 hg2
    obtain ⟨e0, e1, ef0, ef1⟩ := cell2g gR
    have hzf : w.heap.size < v2.heap.size := lt_of_block gR
    have hne : vs.ownBlock ≠ some w.heap.size := fun e => by have := (World.ownsRow.lt hrow _ e).1; omega
    obtain ⟨ao, cp, rfl, hcp, hpt⟩ := hrow.pts
    clear hpt
    obtain ⟨v', ev, z0', z1', hrow', hr', hg'⟩ := fin_shape (k := kd) hp (Nat.le_refl _) gR hrow (by omega) hne hr hg
    have Hev := hid ev
    have Hrow := hid hrow'
    clear ev hrow' hrow
    go_wp2_with fail
    rw [← Hev.out]
    exact bodyPost_ret (v := .agg #[.int .i64 kd, .slice ao ps.length cp]) (by simp [results, Try.results93, go_sem, z0', z1']) rfl ⟨kd, ps, ao, cp, rfl, by omega, hcp, Hrow.out, hr', hg'⟩
  · go_wp2_with fail
    refine (any_r _ p a len cap hr2).mono ?_
    rintro e v2 ⟨kd, ps, vs, rfl, hl2, hrow, hr, hg2⟩
    replace gR := grown_blk hg2 gR (by omega)
    replace hg := grown_trans hg hg2
    clear hr2 hg2
    obtain ⟨e0, e1, ef0, ef1⟩ := cell2g gR
    have hzf : w.heap.size < v2.heap.size := lt_of_block gR
    have hne : vs.ownBlock ≠ some w.heap.size := fun e => by have := (World.ownsRow.lt hrow _ e).1; omega
    obtain ⟨ao, cp, rfl, hcp, hpt⟩ := hrow.pts
    clear hpt
    obtain ⟨v', ev, z0', z1', hrow', hr', hg'⟩ := fin_shape (k := kd) hp (Nat.le_refl _) gR hrow (by omega) hne hr hg
    have Hev := hid ev
    have Hrow := hid hrow'
    clear ev hrow' hrow
    go_wp2_with fail
    rw [← Hev.out]
    exact bodyPost_ret (v := .agg #[.int .i64 kd, .slice ao ps.length cp]) (by simp [results, Try.results93, go_sem, z0', z1']) rfl ⟨kd, ps, ao, cp, rfl, by omega, hcp, Hrow.out, hr', hg'⟩
set_option maxRecDepth 100000 in
set_option maxHeartbeats 4000000 in
theorem draw_move (w : World) (a : Option Addr) (len cap : Nat) (hc : CodeAt w a len w.heap.size) : Calls Try.prog 54 #[.slice a len cap] w fun e w' => ∃ kd : Int, ∃ ps : List (Int × Int), ∃ ao cp, ∃ dx dy : Int, e = .returned (.tuple #[.agg #[.int .i64 kd, .slice ao ps.length cp], .int .i64 dx, .int .i64 dy]) ∧ ps.length ≤ 61 ∧ ps.length ≤ cp ∧ (-70000 ≤ dx ∧ dx ≤ 70000) ∧ (-70000 ≤ dy ∧ dy ≤ 70000) ∧ Pts w' ao ps ∧ Below w.heap.size w w' := by
  go_enter Try.func54, Try.ntmps54
  go_wp2_with fail
  have g0 : (w.alloc (.cells #[.int .i64 0, .slice none 0 0] 52)).heap[w.heap.size]? = some (.cells #[.int .i64 0, .slice none 0 0] 52 (0, 0)) := by (repeat (first | (with_reducible refine new_alloc _ _ _ ?_; (first | rfl | (simp; done))) | with_reducible refine old_alloc ?_))
  have hb0 : Below w.heap.size w (w.alloc (.cells #[.int .i64 0, .slice none 0 0] 52)) := by (repeat (first | with_reducible exact Below.refl _ _ | with_reducible assumption | (with_reducible refine btrans ?_ (by with_reducible assumption)) | with_reducible refine bdrew ?_ | with_reducible refine balloc ?_ _))
  have hc0 : CodeAt (w.alloc (.cells #[.int .i64 0, .slice none 0 0] 52)) a len (w.alloc (.cells #[.int .i64 0, .slice none 0 0] 52)).heap.size := (hc.below hb0).mono (by simp <;> omega)
  have hz0 : (w.alloc (.cells #[.int .i64 0, .slice none 0 0] 52)).heap.size = w.heap.size + 1 := by simp
  generalize (w.alloc (.cells #[.int .i64 0, .slice none 0 0] 52)) = v0 at *
  refine (new_q _ a len cap hc0).mono ?_
  rintro e v1 ⟨p, rfl, hp0, hr, hold, hbn⟩
  replace g0 := hold _ _ g0
  replace hb0 := btrans hb0 hbn
  have hpw : w.heap.size + 1 ≤ p := by omega
  have hlt1 := hr.lt
  clear hbn hold hc0 hz0 hp0
  go_wp2_with fail
  refine (mostly_r _ p a len cap hr).mono ?_
  rintro e v2 ⟨kd, ps, ao, cp, rfl, hlps, hcps, Rps, hr2, hg2⟩
  replace g0 := grown_blk hg2 g0 (by omega)
  replace hb0 := bgrown hb0 hg2 (by omega)
  have hzv2 := hg2.size
  clear hr hg2
  rename Ready v2 p a len cap => hr
  go_wp2_with fail
  generalize hBB : v1.heap.size = B at *
  clear hBB
  have hwp : w.heap.size < B := by omega
  replace g0 := old_alloc (o' := .cells #[.int .i64 kd, .slice ao ps.length cp] 52) g0
  replace Rps := World.ownsRow.alloc Rps (.cells #[.int .i64 kd, .slice ao ps.length cp] 52)
  have gS := new_alloc v2 v2.heap.size (.cells #[.int .i64 kd, .slice ao ps.length cp] 52) rfl
  replace hr := hr.alloc (.cells #[.int .i64 kd, .slice ao ps.length cp] 52)
  replace hb0 := balloc hb0 (.cells #[.int .i64 kd, .slice ao ps.length cp] 52)
  have hzv3 : (v2.alloc (.cells #[.int .i64 kd, .slice ao ps.length cp] 52)).heap.size = v2.heap.size + 1 := by simp
  generalize v2.alloc (.cells #[.int .i64 kd, .slice ao ps.length cp] 52) = v3 at *
  generalize v2.heap.size = S at *
  refine (below_r _ p a len cap 100 (by omega) (by omega) hr).mono ?_
  rintro e v4 ⟨x, rfl, x0, x1, hr2, hg2⟩
  replace g0 := grown_blk hg2 g0 (by omega)
  replace gS := grown_blk hg2 gS (by omega)
  replace Rps := World.ownsRow.kept Rps hg2 (Or.inr (fun e => by have := (World.ownsRow.lt Rps p e).1; omega))
  replace hb0 := bgrown hb0 hg2 (by omega)
  have hzv4 := hg2.size
  clear hr hg2
  rename Ready v4 p a len cap => hr
  go_wp2_with fail
  refine (once_r _ p a len cap 8 (by omega) (by omega) hr).mono ?_
  rintro e v5 ⟨b, rfl, hr2, hg2⟩
  replace g0 := grown_blk hg2 g0 (by omega)
  replace gS := grown_blk hg2 gS (by omega)
  replace Rps := World.ownsRow.kept Rps hg2 (Or.inr (fun e => by have := (World.ownsRow.lt Rps p e).1; omega))
  replace hb0 := bgrown hb0 hg2 (by omega)
  have hzv5 := hg2.size
  clear hr hg2
  rename Ready v5 p a len cap => hr
  cases b
  · go_wp2_with fail
    refine wp_region_held_drew (S := (fun w' => w'.cell? ⟨S, 0, none⟩ = some (.int .i64 kd) ∧ w'.cell? ⟨S, 1, none⟩ = some (.slice ao ps.length cp))) (by kernel_rfl) ?_ (fun hHeld => ?_)
    · have := cell2g gS; exact ⟨this.1, this.2.1⟩
    replace g0 : v5.drew.heap[_]? = _ := g0
    replace gS : v5.drew.heap[_]? = _ := gS
    replace Rps : World.ownsRow v5.drew B 25 2 (.slice ao ps.length cp) ps.length (flat2 ps) := Rps
    replace hr : Ready v5.drew p a len cap := hr
    replace hb0 : Below w.heap.size w v5.drew := hb0.drew
    generalize v5.drew = y0 at *
    obtain ⟨r0, r1, rf0, rf1⟩ := cell2g gS
    refine wpAnyH_take (i := 0) (v := ?_) rfl (by kernel_rfl) (by kernel_rfl) (by kernel_rfl) (fun _ _ _ h => h) (Or.inl ⟨by rfl, ?_⟩) hHeld ?_
    rotate_left
    · intro w hSw; (try dsimp only at hSw); go_simp; try (with_reducible rfl)
    try simp only [sq]
    refine wpAnyH_take (i := 1) (v := ?_) rfl (by kernel_rfl) (by kernel_rfl) (by kernel_rfl) (fun _ _ _ h => h) (Or.inl ⟨by rfl, ?_⟩) hHeld ?_
    rotate_left
    · intro w hSw; (try dsimp only at hSw); go_simp; try (with_reducible rfl)
    try simp only [sq]
    refine wpAnyH_take (i := 2) (v := ?_) rfl (by kernel_rfl) (by kernel_rfl) (by kernel_rfl) (fun _ _ _ h => h) (Or.inl ⟨by rfl, ?_⟩) hHeld ?_
    rotate_left
    · intro w hSw; (try dsimp only at hSw); go_simp; try (with_reducible rfl)
    try simp only [sq]
    refine wpAnyH_ready (rs := [3]) (by kernel_rfl) (by simp) ?_
    refine (AllReadyH.cons rfl (fun K hK => ?_) AllReadyH.nil)
    try simp only [sq]
    go_simp
    go_at_call 71
    refine (below_r _ p a len cap 100 (by omega) (by omega) hr).mono ?_
    rintro e y1 ⟨z, rfl, z0, z1, hr2, hg2⟩
    replace g0 := grown_blk hg2 g0 (by omega)
    replace gS := grown_blk hg2 gS (by omega)
    replace Rps := World.ownsRow.kept Rps hg2 (Or.inr (fun e => by have := (World.ownsRow.lt Rps p e).1; omega))
    replace hb0 := bgrown hb0 hg2 (by omega)
    have hzy1 := hg2.size
    clear hr hg2
    rename Ready y1 p a len cap => hr
    clear r0 r1 rf0 rf1
    obtain ⟨r0, r1, rf0, rf1⟩ := cell2g gS
    go_wp2_with fail
    refine hK.out _ _ ?_ (fun hHeld => ?_)
    · exact ⟨r0, r1⟩
    clear hK K
    obtain ⟨e0, e1, ef0, ef1⟩ := cell2g g0
    have hzf : w.heap.size < y1.heap.size := lt_of_block g0
    try simp only [sq]
    refine wpAnyH_take (i := 4) (v := ?_) rfl (by kernel_rfl) (by kernel_rfl) (by kernel_rfl) (fun _ _ _ h => h) (Or.inl ⟨by rfl, ?_⟩) hHeld ?_
    rotate_left
    · intro w hSw; (try dsimp only at hSw); go_simp; try (with_reducible rfl)
    try simp only [sq]
    refine wpAnyH_ready (rs := [5]) (by kernel_rfl) (by simp) ?_
    refine (AllReadyH.cons rfl (fun K hK => ?_) AllReadyH.nil)
    try simp only [sq]
    go_simp
    refine hK.out _ _ ?_ (fun hHeld => ?_)
    · exact ⟨keepset4 (keepset4 r0 (by omega)) (by omega), keepset4 (keepset4 r1 (by omega)) (by omega)⟩
    clear hK K
    try simp only [sq]
    refine wpAnyH_take (i := 6) (v := ?_) rfl (by kernel_rfl) (by kernel_rfl) (by kernel_rfl) (fun _ _ _ h => h) (Or.inl ⟨by rfl, ?_⟩) hHeld ?_
    rotate_left
    · intro w hSw; (try dsimp only at hSw); go_simp; try (with_reducible rfl)
    try simp only [sq]
    refine wpAnyH_take (i := 7) (v := ?_) rfl (by kernel_rfl) (by kernel_rfl) (by kernel_rfl) (fun _ _ _ h => h) (Or.inl ⟨by rfl, ?_⟩) hHeld ?_
    rotate_left
    · intro w hSw; (try dsimp only at hSw); go_simp; try (with_reducible rfl)
    try simp only [sq]
    refine wpAnyH_done (by kernel_rfl) ?_ _
    have hset := set2 g0 (.int .i64 kd) (.slice ao ps.length cp)
    obtain ⟨f0, f1, _, _⟩ := cell2g hset.1
    have hR1 : PtRow _ B (.slice ao ps.length cp) ps := World.ownsRow.kept (World.ownsRow.kept Rps (grown_set y1 w.heap.size 0 (.int .i64 kd)) (Or.inr (fun e => by have := (World.ownsRow.lt Rps _ e).1; omega))) (grown_set _ w.heap.size 1 (.slice ao ps.length cp)) (Or.inr (fun e => by have := (World.ownsRow.lt Rps _ e).1; omega))
    have hbF := bset (bset hb0 (q := w.heap.size) (k := 0) (Nat.le_refl _) (.int .i64 kd)) (q := w.heap.size) (k := 1) (Nat.le_refl _) (.slice ao ps.length cp)
    obtain ⟨_, _, e', _, hpt⟩ := hR1.pts
    cases e'
    generalize (y1.setCell ⟨w.heap.size, 0, none⟩ (.int .i64 kd)).setCell ⟨w.heap.size, 1, none⟩ (.slice ao ps.length cp) = yf at *
    have HP := hid hpt
    clear hset hpt hR1
    have hwz : IntKind.i64.wrap (z - 50) = z - 50 := by rw [IntKind.wrap_i64]; omega
    go_wp2_with fail
    exact bodyPost_ret (v := .tuple #[.agg #[.int .i64 kd, .slice ao ps.length cp], .int .i64 (x - 50), .int .i64 (z - 50)]) (by simp [results, Try.results54, go_sem, f0, f1, hwz]) rfl ⟨kd, ps, ao, cp, x - 50, z - 50, rfl, hlps, hcps, by omega, by omega, HP.out, hbF⟩
  · go_wp2_with fail
    have hlt5 := hr.lt
    refine (pick_p (fun z => -70000 ≤ z ∧ z ≤ 70000) _ p a len cap _ 4 (by omega) (by omega) (by omega) (intsP_new (fun z => -70000 ≤ z ∧ z ≤ 70000) v5 [60000, 60001, -60001, 29990] 3 (by decide)) (hr.alloc _)).mono ?_
    rintro e v6 ⟨dx, rfl, hdx, hr2, hg2⟩
    replace g0 := grown_blk hg2 (old_alloc g0) (by omega)
    replace gS := grown_blk hg2 (old_alloc gS) (by omega)
    replace Rps := World.ownsRow.kept (World.ownsRow.alloc Rps _) hg2 (Or.inr (fun e => by have := (World.ownsRow.lt Rps p e).1; omega))
    replace hb0 := bgrown (balloc hb0 _) hg2 (by omega)
    clear hr hg2
    rename Ready v6 p a len cap => hr
    go_wp2_with fail
    refine wp_region_held_drew (S := (fun w' => w'.cell? ⟨S, 0, none⟩ = some (.int .i64 kd) ∧ w'.cell? ⟨S, 1, none⟩ = some (.slice ao ps.length cp))) (by kernel_rfl) ?_ (fun hHeld => ?_)
    · have := cell2g gS; exact ⟨this.1, this.2.1⟩
    replace g0 : v6.drew.heap[_]? = _ := g0
    replace gS : v6.drew.heap[_]? = _ := gS
    replace Rps : World.ownsRow v6.drew B 25 2 (.slice ao ps.length cp) ps.length (flat2 ps) := Rps
    replace hr : Ready v6.drew p a len cap := hr
    replace hb0 : Below w.heap.size w v6.drew := hb0.drew
    generalize v6.drew = y0 at *
    obtain ⟨r0, r1, rf0, rf1⟩ := cell2g gS
    refine wpAnyH_take (i := 0) (v := ?_) rfl (by kernel_rfl) (by kernel_rfl) (by kernel_rfl) (fun _ _ _ h => h) (Or.inl ⟨by rfl, ?_⟩) hHeld ?_
    rotate_left
    · intro w hSw; (try dsimp only at hSw); go_simp; try (with_reducible rfl)
    try simp only [sq]
    refine wpAnyH_take (i := 1) (v := ?_) rfl (by kernel_rfl) (by kernel_rfl) (by kernel_rfl) (fun _ _ _ h => h) (Or.inl ⟨by rfl, ?_⟩) hHeld ?_
    rotate_left
    · intro w hSw; (try dsimp only at hSw); go_simp; try (with_reducible rfl)
    try simp only [sq]
    refine wpAnyH_take (i := 2) (v := ?_) rfl (by kernel_rfl) (by kernel_rfl) (by kernel_rfl) (fun _ _ _ h => h) (Or.inl ⟨by rfl, ?_⟩) hHeld ?_
    rotate_left
    · intro w hSw; (try dsimp only at hSw); go_simp; try (with_reducible rfl)
    try simp only [sq]
    refine wpAnyH_ready (rs := [3]) (by kernel_rfl) (by simp) ?_
    refine (AllReadyH.cons rfl (fun K hK => ?_) AllReadyH.nil)
    try simp only [sq]
    go_simp
    go_at_call 71
    refine (below_r _ p a len cap 100 (by omega) (by omega) hr).mono ?_
    rintro e y1 ⟨z, rfl, z0, z1, hr2, hg2⟩
    replace g0 := grown_blk hg2 g0 (by omega)
    replace gS := grown_blk hg2 gS (by omega)
    replace Rps := World.ownsRow.kept Rps hg2 (Or.inr (fun e => by have := (World.ownsRow.lt Rps p e).1; omega))
    replace hb0 := bgrown hb0 hg2 (by omega)
    have hzy1 := hg2.size
    clear hr hg2
    rename Ready y1 p a len cap => hr
    clear r0 r1 rf0 rf1
    obtain ⟨r0, r1, rf0, rf1⟩ := cell2g gS
    go_wp2_with fail
    refine hK.out _ _ ?_ (fun hHeld => ?_)
    · exact ⟨r0, r1⟩
    clear hK K
    obtain ⟨e0, e1, ef0, ef1⟩ := cell2g g0
    have hzf : w.heap.size < y1.heap.size := lt_of_block g0
    try simp only [sq]
    refine wpAnyH_take (i := 4) (v := ?_) rfl (by kernel_rfl) (by kernel_rfl) (by kernel_rfl) (fun _ _ _ h => h) (Or.inl ⟨by rfl, ?_⟩) hHeld ?_
    rotate_left
    · intro w hSw; (try dsimp only at hSw); go_simp; try (with_reducible rfl)
    try simp only [sq]
    refine wpAnyH_ready (rs := [5]) (by kernel_rfl) (by simp) ?_
    refine (AllReadyH.cons rfl (fun K hK => ?_) AllReadyH.nil)
    try simp only [sq]
    go_simp
    refine hK.out _ _ ?_ (fun hHeld => ?_)
    · exact ⟨keepset4 (keepset4 r0 (by omega)) (by omega), keepset4 (keepset4 r1 (by omega)) (by omega)⟩
    clear hK K
    try simp only [sq]
    refine wpAnyH_take (i := 6) (v := ?_) rfl (by kernel_rfl) (by kernel_rfl) (by kernel_rfl) (fun _ _ _ h => h) (Or.inl ⟨by rfl, ?_⟩) hHeld ?_
    rotate_left
    · intro w hSw; (try dsimp only at hSw); go_simp; try (with_reducible rfl)
    try simp only [sq]
    refine wpAnyH_take (i := 7) (v := ?_) rfl (by kernel_rfl) (by kernel_rfl) (by kernel_rfl) (fun _ _ _ h => h) (Or.inl ⟨by rfl, ?_⟩) hHeld ?_
    rotate_left
    · intro w hSw; (try dsimp only at hSw); go_simp; try (with_reducible rfl)
    try simp only [sq]
    refine wpAnyH_done (by kernel_rfl) ?_ _
    have hset := set2 g0 (.int .i64 kd) (.slice ao ps.length cp)
    obtain ⟨f0, f1, _, _⟩ := cell2g hset.1
    have hR1 : PtRow _ B (.slice ao ps.length cp) ps := World.ownsRow.kept (World.ownsRow.kept Rps (grown_set y1 w.heap.size 0 (.int .i64 kd)) (Or.inr (fun e => by have := (World.ownsRow.lt Rps _ e).1; omega))) (grown_set _ w.heap.size 1 (.slice ao ps.length cp)) (Or.inr (fun e => by have := (World.ownsRow.lt Rps _ e).1; omega))
    have hbF := bset (bset hb0 (q := w.heap.size) (k := 0) (Nat.le_refl _) (.int .i64 kd)) (q := w.heap.size) (k := 1) (Nat.le_refl _) (.slice ao ps.length cp)
    obtain ⟨_, _, e', _, hpt⟩ := hR1.pts
    cases e'
    generalize (y1.setCell ⟨w.heap.size, 0, none⟩ (.int .i64 kd)).setCell ⟨w.heap.size, 1, none⟩ (.slice ao ps.length cp) = yf at *
    have HP := hid hpt
    clear hset hpt hR1
    have hwz : IntKind.i64.wrap (z - 50) = z - 50 := by rw [IntKind.wrap_i64]; omega
    go_wp2_with fail
    exact bodyPost_ret (v := .tuple #[.agg #[.int .i64 kd, .slice ao ps.length cp], .int .i64 (dx), .int .i64 (z - 50)]) (by simp [results, Try.results54, go_sem, f0, f1, hwz]) rfl ⟨kd, ps, ao, cp, dx, z - 50, rfl, hlps, hcps, hdx, by omega, HP.out, hbF⟩
set_option maxRecDepth 100000 in
set_option maxHeartbeats 4000000 in
theorem draw_meet (w : World) (a : Option Addr) (len cap : Nat) (hc : CodeAt w a len w.heap.size) : Calls Try.prog 45 #[.slice a len cap] w fun e w' => ∃ kd : Int, ∃ ps : List (Int × Int), ∃ ao cp, ∃ kd2 : Int, ∃ qs : List (Int × Int), ∃ ao2 cp2, e = .returned (.tuple #[.agg #[.int .i64 kd, .slice ao ps.length cp], .agg #[.int .i64 kd2, .slice ao2 qs.length cp2]]) ∧ ps.length ≤ 61 ∧ ps.length ≤ cp ∧ qs.length ≤ 61 ∧ qs.length ≤ cp2 ∧ Pts w' ao ps ∧ Pts w' ao2 qs ∧ Below w.heap.size w w' := by
  go_enter Try.func45, Try.ntmps45
  go_wp2_with fail
  have g0 : ((w.alloc (.cells #[.int .i64 0, .slice none 0 0] 52)).alloc (.cells #[.int .i64 0, .slice none 0 0] 52)).heap[w.heap.size]? = some (.cells #[.int .i64 0, .slice none 0 0] 52 (0, 0)) := by (repeat (first | (with_reducible refine new_alloc _ _ _ ?_; (first | rfl | (simp; done))) | with_reducible refine old_alloc ?_))
  have g1 : ((w.alloc (.cells #[.int .i64 0, .slice none 0 0] 52)).alloc (.cells #[.int .i64 0, .slice none 0 0] 52)).heap[w.heap.size + 1]? = some (.cells #[.int .i64 0, .slice none 0 0] 52 (0, 0)) := by (repeat (first | (with_reducible refine new_alloc _ _ _ ?_; (first | rfl | (simp; done))) | with_reducible refine old_alloc ?_))
  have hb0 : Below w.heap.size w ((w.alloc (.cells #[.int .i64 0, .slice none 0 0] 52)).alloc (.cells #[.int .i64 0, .slice none 0 0] 52)) := by (repeat (first | with_reducible exact Below.refl _ _ | with_reducible assumption | (with_reducible refine btrans ?_ (by with_reducible assumption)) | with_reducible refine bdrew ?_ | with_reducible refine balloc ?_ _))
  have hc0 : CodeAt ((w.alloc (.cells #[.int .i64 0, .slice none 0 0] 52)).alloc (.cells #[.int .i64 0, .slice none 0 0] 52)) a len ((w.alloc (.cells #[.int .i64 0, .slice none 0 0] 52)).alloc (.cells #[.int .i64 0, .slice none 0 0] 52)).heap.size := (hc.below hb0).mono (by simp <;> omega)
  have hz0 : ((w.alloc (.cells #[.int .i64 0, .slice none 0 0] 52)).alloc (.cells #[.int .i64 0, .slice none 0 0] 52)).heap.size = w.heap.size + 2 := by simp
  generalize ((w.alloc (.cells #[.int .i64 0, .slice none 0 0] 52)).alloc (.cells #[.int .i64 0, .slice none 0 0] 52)) = v0 at *
  refine (new_q _ a len cap hc0).mono ?_
  rintro e v1 ⟨p, rfl, hp0, hr, hold, hbn⟩
  replace g0 := hold _ _ g0
  replace g1 := hold _ _ g1
  replace hb0 := btrans hb0 hbn
  have hpw : w.heap.size + 2 ≤ p := by omega
  have hlt1 := hr.lt
  clear hbn hold hc0 hz0 hp0
  go_wp2_with fail
  refine (mostly_r _ p a len cap hr).mono ?_
  rintro e v2 ⟨kd, ps, ao, cp, rfl, hlps, hcps, Rps, hr2, hg2⟩
  replace g0 := grown_blk hg2 g0 (by omega)
  replace g1 := grown_blk hg2 g1 (by omega)
  replace hb0 := bgrown hb0 hg2 (by omega)
  have hzv2 := hg2.size
  clear hr hg2
  rename Ready v2 p a len cap => hr
  go_wp2_with fail
  generalize hBB : v1.heap.size = B at *
  clear hBB
  have hwp : w.heap.size + 1 < B := by omega
  replace Rps := World.ownsRow.alloc Rps (.cells #[.int .i64 kd, .slice ao ps.length cp] 52)
  replace g0 := old_alloc (o' := .cells #[.int .i64 kd, .slice ao ps.length cp] 52) g0
  replace g1 := old_alloc (o' := .cells #[.int .i64 kd, .slice ao ps.length cp] 52) g1
  have gS := new_alloc v2 v2.heap.size (.cells #[.int .i64 kd, .slice ao ps.length cp] 52) rfl
  replace hr := hr.alloc (.cells #[.int .i64 kd, .slice ao ps.length cp] 52)
  replace hb0 := balloc hb0 (.cells #[.int .i64 kd, .slice ao ps.length cp] 52)
  have hzv3 : (v2.alloc (.cells #[.int .i64 kd, .slice ao ps.length cp] 52)).heap.size = v2.heap.size + 1 := by simp
  generalize v2.alloc (.cells #[.int .i64 kd, .slice ao ps.length cp] 52) = v3 at *
  generalize v2.heap.size = S at *
  refine wp_region_held_drew (S := (fun w' => w'.cell? ⟨S, 0, none⟩ = some (.int .i64 kd) ∧ w'.cell? ⟨S, 1, none⟩ = some (.slice ao ps.length cp))) (by kernel_rfl) ?_ (fun hHeld => ?_)
  · have := cell2g gS; exact ⟨this.1, this.2.1⟩
  replace g0 : v3.drew.heap[_]? = _ := g0
  replace g1 : v3.drew.heap[_]? = _ := g1
  replace gS : v3.drew.heap[_]? = _ := gS
  replace Rps : World.ownsRow v3.drew B 25 2 (.slice ao ps.length cp) ps.length (flat2 ps) := Rps
  replace hr : Ready v3.drew p a len cap := hr
  replace hb0 : Below w.heap.size w v3.drew := hb0.drew
  generalize v3.drew = y0 at *
  obtain ⟨r0, r1, rf0, rf1⟩ := cell2g gS
  have hzS := lt_of_block gS
  refine wpAnyH_take (i := 0) (v := ?_) rfl (by kernel_rfl) (by kernel_rfl) (by kernel_rfl) (fun _ _ _ h => h) (Or.inl ⟨by rfl, ?_⟩) hHeld ?_
  rotate_left
  · intro w hSw; (try dsimp only at hSw); go_simp; try (with_reducible rfl)
  try simp only [sq]
  refine wpAnyH_take (i := 1) (v := ?_) rfl (by kernel_rfl) (by kernel_rfl) (by kernel_rfl) (fun _ _ _ h => h) (Or.inl ⟨by rfl, ?_⟩) hHeld ?_
  rotate_left
  · intro w hSw; (try dsimp only at hSw); go_simp; try (with_reducible rfl)
  try simp only [sq]
  refine wpAnyH_ready (rs := [2]) (by kernel_rfl) (by simp) ?_
  refine (AllReadyH.cons rfl (fun K hK => ?_) AllReadyH.nil)
  try simp only [sq]
  go_simp
  go_at_call 93
  refine (mostly_r _ p a len cap hr).mono ?_
  rintro e y1 ⟨kd2, qs, ao2, cp2, rfl, hlqs, hcqs, Rqs, hr2, hg2⟩
  replace g0 := grown_blk hg2 g0 (by omega)
  replace g1 := grown_blk hg2 g1 (by omega)
  replace gS := grown_blk hg2 gS (by omega)
  replace Rps := World.ownsRow.kept Rps hg2 (Or.inr (fun e => by have := (World.ownsRow.lt Rps p e).1; omega))
  replace hb0 := bgrown hb0 hg2 (by omega)
  have hzy1 := hg2.size
  clear hr hg2
  rename Ready y1 p a len cap => hr
  clear r0 r1 rf0 rf1
  obtain ⟨r0, r1, rf0, rf1⟩ := cell2g gS
  go_wp2_with fail
  refine hK.out _ _ ?_ (fun hHeld => ?_)
  · exact ⟨r0, r1⟩
  clear hK K
  obtain ⟨e0, e1, ef0, ef1⟩ := cell2g g0
  obtain ⟨d0, d1, df0, df1⟩ := cell2g g1
  have hzf : w.heap.size + 1 < y1.heap.size := lt_of_block g1
  try simp only [sq]
  refine wpAnyH_ready (rs := [3]) (by kernel_rfl) (by simp) ?_
  refine (AllReadyH.cons rfl (fun K hK => ?_) AllReadyH.nil)
  try simp only [sq]
  go_simp
  refine hK.out _ _ ?_ (fun hHeld => ?_)
  · exact ⟨keepset4 (keepset4 hHeld.1 (by omega)) (by omega), keepset4 (keepset4 hHeld.2 (by omega)) (by omega)⟩
  clear hK K
  try simp only [sq]
  have hset := set2 g0 (.int .i64 kd) (.slice ao ps.length cp)
  have g1' := hset.2 _ _ (by omega) g1
  have g0' := hset.1
  have hR1 := World.ownsRow.kept (World.ownsRow.kept Rps (grown_set y1 w.heap.size 0 (.int .i64 kd)) (Or.inr (fun e => by have := (World.ownsRow.lt Rps _ e).1; omega))) (grown_set _ w.heap.size 1 (.slice ao ps.length cp)) (Or.inr (fun e => by have := (World.ownsRow.lt Rps _ e).1; omega))
  have hR2 := World.ownsRow.kept (World.ownsRow.kept Rqs (grown_set y1 w.heap.size 0 (.int .i64 kd)) (Or.inr (fun e => by have := (World.ownsRow.lt Rqs _ e).1; omega))) (grown_set _ w.heap.size 1 (.slice ao ps.length cp)) (Or.inr (fun e => by have := (World.ownsRow.lt Rqs _ e).1; omega))
  have hbF := bset (bset hb0 (q := w.heap.size) (k := 0) (Nat.le_refl _) (.int .i64 kd)) (q := w.heap.size) (k := 1) (Nat.le_refl _) (.slice ao ps.length cp)
  have hzz : ((y1.setCell ⟨w.heap.size, 0, none⟩ (.int .i64 kd)).setCell ⟨w.heap.size, 1, none⟩ (.slice ao ps.length cp)).heap.size = y1.heap.size := by simp
  clear hset d0 d1 df0 df1 e0 e1 ef0 ef1
  generalize (y1.setCell ⟨w.heap.size, 0, none⟩ (.int .i64 kd)).setCell ⟨w.heap.size, 1, none⟩ (.slice ao ps.length cp) = yf at *
  obtain ⟨d0, d1, df0, df1⟩ := cell2g g1'
  refine wpAnyH_ready (rs := [4]) (by kernel_rfl) (by simp) ?_
  refine (AllReadyH.cons rfl (fun K hK => ?_) AllReadyH.nil)
  try simp only [sq]
  go_simp
  refine hK.out _ _ ?_ (fun hHeld => ?_)
  · exact ⟨keepset4 (keepset4 hHeld.1 (by omega)) (by omega), keepset4 (keepset4 hHeld.2 (by omega)) (by omega)⟩
  clear hK K
  try simp only [sq]
  refine wpAnyH_done (by kernel_rfl) ?_ _
  have hset := set2 g1' (.int .i64 kd2) (.slice ao2 qs.length cp2)
  obtain ⟨f0, f1, _, _⟩ := cell2g hset.1
  obtain ⟨f2, f3, _, _⟩ := cell2g (hset.2 _ _ (by omega) g0')
  have hS1 : PtRow _ B (.slice ao ps.length cp) ps := World.ownsRow.kept (World.ownsRow.kept hR1 (grown_set yf (w.heap.size + 1) 0 (.int .i64 kd2)) (Or.inr (fun e => by have := (World.ownsRow.lt hR1 _ e).1; omega))) (grown_set _ (w.heap.size + 1) 1 (.slice ao2 qs.length cp2)) (Or.inr (fun e => by have := (World.ownsRow.lt hR1 _ e).1; omega))
  have hS2 : PtRow _ y0.heap.size (.slice ao2 qs.length cp2) qs := World.ownsRow.kept (World.ownsRow.kept hR2 (grown_set yf (w.heap.size + 1) 0 (.int .i64 kd2)) (Or.inr (fun e => by have := (World.ownsRow.lt hR2 _ e).1; omega))) (grown_set _ (w.heap.size + 1) 1 (.slice ao2 qs.length cp2)) (Or.inr (fun e => by have := (World.ownsRow.lt hR2 _ e).1; omega))
  have hbG := bset (bset hbF (q := w.heap.size + 1) (k := 0) (by omega) (.int .i64 kd2)) (q := w.heap.size + 1) (k := 1) (by omega) (.slice ao2 qs.length cp2)
  obtain ⟨_, _, e', _, hpt⟩ := hS1.pts
  cases e'
  obtain ⟨_, _, e', _, hpt2⟩ := hS2.pts
  cases e'
  generalize (yf.setCell ⟨w.heap.size + 1, 0, none⟩ (.int .i64 kd2)).setCell ⟨w.heap.size + 1, 1, none⟩ (.slice ao2 qs.length cp2) = yg at *
  have HP := hid hpt
  have HP2 := hid hpt2
  clear hset hpt hpt2 hS1 hS2 hR1 hR2
  go_wp2_with fail
  exact bodyPost_ret (v := .tuple #[.agg #[.int .i64 kd, .slice ao ps.length cp], .agg #[.int .i64 kd2, .slice ao2 qs.length cp2]]) (by simp [results, Try.results45, go_sem, f0, f1, f2, f3]) rfl ⟨kd, ps, ao, cp, kd2, qs, ao2, cp2, rfl, hlps, hcps, hlqs, hcqs, HP.out, HP2.out, hbG⟩
set_option linter.unusedVariables false
set_option linter.unusedSimpArgs false
set_option maxRecDepth 100000 in
set_option maxHeartbeats 4000000 in
theorem draw_in (w : World) (a : Option Addr) (len cap : Nat) (hc : CodeAt w a len w.heap.size) : Calls Try.prog 57 #[.slice a len cap] w fun e w' => ∃ kd : Int, ∃ ps : List (Int × Int), ∃ ao cp, ∃ x y z u : Int, e = .returned (.tuple #[.agg #[.int .i64 kd, .slice ao ps.length cp], .agg #[.int .i64 x, .int .i64 y, .int .i64 z, .int .i64 u]]) ∧ ps.length ≤ 61 ∧ ps.length ≤ cp ∧ Pts w' ao ps ∧ Below w.heap.size w w' := by
  go_enter Try.func57, Try.ntmps57
  go_wp2_with fail
  have g0 : ((w.alloc (.cells #[.int .i64 0, .slice none 0 0] 52)).alloc (.cells #[.int .i64 0, .int .i64 0, .int .i64 0, .int .i64 0] 32)).heap[w.heap.size]? = some (.cells #[.int .i64 0, .slice none 0 0] 52 (0, 0)) := by (repeat (first | (with_reducible refine new_alloc _ _ _ ?_; (first | rfl | (simp; done))) | with_reducible refine old_alloc ?_))
  have g1 : ((w.alloc (.cells #[.int .i64 0, .slice none 0 0] 52)).alloc (.cells #[.int .i64 0, .int .i64 0, .int .i64 0, .int .i64 0] 32)).heap[w.heap.size + 1]? = some (.cells #[.int .i64 0, .int .i64 0, .int .i64 0, .int .i64 0] 32 (0, 0)) := by (repeat (first | (with_reducible refine new_alloc _ _ _ ?_; (first | rfl | (simp; done))) | with_reducible refine old_alloc ?_))
  have hb0 : Below w.heap.size w ((w.alloc (.cells #[.int .i64 0, .slice none 0 0] 52)).alloc (.cells #[.int .i64 0, .int .i64 0, .int .i64 0, .int .i64 0] 32)) := by (repeat (first | with_reducible exact Below.refl _ _ | with_reducible assumption | (with_reducible refine btrans ?_ (by with_reducible assumption)) | with_reducible refine bdrew ?_ | with_reducible refine balloc ?_ _))
  have hc0 : CodeAt ((w.alloc (.cells #[.int .i64 0, .slice none 0 0] 52)).alloc (.cells #[.int .i64 0, .int .i64 0, .int .i64 0, .int .i64 0] 32)) a len ((w.alloc (.cells #[.int .i64 0, .slice none 0 0] 52)).alloc (.cells #[.int .i64 0, .int .i64 0, .int .i64 0, .int .i64 0] 32)).heap.size := (hc.below hb0).mono (by simp <;> omega)
  have hz0 : ((w.alloc (.cells #[.int .i64 0, .slice none 0 0] 52)).alloc (.cells #[.int .i64 0, .int .i64 0, .int .i64 0, .int .i64 0] 32)).heap.size = w.heap.size + 2 := by simp
  generalize ((w.alloc (.cells #[.int .i64 0, .slice none 0 0] 52)).alloc (.cells #[.int .i64 0, .int .i64 0, .int .i64 0, .int .i64 0] 32)) = v0 at *
  refine (new_q _ a len cap hc0).mono ?_
  rintro e v1 ⟨p, rfl, hp0, hr, hold, hbn⟩
  replace g0 := hold _ _ g0
  replace g1 := hold _ _ g1
  replace hb0 := btrans hb0 hbn
  have hpw : w.heap.size + 2 ≤ p := by omega
  have hlt1 := hr.lt
  clear hbn hold hc0 hz0 hp0
  go_wp2_with fail
  refine (mostly_r _ p a len cap hr).mono ?_
  rintro e v2 ⟨kd, ps, ao, cp, rfl, hlps, hcps, Rps, hr2, hg2⟩
  replace g0 := grown_blk hg2 g0 (by omega)
  replace g1 := grown_blk hg2 g1 (by omega)
  replace hb0 := bgrown hb0 hg2 (by omega)
  have hzv2 := hg2.size
  clear hr hg2
  rename Ready v2 p a len cap => hr
  go_wp2_with fail
  generalize hBB : v1.heap.size = B at *
  clear hBB
  have hwp : w.heap.size + 1 < B := by omega
  replace Rps := World.ownsRow.alloc Rps (.cells #[.int .i64 kd, .slice ao ps.length cp] 52)
  replace g0 := old_alloc (o' := .cells #[.int .i64 kd, .slice ao ps.length cp] 52) g0
  replace g1 := old_alloc (o' := .cells #[.int .i64 kd, .slice ao ps.length cp] 52) g1
  have gS := new_alloc v2 v2.heap.size (.cells #[.int .i64 kd, .slice ao ps.length cp] 52) rfl
  replace hr := hr.alloc (.cells #[.int .i64 kd, .slice ao ps.length cp] 52)
  replace hb0 := balloc hb0 (.cells #[.int .i64 kd, .slice ao ps.length cp] 52)
  have hzv3 : (v2.alloc (.cells #[.int .i64 kd, .slice ao ps.length cp] 52)).heap.size = v2.heap.size + 1 := by simp
  generalize v2.alloc (.cells #[.int .i64 kd, .slice ao ps.length cp] 52) = v3 at *
  generalize v2.heap.size = S at *
  refine (box_r _ p a len cap hr).mono ?_
  rintro e v4 ⟨x, y, z, u, rfl, _, _, _, _, hr2, hg2⟩
  replace g0 := grown_blk hg2 g0 (by omega)
  replace g1 := grown_blk hg2 g1 (by omega)
  replace gS := grown_blk hg2 gS (by omega)
  replace Rps := World.ownsRow.kept Rps hg2 (Or.inr (fun e => by have := (World.ownsRow.lt Rps p e).1; omega))
  replace hb0 := bgrown hb0 hg2 (by omega)
  have hzv4 := hg2.size
  clear hr hg2
  rename Ready v4 p a len cap => hr
  go_wp2_with fail
  have hsS := lt_of_block gS
  have RT : ∀ {c : Nat}, (Value.slice ao ps.length cp).ownBlock = some c → c < v4.heap.size := fun e => (World.ownsRow.lt Rps _ e).2
  replace Rps := World.ownsRow.alloc Rps (.cells #[.int .i64 x, .int .i64 y, .int .i64 z, .int .i64 u] 32)
  replace g0 := old_alloc (o' := .cells #[.int .i64 x, .int .i64 y, .int .i64 z, .int .i64 u] 32) g0
  replace g1 := old_alloc (o' := .cells #[.int .i64 x, .int .i64 y, .int .i64 z, .int .i64 u] 32) g1
  replace gS := old_alloc (o' := .cells #[.int .i64 x, .int .i64 y, .int .i64 z, .int .i64 u] 32) gS
  have gT := new_alloc v4 v4.heap.size (.cells #[.int .i64 x, .int .i64 y, .int .i64 z, .int .i64 u] 32) rfl
  replace hr := hr.alloc (.cells #[.int .i64 x, .int .i64 y, .int .i64 z, .int .i64 u] 32)
  replace hb0 := balloc hb0 (.cells #[.int .i64 x, .int .i64 y, .int .i64 z, .int .i64 u] 32)
  have hzv5 : (v4.alloc (.cells #[.int .i64 x, .int .i64 y, .int .i64 z, .int .i64 u] 32)).heap.size = v4.heap.size + 1 := by simp
  generalize v4.alloc (.cells #[.int .i64 x, .int .i64 y, .int .i64 z, .int .i64 u] 32) = v5 at *
  generalize v4.heap.size = T at *
  refine (once_r _ p a len cap 2 (by omega) (by omega) hr).mono ?_
  rintro e v6 ⟨b, rfl, hr2, hg2⟩
  replace g0 := grown_blk hg2 g0 (by omega)
  replace g1 := grown_blk hg2 g1 (by omega)
  replace gS := grown_blk hg2 gS (by omega)
  replace gT := grown_blk hg2 gT (by omega)
  replace Rps := World.ownsRow.kept Rps hg2 (Or.inr (fun e => by have := (World.ownsRow.lt Rps p e).1; omega))
  replace hb0 := bgrown hb0 hg2 (by omega)
  have hzv6 := hg2.size
  clear hr hg2
  rename Ready v6 p a len cap => hr
  cases b
  · go_wp2_with fail
    refine wp_region_held_drew (S := (fun w' => w'.cell? ⟨S, 0, none⟩ = some (.int .i64 kd) ∧ w'.cell? ⟨S, 1, none⟩ = some (.slice ao ps.length cp) ∧ w'.cell? ⟨T, 0, none⟩ = some (.int .i64 x) ∧ w'.cell? ⟨T, 1, none⟩ = some (.int .i64 y) ∧ w'.cell? ⟨T, 2, none⟩ = some (.int .i64 z) ∧ w'.cell? ⟨T, 3, none⟩ = some (.int .i64 u))) (by kernel_rfl) ?_ (fun hHeld => ?_)
    · have h1 := cell2g gS; have h2 := cell4 gT; exact ⟨h1.1, h1.2.1, h2.1, h2.2.1, h2.2.2.1, h2.2.2.2.1⟩
    replace g0 : v6.drew.heap[_]? = _ := g0
    replace g1 : v6.drew.heap[_]? = _ := g1
    replace gS : v6.drew.heap[_]? = _ := gS
    replace gT : v6.drew.heap[_]? = _ := gT
    replace Rps : World.ownsRow v6.drew B 25 2 (.slice ao ps.length cp) ps.length (flat2 ps) := Rps
    replace hr : Ready v6.drew p a len cap := hr
    replace hb0 : Below w.heap.size w v6.drew := hb0.drew
    generalize v6.drew = y0 at *
    obtain ⟨r0, r1, rf0, rf1⟩ := cell2g gS
    obtain ⟨t0, t1, t2, t3, _, _, _, _⟩ := cell4 gT
    obtain ⟨e0, e1, ef0, ef1⟩ := cell2g g0
    obtain ⟨d0, d1, d2, d3, df0, df1, df2, df3⟩ := cell4 g1
    have hzS := lt_of_block gS
    have hzT := lt_of_block gT
    have hzf : w.heap.size + 1 < y0.heap.size := lt_of_block g1
    refine wpAnyH_take (i := 0) (v := ?_) rfl (by kernel_rfl) (by kernel_rfl) (by kernel_rfl) (fun _ _ _ h => h) (Or.inl ⟨by rfl, ?_⟩) hHeld ?_
    rotate_left
    · intro w hSw; (try dsimp only at hSw); go_simp; try (with_reducible rfl)
    try simp only [sq]
    refine wpAnyH_take (i := 1) (v := ?_) rfl (by kernel_rfl) (by kernel_rfl) (by kernel_rfl) (fun _ _ _ h => h) (Or.inl ⟨by rfl, ?_⟩) hHeld ?_
    rotate_left
    · intro w hSw; (try dsimp only at hSw); go_simp; try (with_reducible rfl)
    try simp only [sq]
    refine wpAnyH_ready (rs := [2]) (by kernel_rfl) (by simp) ?_
    refine (AllReadyH.cons rfl (fun K hK => ?_) AllReadyH.nil)
    try simp only [sq]
    go_simp
    refine hK.out _ _ ?_ (fun hHeld => ?_)
    · exact ⟨keepset4 (keepset4 r0 (by omega)) (by omega), keepset4 (keepset4 r1 (by omega)) (by omega), keepset4 (keepset4 t0 (by omega)) (by omega), keepset4 (keepset4 t1 (by omega)) (by omega), keepset4 (keepset4 t2 (by omega)) (by omega), keepset4 (keepset4 t3 (by omega)) (by omega)⟩
    clear hK K
    have hset := set2 g0 (.int .i64 kd) (.slice ao ps.length cp)
    have g1' := hset.2 _ _ (by omega) g1
    have g0' := hset.1
    have hR1 := World.ownsRow.kept (World.ownsRow.kept Rps (grown_set y0 w.heap.size 0 (.int .i64 kd)) (Or.inr (fun e => by have := (World.ownsRow.lt Rps _ e).1; omega))) (grown_set _ w.heap.size 1 (.slice ao ps.length cp)) (Or.inr (fun e => by have := (World.ownsRow.lt Rps _ e).1; omega))
    have hbF := bset (bset hb0 (q := w.heap.size) (k := 0) (Nat.le_refl _) (.int .i64 kd)) (q := w.heap.size) (k := 1) (Nat.le_refl _) (.slice ao ps.length cp)
    have hzz : ((y0.setCell ⟨w.heap.size, 0, none⟩ (.int .i64 kd)).setCell ⟨w.heap.size, 1, none⟩ (.slice ao ps.length cp)).heap.size = y0.heap.size := by simp
    clear hset d0 d1 d2 d3 df0 df1 df2 df3 e0 e1 ef0 ef1
    generalize (y0.setCell ⟨w.heap.size, 0, none⟩ (.int .i64 kd)).setCell ⟨w.heap.size, 1, none⟩ (.slice ao ps.length cp) = yf at *
    obtain ⟨d0, d1, d2, d3, df0, df1, df2, df3⟩ := cell4 g1'
    try simp only [sq]
    refine wpAnyH_ready (rs := [3]) (by kernel_rfl) (by simp) ?_
    refine (AllReadyH.cons rfl (fun K hK => ?_) AllReadyH.nil)
    try simp only [sq]
    go_simp
    refine hK.out _ _ ?_ (fun hHeld => ?_)
    · exact ⟨keepset4 (keepset4 (keepset4 (keepset4 hHeld.1 (by omega)) (by omega)) (by omega)) (by omega), keepset4 (keepset4 (keepset4 (keepset4 hHeld.2.1 (by omega)) (by omega)) (by omega)) (by omega), keepset4 (keepset4 (keepset4 (keepset4 hHeld.2.2.1 (by omega)) (by omega)) (by omega)) (by omega), keepset4 (keepset4 (keepset4 (keepset4 hHeld.2.2.2.1 (by omega)) (by omega)) (by omega)) (by omega), keepset4 (keepset4 (keepset4 (keepset4 hHeld.2.2.2.2.1 (by omega)) (by omega)) (by omega)) (by omega), keepset4 (keepset4 (keepset4 (keepset4 hHeld.2.2.2.2.2 (by omega)) (by omega)) (by omega)) (by omega)⟩
    clear hK K
    try simp only [sq]
    refine wpAnyH_done (by kernel_rfl) ?_ _
    have hset := set4r g1' (.int .i64 x) (.int .i64 y) (.int .i64 z) (.int .i64 u)
    obtain ⟨f0, f1, f2, f3, _, _, _, _⟩ := cell4 hset.1
    obtain ⟨f4, f5, _, _⟩ := cell2g (hset.2 _ _ (by omega) g0')
    have hne : (Value.slice ao ps.length cp).ownBlock ≠ some (w.heap.size + 1) := fun e => by have := (World.ownsRow.lt hR1 _ e).1; omega
    have hS1 : PtRow _ B (.slice ao ps.length cp) ps := World.ownsRow.kept (World.ownsRow.kept (World.ownsRow.kept (World.ownsRow.kept hR1 (grown_set yf (w.heap.size + 1) 0 (.int .i64 x)) (Or.inr hne)) (grown_set _ (w.heap.size + 1) 1 (.int .i64 y)) (Or.inr hne)) (grown_set _ (w.heap.size + 1) 2 (.int .i64 z)) (Or.inr hne)) (grown_set _ (w.heap.size + 1) 3 (.int .i64 u)) (Or.inr hne)
    have hbG := bset (bset (bset (bset hbF (q := w.heap.size + 1) (k := 0) (by omega) (.int .i64 x)) (q := w.heap.size + 1) (k := 1) (by omega) (.int .i64 y)) (q := w.heap.size + 1) (k := 2) (by omega) (.int .i64 z)) (q := w.heap.size + 1) (k := 3) (by omega) (.int .i64 u)
    obtain ⟨_, _, e', _, hpt⟩ := hS1.pts
    cases e'
    generalize ((((yf.setCell ⟨w.heap.size + 1, 0, none⟩ (.int .i64 x)).setCell ⟨w.heap.size + 1, 1, none⟩ (.int .i64 y)).setCell ⟨w.heap.size + 1, 2, none⟩ (.int .i64 z)).setCell ⟨w.heap.size + 1, 3, none⟩ (.int .i64 u)) = yg at *
    have HP := hid hpt
    clear hset hpt hS1 hR1
    go_wp2_with fail
    exact bodyPost_ret (v := .tuple #[.agg #[.int .i64 kd, .slice ao ps.length cp], .agg #[.int .i64 x, .int .i64 y, .int .i64 z, .int .i64 u]]) (by simp [results, Try.results57, go_sem, f0, f1, f2, f3, f4, f5]) rfl ⟨kd, ps, ao, cp, x, y, z, u, rfl, hlps, hcps, HP.out, hbG⟩
  · have hset := set4r gT (.int .i64 (-10)) (.int .i64 (-10)) (.int .i64 10) (.int .i64 10)
    obtain ⟨t0, t1, t2, t3, tf0, tf1, tf2, tf3⟩ := cell4 gT
    go_wp2_with fail
    replace g0 := hset.2 _ _ (by omega) g0
    replace g1 := hset.2 _ _ (by omega) g1
    replace gS := hset.2 _ _ (by omega) gS
    replace gT := hset.1
    have hneT : (Value.slice ao ps.length cp).ownBlock ≠ some T := fun e => by have := (World.ownsRow.lt Rps _ e); have := (RT e); omega
    replace Rps := World.ownsRow.kept (World.ownsRow.kept (World.ownsRow.kept (World.ownsRow.kept Rps (grown_set v6 T 0 (.int .i64 (-10))) (Or.inr hneT)) (grown_set _ T 1 (.int .i64 (-10))) (Or.inr hneT)) (grown_set _ T 2 (.int .i64 10)) (Or.inr hneT)) (grown_set _ T 3 (.int .i64 10)) (Or.inr hneT)
    replace hb0 := bset (bset (bset (bset hb0 (q := T) (k := 0) (by omega) (.int .i64 (-10))) (q := T) (k := 1) (by omega) (.int .i64 (-10))) (q := T) (k := 2) (by omega) (.int .i64 10)) (q := T) (k := 3) (by omega) (.int .i64 10)
    replace hr := (((hr.set (n := T) (k := 0) (by omega) (.int .i64 (-10))).set (n := T) (k := 1) (by omega) (.int .i64 (-10))).set (n := T) (k := 2) (by omega) (.int .i64 10)).set (n := T) (k := 3) (by omega) (.int .i64 10)
    clear hset t0 t1 t2 t3 tf0 tf1 tf2 tf3 RT hneT
    generalize ((((v6.setCell ⟨T, 0, none⟩ (.int .i64 (-10))).setCell ⟨T, 1, none⟩ (.int .i64 (-10))).setCell ⟨T, 2, none⟩ (.int .i64 10)).setCell ⟨T, 3, none⟩ (.int .i64 10)) = v7 at *
    refine wp_region_held_drew (S := (fun w' => w'.cell? ⟨S, 0, none⟩ = some (.int .i64 kd) ∧ w'.cell? ⟨S, 1, none⟩ = some (.slice ao ps.length cp) ∧ w'.cell? ⟨T, 0, none⟩ = some (.int .i64 (-10)) ∧ w'.cell? ⟨T, 1, none⟩ = some (.int .i64 (-10)) ∧ w'.cell? ⟨T, 2, none⟩ = some (.int .i64 10) ∧ w'.cell? ⟨T, 3, none⟩ = some (.int .i64 10))) (by kernel_rfl) ?_ (fun hHeld => ?_)
    · have h1 := cell2g gS; have h2 := cell4 gT; exact ⟨h1.1, h1.2.1, h2.1, h2.2.1, h2.2.2.1, h2.2.2.2.1⟩
    replace g0 : v7.drew.heap[_]? = _ := g0
    replace g1 : v7.drew.heap[_]? = _ := g1
    replace gS : v7.drew.heap[_]? = _ := gS
    replace gT : v7.drew.heap[_]? = _ := gT
    replace Rps : World.ownsRow v7.drew B 25 2 (.slice ao ps.length cp) ps.length (flat2 ps) := Rps
    replace hr : Ready v7.drew p a len cap := hr
    replace hb0 : Below w.heap.size w v7.drew := hb0.drew
    generalize v7.drew = y0 at *
    obtain ⟨r0, r1, rf0, rf1⟩ := cell2g gS
    obtain ⟨t0, t1, t2, t3, _, _, _, _⟩ := cell4 gT
    obtain ⟨e0, e1, ef0, ef1⟩ := cell2g g0
    obtain ⟨d0, d1, d2, d3, df0, df1, df2, df3⟩ := cell4 g1
    have hzS := lt_of_block gS
    have hzT := lt_of_block gT
    have hzf : w.heap.size + 1 < y0.heap.size := lt_of_block g1
    refine wpAnyH_take (i := 0) (v := ?_) rfl (by kernel_rfl) (by kernel_rfl) (by kernel_rfl) (fun _ _ _ h => h) (Or.inl ⟨by rfl, ?_⟩) hHeld ?_
    rotate_left
    · intro w hSw; (try dsimp only at hSw); go_simp; try (with_reducible rfl)
    try simp only [sq]
    refine wpAnyH_take (i := 1) (v := ?_) rfl (by kernel_rfl) (by kernel_rfl) (by kernel_rfl) (fun _ _ _ h => h) (Or.inl ⟨by rfl, ?_⟩) hHeld ?_
    rotate_left
    · intro w hSw; (try dsimp only at hSw); go_simp; try (with_reducible rfl)
    try simp only [sq]
    refine wpAnyH_ready (rs := [2]) (by kernel_rfl) (by simp) ?_
    refine (AllReadyH.cons rfl (fun K hK => ?_) AllReadyH.nil)
    try simp only [sq]
    go_simp
    refine hK.out _ _ ?_ (fun hHeld => ?_)
    · exact ⟨keepset4 (keepset4 r0 (by omega)) (by omega), keepset4 (keepset4 r1 (by omega)) (by omega), keepset4 (keepset4 t0 (by omega)) (by omega), keepset4 (keepset4 t1 (by omega)) (by omega), keepset4 (keepset4 t2 (by omega)) (by omega), keepset4 (keepset4 t3 (by omega)) (by omega)⟩
    clear hK K
    have hset := set2 g0 (.int .i64 kd) (.slice ao ps.length cp)
    have g1' := hset.2 _ _ (by omega) g1
    have g0' := hset.1
    have hR1 := World.ownsRow.kept (World.ownsRow.kept Rps (grown_set y0 w.heap.size 0 (.int .i64 kd)) (Or.inr (fun e => by have := (World.ownsRow.lt Rps _ e).1; omega))) (grown_set _ w.heap.size 1 (.slice ao ps.length cp)) (Or.inr (fun e => by have := (World.ownsRow.lt Rps _ e).1; omega))
    have hbF := bset (bset hb0 (q := w.heap.size) (k := 0) (Nat.le_refl _) (.int .i64 kd)) (q := w.heap.size) (k := 1) (Nat.le_refl _) (.slice ao ps.length cp)
    have hzz : ((y0.setCell ⟨w.heap.size, 0, none⟩ (.int .i64 kd)).setCell ⟨w.heap.size, 1, none⟩ (.slice ao ps.length cp)).heap.size = y0.heap.size := by simp
    clear hset d0 d1 d2 d3 df0 df1 df2 df3 e0 e1 ef0 ef1
    generalize (y0.setCell ⟨w.heap.size, 0, none⟩ (.int .i64 kd)).setCell ⟨w.heap.size, 1, none⟩ (.slice ao ps.length cp) = yf at *
    obtain ⟨d0, d1, d2, d3, df0, df1, df2, df3⟩ := cell4 g1'
    try simp only [sq]
    refine wpAnyH_ready (rs := [3]) (by kernel_rfl) (by simp) ?_
    refine (AllReadyH.cons rfl (fun K hK => ?_) AllReadyH.nil)
    try simp only [sq]
    go_simp
    refine hK.out _ _ ?_ (fun hHeld => ?_)
    · exact ⟨keepset4 (keepset4 (keepset4 (keepset4 hHeld.1 (by omega)) (by omega)) (by omega)) (by omega), keepset4 (keepset4 (keepset4 (keepset4 hHeld.2.1 (by omega)) (by omega)) (by omega)) (by omega), keepset4 (keepset4 (keepset4 (keepset4 hHeld.2.2.1 (by omega)) (by omega)) (by omega)) (by omega), keepset4 (keepset4 (keepset4 (keepset4 hHeld.2.2.2.1 (by omega)) (by omega)) (by omega)) (by omega), keepset4 (keepset4 (keepset4 (keepset4 hHeld.2.2.2.2.1 (by omega)) (by omega)) (by omega)) (by omega), keepset4 (keepset4 (keepset4 (keepset4 hHeld.2.2.2.2.2 (by omega)) (by omega)) (by omega)) (by omega)⟩
    clear hK K
    try simp only [sq]
    refine wpAnyH_done (by kernel_rfl) ?_ _
    have hset := set4r g1' (.int .i64 (-10)) (.int .i64 (-10)) (.int .i64 10) (.int .i64 10)
    obtain ⟨f0, f1, f2, f3, _, _, _, _⟩ := cell4 hset.1
    obtain ⟨f4, f5, _, _⟩ := cell2g (hset.2 _ _ (by omega) g0')
    have hne : (Value.slice ao ps.length cp).ownBlock ≠ some (w.heap.size + 1) := fun e => by have := (World.ownsRow.lt hR1 _ e).1; omega
    have hS1 : PtRow _ B (.slice ao ps.length cp) ps := World.ownsRow.kept (World.ownsRow.kept (World.ownsRow.kept (World.ownsRow.kept hR1 (grown_set yf (w.heap.size + 1) 0 (.int .i64 (-10))) (Or.inr hne)) (grown_set _ (w.heap.size + 1) 1 (.int .i64 (-10))) (Or.inr hne)) (grown_set _ (w.heap.size + 1) 2 (.int .i64 10)) (Or.inr hne)) (grown_set _ (w.heap.size + 1) 3 (.int .i64 10)) (Or.inr hne)
    have hbG := bset (bset (bset (bset hbF (q := w.heap.size + 1) (k := 0) (by omega) (.int .i64 (-10))) (q := w.heap.size + 1) (k := 1) (by omega) (.int .i64 (-10))) (q := w.heap.size + 1) (k := 2) (by omega) (.int .i64 10)) (q := w.heap.size + 1) (k := 3) (by omega) (.int .i64 10)
    obtain ⟨_, _, e', _, hpt⟩ := hS1.pts
    cases e'
    generalize ((((yf.setCell ⟨w.heap.size + 1, 0, none⟩ (.int .i64 (-10))).setCell ⟨w.heap.size + 1, 1, none⟩ (.int .i64 (-10))).setCell ⟨w.heap.size + 1, 2, none⟩ (.int .i64 10)).setCell ⟨w.heap.size + 1, 3, none⟩ (.int .i64 10)) = yg at *
    have HP := hid hpt
    clear hset hpt hS1 hR1
    go_wp2_with fail
    exact bodyPost_ret (v := .tuple #[.agg #[.int .i64 kd, .slice ao ps.length cp], .agg #[.int .i64 (-10), .int .i64 (-10), .int .i64 10, .int .i64 10]]) (by simp [results, Try.results57, go_sem, f0, f1, f2, f3, f4, f5]) rfl ⟨kd, ps, ao, cp, (-10), (-10), 10, 10, rfl, hlps, hcps, HP.out, hbG⟩
set_option maxRecDepth 100000 in
set_option maxHeartbeats 4000000 in
theorem draw_has (w : World) (a : Option Addr) (len cap : Nat) (hc : CodeAt w a len w.heap.size) : Calls Try.prog 50 #[.slice a len cap] w fun e w' => ∃ kd : Int, ∃ ps : List (Int × Int), ∃ ao cp, ∃ x y : Int, e = .returned (.tuple #[.agg #[.int .i64 kd, .slice ao ps.length cp], .agg #[.int .i64 x, .int .i64 y]]) ∧ ps.length ≤ 61 ∧ ps.length ≤ cp ∧ Pts w' ao ps ∧ Below w.heap.size w w' := by
  go_enter Try.func50, Try.ntmps50
  go_wp2_with fail
  have g0 : ((w.alloc (.cells #[.int .i64 0, .slice none 0 0] 52)).alloc (.cells #[.int .i64 0, .int .i64 0] 25)).heap[w.heap.size]? = some (.cells #[.int .i64 0, .slice none 0 0] 52 (0, 0)) := by (repeat (first | (with_reducible refine new_alloc _ _ _ ?_; (first | rfl | (simp; done))) | with_reducible refine old_alloc ?_))
  have g1 : ((w.alloc (.cells #[.int .i64 0, .slice none 0 0] 52)).alloc (.cells #[.int .i64 0, .int .i64 0] 25)).heap[w.heap.size + 1]? = some (.cells #[.int .i64 0, .int .i64 0] 25 (0, 0)) := by (repeat (first | (with_reducible refine new_alloc _ _ _ ?_; (first | rfl | (simp; done))) | with_reducible refine old_alloc ?_))
  have hb0 : Below w.heap.size w ((w.alloc (.cells #[.int .i64 0, .slice none 0 0] 52)).alloc (.cells #[.int .i64 0, .int .i64 0] 25)) := by (repeat (first | with_reducible exact Below.refl _ _ | with_reducible assumption | (with_reducible refine btrans ?_ (by with_reducible assumption)) | with_reducible refine bdrew ?_ | with_reducible refine balloc ?_ _))
  have hc0 : CodeAt ((w.alloc (.cells #[.int .i64 0, .slice none 0 0] 52)).alloc (.cells #[.int .i64 0, .int .i64 0] 25)) a len ((w.alloc (.cells #[.int .i64 0, .slice none 0 0] 52)).alloc (.cells #[.int .i64 0, .int .i64 0] 25)).heap.size := (hc.below hb0).mono (by simp <;> omega)
  have hz0 : ((w.alloc (.cells #[.int .i64 0, .slice none 0 0] 52)).alloc (.cells #[.int .i64 0, .int .i64 0] 25)).heap.size = w.heap.size + 2 := by simp
  generalize ((w.alloc (.cells #[.int .i64 0, .slice none 0 0] 52)).alloc (.cells #[.int .i64 0, .int .i64 0] 25)) = v0 at *
  refine (new_q _ a len cap hc0).mono ?_
  rintro e v1 ⟨p, rfl, hp0, hr, hold, hbn⟩
  replace g0 := hold _ _ g0
  replace g1 := hold _ _ g1
  replace hb0 := btrans hb0 hbn
  have hpw : w.heap.size + 2 ≤ p := by omega
  have hlt1 := hr.lt
  clear hbn hold hc0 hz0 hp0
  go_wp2_with fail
  refine (mostly_r _ p a len cap hr).mono ?_
  rintro e v2 ⟨kd, ps, ao, cp, rfl, hlps, hcps, Rps, hr2, hg2⟩
  replace g0 := grown_blk hg2 g0 (by omega)
  replace g1 := grown_blk hg2 g1 (by omega)
  replace hb0 := bgrown hb0 hg2 (by omega)
  have hzv2 := hg2.size
  clear hr hg2
  rename Ready v2 p a len cap => hr
  by_cases h0 : 0 < ps.length
  · have c1 : (0 : Int) < (ps.length : Int) := by omega
    go_wp2_with fail
    generalize hBB : v1.heap.size = B at *
    clear hBB
    have hwp : w.heap.size + 1 < B := by omega
    replace Rps := World.ownsRow.alloc Rps (.cells #[.int .i64 kd, .slice ao ps.length cp] 52)
    replace g0 := old_alloc (o' := .cells #[.int .i64 kd, .slice ao ps.length cp] 52) g0
    replace g1 := old_alloc (o' := .cells #[.int .i64 kd, .slice ao ps.length cp] 52) g1
    have gS := new_alloc v2 v2.heap.size (.cells #[.int .i64 kd, .slice ao ps.length cp] 52) rfl
    replace hr := hr.alloc (.cells #[.int .i64 kd, .slice ao ps.length cp] 52)
    replace hb0 := balloc hb0 (.cells #[.int .i64 kd, .slice ao ps.length cp] 52)
    have hzv3 : (v2.alloc (.cells #[.int .i64 kd, .slice ao ps.length cp] 52)).heap.size = v2.heap.size + 1 := by simp
    generalize v2.alloc (.cells #[.int .i64 kd, .slice ao ps.length cp] 52) = v3 at *
    generalize v2.heap.size = S at *
    obtain ⟨r0, r1, rf0, rf1⟩ := cell2g gS
    refine (once_r _ p a len cap 4 (by omega) (by omega) hr).mono ?_
    rintro e v4 ⟨b, rfl, hr2, hg2⟩
    replace g0 := grown_blk hg2 g0 (by omega)
    replace g1 := grown_blk hg2 g1 (by omega)
    replace gS := grown_blk hg2 gS (by omega)
    replace Rps := World.ownsRow.kept Rps hg2 (Or.inr (fun e => by have := (World.ownsRow.lt Rps p e).1; omega))
    replace hb0 := bgrown hb0 hg2 (by omega)
    have hzv4 := hg2.size
    clear hr hg2 r0 r1 rf0 rf1
    rename Ready v4 p a len cap => hr
    obtain ⟨r0, r1, rf0, rf1⟩ := cell2g gS
    cases b
    · go_wp2_with fail
      refine wp_region_held_drew (S := (fun w' => w'.cell? ⟨S, 0, none⟩ = some (.int .i64 kd) ∧ w'.cell? ⟨S, 1, none⟩ = some (.slice ao ps.length cp))) (by kernel_rfl) ?_ (fun hHeld => ?_)
      · have h1 := cell2g gS; exact ⟨h1.1, h1.2.1⟩
      replace g0 : v4.drew.heap[_]? = _ := g0
      replace g1 : v4.drew.heap[_]? = _ := g1
      replace gS : v4.drew.heap[_]? = _ := gS
      replace Rps : World.ownsRow v4.drew B 25 2 (.slice ao ps.length cp) ps.length (flat2 ps) := Rps
      replace hr : Ready v4.drew p a len cap := hr
      replace hb0 : Below w.heap.size w v4.drew := hb0.drew
      generalize v4.drew = y0 at *
      clear r0 r1 rf0 rf1
      obtain ⟨r0, r1, rf0, rf1⟩ := cell2g gS
      have hzS := lt_of_block gS
      refine wpAnyH_take (i := 0) (v := ?_) rfl (by kernel_rfl) (by kernel_rfl) (by kernel_rfl) (fun _ _ _ h => h) (Or.inl ⟨by rfl, ?_⟩) hHeld ?_
      rotate_left
      · intro w hSw; (try dsimp only at hSw); go_simp; try (with_reducible rfl)
      try simp only [sq]
      refine wpAnyH_take (i := 1) (v := ?_) rfl (by kernel_rfl) (by kernel_rfl) (by kernel_rfl) (fun _ _ _ h => h) (Or.inl ⟨by rfl, ?_⟩) hHeld ?_
      rotate_left
      · intro w hSw; (try dsimp only at hSw); go_simp; try (with_reducible rfl)
      try simp only [sq]
      refine wpAnyH_ready (rs := [2]) (by kernel_rfl) (by simp) ?_
      refine (AllReadyH.cons rfl (fun K hK => ?_) AllReadyH.nil)
      try simp only [sq]
      go_simp
      go_at_call 68
      refine (point_r _ p a len cap hr).mono ?_
      rintro e y1 ⟨px, py, rfl, _, _, hr2, hg2⟩
      replace g0 := grown_blk hg2 g0 (by omega)
      replace g1 := grown_blk hg2 g1 (by omega)
      replace gS := grown_blk hg2 gS (by omega)
      replace Rps := World.ownsRow.kept Rps hg2 (Or.inr (fun e => by have := (World.ownsRow.lt Rps p e).1; omega))
      replace hb0 := bgrown hb0 hg2 (by omega)
      have hzy1 := hg2.size
      clear hr hg2
      rename Ready y1 p a len cap => hr
      clear r0 r1 rf0 rf1
      obtain ⟨r0, r1, rf0, rf1⟩ := cell2g gS
      go_wp2_with fail
      refine hK.out _ _ ?_ (fun hHeld => ?_)
      · exact ⟨r0, r1⟩
      clear hK K
      obtain ⟨e0, e1, ef0, ef1⟩ := cell2g g0
      obtain ⟨d0, d1, df0, df1⟩ := cell2g g1
      have hzf : w.heap.size + 1 < y1.heap.size := lt_of_block g1
      try simp only [sq]
      refine wpAnyH_ready (rs := [3]) (by kernel_rfl) (by simp) ?_
      refine (AllReadyH.cons rfl (fun K hK => ?_) AllReadyH.nil)
      try simp only [sq]
      go_simp
      refine hK.out _ _ ?_ (fun hHeld => ?_)
      · exact ⟨keepset4 (keepset4 hHeld.1 (by omega)) (by omega), keepset4 (keepset4 hHeld.2 (by omega)) (by omega)⟩
      clear hK K
      try simp only [sq]
      have hset := set2 g0 (.int .i64 kd) (.slice ao ps.length cp)
      have g1' := hset.2 _ _ (by omega) g1
      have g0' := hset.1
      have hR1 := World.ownsRow.kept (World.ownsRow.kept Rps (grown_set y1 w.heap.size 0 (.int .i64 kd)) (Or.inr (fun e => by have := (World.ownsRow.lt Rps _ e).1; omega))) (grown_set _ w.heap.size 1 (.slice ao ps.length cp)) (Or.inr (fun e => by have := (World.ownsRow.lt Rps _ e).1; omega))
      have hbF := bset (bset hb0 (q := w.heap.size) (k := 0) (Nat.le_refl _) (.int .i64 kd)) (q := w.heap.size) (k := 1) (Nat.le_refl _) (.slice ao ps.length cp)
      have hzz : ((y1.setCell ⟨w.heap.size, 0, none⟩ (.int .i64 kd)).setCell ⟨w.heap.size, 1, none⟩ (.slice ao ps.length cp)).heap.size = y1.heap.size := by simp
      clear hset d0 d1 df0 df1 e0 e1 ef0 ef1
      generalize (y1.setCell ⟨w.heap.size, 0, none⟩ (.int .i64 kd)).setCell ⟨w.heap.size, 1, none⟩ (.slice ao ps.length cp) = yf at *
      obtain ⟨d0, d1, df0, df1⟩ := cell2g g1'
      refine wpAnyH_ready (rs := [4]) (by kernel_rfl) (by simp) ?_
      refine (AllReadyH.cons rfl (fun K hK => ?_) AllReadyH.nil)
      try simp only [sq]
      go_simp
      refine hK.out _ _ ?_ (fun hHeld => ?_)
      · exact ⟨keepset4 (keepset4 hHeld.1 (by omega)) (by omega), keepset4 (keepset4 hHeld.2 (by omega)) (by omega)⟩
      clear hK K
      try simp only [sq]
      refine wpAnyH_done (by kernel_rfl) ?_ _
      have hset := set2 g1' (.int .i64 px) (.int .i64 py)
      obtain ⟨f0, f1, _, _⟩ := cell2g hset.1
      obtain ⟨f4, f5, _, _⟩ := cell2g (hset.2 _ _ (by omega) g0')
      have hne : (Value.slice ao ps.length cp).ownBlock ≠ some (w.heap.size + 1) := fun e => by have := (World.ownsRow.lt hR1 _ e).1; omega
      have hS1 : PtRow _ B (.slice ao ps.length cp) ps := World.ownsRow.kept (World.ownsRow.kept hR1 (grown_set yf (w.heap.size + 1) 0 (.int .i64 px)) (Or.inr hne)) (grown_set _ (w.heap.size + 1) 1 (.int .i64 py)) (Or.inr hne)
      have hbG := bset (bset hbF (q := w.heap.size + 1) (k := 0) (by omega) (.int .i64 px)) (q := w.heap.size + 1) (k := 1) (by omega) (.int .i64 py)
      obtain ⟨_, _, e', _, hpt⟩ := hS1.pts
      cases e'
      generalize (yf.setCell ⟨w.heap.size + 1, 0, none⟩ (.int .i64 px)).setCell ⟨w.heap.size + 1, 1, none⟩ (.int .i64 py) = yg at *
      have HP := hid hpt
      clear hset hpt hS1 hR1
      go_wp2_with fail
      exact bodyPost_ret (v := .tuple #[.agg #[.int .i64 kd, .slice ao ps.length cp], .agg #[.int .i64 px, .int .i64 py]]) (by simp [results, Try.results50, go_sem, f0, f1, f4, f5]) rfl ⟨kd, ps, _, cp, px, py, rfl, hlps, hcps, HP.out, hbG⟩
    · obtain ⟨g, cp', e', hgb, hgl, hgc, hat⟩ := PtRow.at' Rps h0
      cases e'
      have HA := hid hat
      clear hat
      go_wp2_with fail
      refine wp_region_held_drew (S := (fun w' => w'.cell? ⟨S, 0, none⟩ = some (.int .i64 kd) ∧ w'.cell? ⟨S, 1, none⟩ = some (.slice (some ⟨g, 0, none⟩) ps.length cp) ∧ PtsAt w' g 0 ps)) (by kernel_rfl) ?_ (fun hHeld => ?_)
      · have h1 := cell2g gS; exact ⟨h1.1, h1.2.1, HA.out⟩
      replace g0 : v4.drew.heap[_]? = _ := g0
      replace g1 : v4.drew.heap[_]? = _ := g1
      replace gS : v4.drew.heap[_]? = _ := gS
      replace Rps : World.ownsRow v4.drew B 25 2 (.slice (some ⟨g, 0, none⟩) ps.length cp) ps.length (flat2 ps) := Rps
      replace hr : Ready v4.drew p a len cap := hr
      replace hb0 : Below w.heap.size w v4.drew := hb0.drew
      replace HA : Hid (PtsAt v4.drew g 0 ps) := HA
      generalize v4.drew = y0 at *
      clear r0 r1 rf0 rf1
      obtain ⟨r0, r1, rf0, rf1⟩ := cell2g gS
      have hzS := lt_of_block gS
      refine wpAnyH_take (i := 0) (v := ?_) rfl (by kernel_rfl) (by kernel_rfl) (by kernel_rfl) (fun _ _ _ h => h) (Or.inl ⟨by rfl, ?_⟩) hHeld ?_
      rotate_left
      · intro w hSw; (try dsimp only at hSw); go_simp; try (with_reducible rfl)
      try simp only [sq]
      refine wpAnyH_take (i := 1) (v := ?_) rfl (by kernel_rfl) (by kernel_rfl) (by kernel_rfl) (fun _ _ _ h => h) (Or.inl ⟨by rfl, ?_⟩) hHeld ?_
      rotate_left
      · intro w hSw; (try dsimp only at hSw); go_simp; try (with_reducible rfl)
      try simp only [sq]
      refine wpAnyH_take (i := 2) (v := ?_) rfl (by kernel_rfl) (by kernel_rfl) (by kernel_rfl) (fun _ _ _ h => h) (Or.inl ⟨by rfl, ?_⟩) hHeld ?_
      rotate_left
      · intro w hSw; (try dsimp only at hSw); go_simp; try (with_reducible rfl)
      try simp only [sq]
      refine wpAnyH_take (i := 3) (v := ?_) rfl (by kernel_rfl) (by kernel_rfl) (by kernel_rfl) (fun _ _ _ h => h) (Or.inl ⟨by rfl, ?_⟩) hHeld ?_
      rotate_left
      · intro w hSw; (try dsimp only at hSw); go_simp; try (with_reducible rfl)
      try simp only [sq]
      refine wpAnyH_take (i := 4) (v := ?_) rfl (by kernel_rfl) (by kernel_rfl) (by kernel_rfl) (fun _ _ _ h => h) (Or.inl ⟨by rfl, ?_⟩) hHeld ?_
      rotate_left
      · intro w hSw; (try dsimp only at hSw); go_simp; try (with_reducible rfl)
      try simp only [sq]
      refine wpAnyH_take (i := 5) (v := ?_) rfl (by kernel_rfl) (by kernel_rfl) (by kernel_rfl) (fun _ _ _ h => h) (Or.inl ⟨by rfl, ?_⟩) hHeld ?_
      rotate_left
      · intro w hSw; (try dsimp only at hSw); go_simp; try (with_reducible rfl)
      try simp only [sq]
      refine wpAnyH_take (i := 6) (v := ?_) rfl (by kernel_rfl) (by kernel_rfl) (by kernel_rfl) (fun _ _ _ h => h) (Or.inl ⟨by rfl, ?_⟩) hHeld ?_
      rotate_left
      · intro w hSw; (try dsimp only at hSw); go_simp; try (with_reducible rfl)
      try simp only [sq]
      refine wpAnyH_ready (rs := [7]) (by kernel_rfl) (by simp) ?_
      refine (AllReadyH.cons rfl (fun K hK => ?_) AllReadyH.nil)
      try simp only [sq]
      go_simp
      go_at_call 71
      have hA0 := HA.out
      refine (below_r _ p a len cap (ps.length : Int) (by omega) (by omega) hr).mono ?_
      rintro e y1 ⟨c, rfl, c0, c1, hr2, hg2⟩
      replace g0 := grown_blk hg2 g0 (by omega)
      replace g1 := grown_blk hg2 g1 (by omega)
      replace gS := grown_blk hg2 gS (by omega)
      replace Rps := World.ownsRow.kept Rps hg2 (Or.inr (fun e => by have := (World.ownsRow.lt Rps p e).1; omega))
      replace hb0 := bgrown hb0 hg2 (by omega)
      have hzy1 := hg2.size
      have hA1 : PtsAt y1 g 0 ps := fun j hj => ⟨hg2.cell (hA0 j hj).1 (by simp; omega), hg2.cell (hA0 j hj).2 (by simp; omega)⟩
      clear hr hg2
      rename Ready y1 p a len cap => hr
      replace HA := hid hA1
      clear hA0 hA1
      obtain ⟨kk, rfl⟩ := Int.eq_ofNat_of_zero_le c0
      have hkk : kk < ps.length := by omega
      obtain ⟨px, hpx⟩ : ∃ px, (ps.getD kk (0, 0)).1 = px := ⟨_, rfl⟩
      obtain ⟨py, hpy⟩ : ∃ py, (ps.getD kk (0, 0)).2 = py := ⟨_, rfl⟩
      have HPX := hid hpx
      have HPY := hid hpy
      clear hpx hpy
      clear r0 r1 rf0 rf1
      obtain ⟨r0, r1, rf0, rf1⟩ := cell2g gS
      go_wp2_with fail
      refine hK.out _ _ ?_ (fun hHeld => ?_)
      · exact ⟨r0, r1, HA.out⟩
      clear hK K
      obtain ⟨e0, e1, ef0, ef1⟩ := cell2g g0
      obtain ⟨d0, d1, df0, df1⟩ := cell2g g1
      have hzf : w.heap.size + 1 < y1.heap.size := lt_of_block g1
      try simp only [sq]
      refine wpAnyH_take (i := 8) (v := ?_) rfl (by kernel_rfl) (by kernel_rfl) (by kernel_rfl) (fun _ _ _ h => h) (Or.inl ⟨by rfl, ?_⟩) hHeld ?_
      rotate_left
      · intro w hSw; (try dsimp only at hSw); go_simp; try (with_reducible rfl)
      try simp only [sq]
      refine wpAnyH_take (i := 9) (v := ?_) rfl (by kernel_rfl) (by kernel_rfl) (by kernel_rfl) (fun _ _ _ h => h) (Or.inl ⟨by rfl, ?_⟩) hHeld ?_
      rotate_left
      · intro w hSw; (try dsimp only at hSw); obtain ⟨u0, u1⟩ := hSw.2.2 kk hkk; rw [HPX.out] at u0; rw [HPY.out] at u1; simp only [Nat.zero_add] at u0 u1; clear hSw; go_simp; try (with_reducible rfl)
      try simp only [sq]
      refine wpAnyH_ready (rs := [10]) (by kernel_rfl) (by simp) ?_
      refine (AllReadyH.cons rfl (fun K hK => ?_) AllReadyH.nil)
      try simp only [sq]
      go_simp
      refine hK.out _ _ ?_ (fun hHeld => ?_)
      · exact ⟨keepset4 (keepset4 hHeld.1 (by omega)) (by omega), keepset4 (keepset4 hHeld.2.1 (by omega)) (by omega), fun j hj => ⟨keepset4 (keepset4 (hHeld.2.2 j hj).1 (by omega)) (by omega), keepset4 (keepset4 (hHeld.2.2 j hj).2 (by omega)) (by omega)⟩⟩
      clear hK K
      try simp only [sq]
      have hset := set2 g0 (.int .i64 kd) (.slice (some ⟨g, 0, none⟩) ps.length cp)
      have g1' := hset.2 _ _ (by omega) g1
      have g0' := hset.1
      have hR1 := World.ownsRow.kept (World.ownsRow.kept Rps (grown_set y1 w.heap.size 0 (.int .i64 kd)) (Or.inr (fun e => by have := (World.ownsRow.lt Rps _ e).1; omega))) (grown_set _ w.heap.size 1 (.slice (some ⟨g, 0, none⟩) ps.length cp)) (Or.inr (fun e => by have := (World.ownsRow.lt Rps _ e).1; omega))
      have hbF := bset (bset hb0 (q := w.heap.size) (k := 0) (Nat.le_refl _) (.int .i64 kd)) (q := w.heap.size) (k := 1) (Nat.le_refl _) (.slice (some ⟨g, 0, none⟩) ps.length cp)
      have hzz : ((y1.setCell ⟨w.heap.size, 0, none⟩ (.int .i64 kd)).setCell ⟨w.heap.size, 1, none⟩ (.slice (some ⟨g, 0, none⟩) ps.length cp)).heap.size = y1.heap.size := by simp
      clear hset d0 d1 df0 df1 e0 e1 ef0 ef1
      generalize (y1.setCell ⟨w.heap.size, 0, none⟩ (.int .i64 kd)).setCell ⟨w.heap.size, 1, none⟩ (.slice (some ⟨g, 0, none⟩) ps.length cp) = yf at *
      obtain ⟨d0, d1, df0, df1⟩ := cell2g g1'
      refine wpAnyH_ready (rs := [11]) (by kernel_rfl) (by simp) ?_
      refine (AllReadyH.cons rfl (fun K hK => ?_) AllReadyH.nil)
      try simp only [sq]
      go_simp
      refine hK.out _ _ ?_ (fun hHeld => ?_)
      · exact ⟨keepset4 (keepset4 hHeld.1 (by omega)) (by omega), keepset4 (keepset4 hHeld.2.1 (by omega)) (by omega), fun j hj => ⟨keepset4 (keepset4 (hHeld.2.2 j hj).1 (by omega)) (by omega), keepset4 (keepset4 (hHeld.2.2 j hj).2 (by omega)) (by omega)⟩⟩
      clear hK K
      try simp only [sq]
      refine wpAnyH_done (by kernel_rfl) ?_ _
      have hset := set2 g1' (.int .i64 px) (.int .i64 py)
      obtain ⟨f0, f1, _, _⟩ := cell2g hset.1
      obtain ⟨f4, f5, _, _⟩ := cell2g (hset.2 _ _ (by omega) g0')
      have hne : (Value.slice (some ⟨g, 0, none⟩) ps.length cp).ownBlock ≠ some (w.heap.size + 1) := fun e => by have := (World.ownsRow.lt hR1 _ e).1; omega
      have hS1 : PtRow _ B (.slice (some ⟨g, 0, none⟩) ps.length cp) ps := World.ownsRow.kept (World.ownsRow.kept hR1 (grown_set yf (w.heap.size + 1) 0 (.int .i64 px)) (Or.inr hne)) (grown_set _ (w.heap.size + 1) 1 (.int .i64 py)) (Or.inr hne)
      have hbG := bset (bset hbF (q := w.heap.size + 1) (k := 0) (by omega) (.int .i64 px)) (q := w.heap.size + 1) (k := 1) (by omega) (.int .i64 py)
      obtain ⟨_, _, e', _, hpt⟩ := hS1.pts
      cases e'
      generalize (yf.setCell ⟨w.heap.size + 1, 0, none⟩ (.int .i64 px)).setCell ⟨w.heap.size + 1, 1, none⟩ (.int .i64 py) = yg at *
      have HP := hid hpt
      clear hset hpt hS1 hR1
      go_wp2_with fail
      exact bodyPost_ret (v := .tuple #[.agg #[.int .i64 kd, .slice (some ⟨g, 0, none⟩) ps.length cp], .agg #[.int .i64 px, .int .i64 py]]) (by simp [results, Try.results50, go_sem, f0, f1, f4, f5]) rfl ⟨kd, ps, _, cp, px, py, rfl, hlps, hcps, HP.out, hbG⟩
  · have c1 : ¬ (0 : Int) < (ps.length : Int) := by omega
    go_wp2_with fail
    generalize hBB : v1.heap.size = B at *
    clear hBB
    have hwp : w.heap.size + 1 < B := by omega
    replace Rps := World.ownsRow.alloc Rps (.cells #[.int .i64 kd, .slice ao ps.length cp] 52)
    replace g0 := old_alloc (o' := .cells #[.int .i64 kd, .slice ao ps.length cp] 52) g0
    replace g1 := old_alloc (o' := .cells #[.int .i64 kd, .slice ao ps.length cp] 52) g1
    have gS := new_alloc v2 v2.heap.size (.cells #[.int .i64 kd, .slice ao ps.length cp] 52) rfl
    replace hr := hr.alloc (.cells #[.int .i64 kd, .slice ao ps.length cp] 52)
    replace hb0 := balloc hb0 (.cells #[.int .i64 kd, .slice ao ps.length cp] 52)
    have hzv3 : (v2.alloc (.cells #[.int .i64 kd, .slice ao ps.length cp] 52)).heap.size = v2.heap.size + 1 := by simp
    generalize v2.alloc (.cells #[.int .i64 kd, .slice ao ps.length cp] 52) = v3 at *
    generalize v2.heap.size = S at *
    obtain ⟨r0, r1, rf0, rf1⟩ := cell2g gS
    refine wp_region_held_drew (S := (fun w' => w'.cell? ⟨S, 0, none⟩ = some (.int .i64 kd) ∧ w'.cell? ⟨S, 1, none⟩ = some (.slice ao ps.length cp))) (by kernel_rfl) ?_ (fun hHeld => ?_)
    · have h1 := cell2g gS; exact ⟨h1.1, h1.2.1⟩
    replace g0 : v3.drew.heap[_]? = _ := g0
    replace g1 : v3.drew.heap[_]? = _ := g1
    replace gS : v3.drew.heap[_]? = _ := gS
    replace Rps : World.ownsRow v3.drew B 25 2 (.slice ao ps.length cp) ps.length (flat2 ps) := Rps
    replace hr : Ready v3.drew p a len cap := hr
    replace hb0 : Below w.heap.size w v3.drew := hb0.drew
    generalize v3.drew = y0 at *
    clear r0 r1 rf0 rf1
    obtain ⟨r0, r1, rf0, rf1⟩ := cell2g gS
    have hzS := lt_of_block gS
    refine wpAnyH_take (i := 0) (v := ?_) rfl (by kernel_rfl) (by kernel_rfl) (by kernel_rfl) (fun _ _ _ h => h) (Or.inl ⟨by rfl, ?_⟩) hHeld ?_
    rotate_left
    · intro w hSw; (try dsimp only at hSw); go_simp; try (with_reducible rfl)
    try simp only [sq]
    refine wpAnyH_take (i := 1) (v := ?_) rfl (by kernel_rfl) (by kernel_rfl) (by kernel_rfl) (fun _ _ _ h => h) (Or.inl ⟨by rfl, ?_⟩) hHeld ?_
    rotate_left
    · intro w hSw; (try dsimp only at hSw); go_simp; try (with_reducible rfl)
    try simp only [sq]
    refine wpAnyH_ready (rs := [2]) (by kernel_rfl) (by simp) ?_
    refine (AllReadyH.cons rfl (fun K hK => ?_) AllReadyH.nil)
    try simp only [sq]
    go_simp
    go_at_call 68
    refine (point_r _ p a len cap hr).mono ?_
    rintro e y1 ⟨px, py, rfl, _, _, hr2, hg2⟩
    replace g0 := grown_blk hg2 g0 (by omega)
    replace g1 := grown_blk hg2 g1 (by omega)
    replace gS := grown_blk hg2 gS (by omega)
    replace Rps := World.ownsRow.kept Rps hg2 (Or.inr (fun e => by have := (World.ownsRow.lt Rps p e).1; omega))
    replace hb0 := bgrown hb0 hg2 (by omega)
    have hzy1 := hg2.size
    clear hr hg2
    rename Ready y1 p a len cap => hr
    clear r0 r1 rf0 rf1
    obtain ⟨r0, r1, rf0, rf1⟩ := cell2g gS
    go_wp2_with fail
    refine hK.out _ _ ?_ (fun hHeld => ?_)
    · exact ⟨r0, r1⟩
    clear hK K
    obtain ⟨e0, e1, ef0, ef1⟩ := cell2g g0
    obtain ⟨d0, d1, df0, df1⟩ := cell2g g1
    have hzf : w.heap.size + 1 < y1.heap.size := lt_of_block g1
    try simp only [sq]
    refine wpAnyH_ready (rs := [3]) (by kernel_rfl) (by simp) ?_
    refine (AllReadyH.cons rfl (fun K hK => ?_) AllReadyH.nil)
    try simp only [sq]
    go_simp
    refine hK.out _ _ ?_ (fun hHeld => ?_)
    · exact ⟨keepset4 (keepset4 hHeld.1 (by omega)) (by omega), keepset4 (keepset4 hHeld.2 (by omega)) (by omega)⟩
    clear hK K
    try simp only [sq]
    have hset := set2 g0 (.int .i64 kd) (.slice ao ps.length cp)
    have g1' := hset.2 _ _ (by omega) g1
    have g0' := hset.1
    have hR1 := World.ownsRow.kept (World.ownsRow.kept Rps (grown_set y1 w.heap.size 0 (.int .i64 kd)) (Or.inr (fun e => by have := (World.ownsRow.lt Rps _ e).1; omega))) (grown_set _ w.heap.size 1 (.slice ao ps.length cp)) (Or.inr (fun e => by have := (World.ownsRow.lt Rps _ e).1; omega))
    have hbF := bset (bset hb0 (q := w.heap.size) (k := 0) (Nat.le_refl _) (.int .i64 kd)) (q := w.heap.size) (k := 1) (Nat.le_refl _) (.slice ao ps.length cp)
    have hzz : ((y1.setCell ⟨w.heap.size, 0, none⟩ (.int .i64 kd)).setCell ⟨w.heap.size, 1, none⟩ (.slice ao ps.length cp)).heap.size = y1.heap.size := by simp
    clear hset d0 d1 df0 df1 e0 e1 ef0 ef1
    generalize (y1.setCell ⟨w.heap.size, 0, none⟩ (.int .i64 kd)).setCell ⟨w.heap.size, 1, none⟩ (.slice ao ps.length cp) = yf at *
    obtain ⟨d0, d1, df0, df1⟩ := cell2g g1'
    refine wpAnyH_ready (rs := [4]) (by kernel_rfl) (by simp) ?_
    refine (AllReadyH.cons rfl (fun K hK => ?_) AllReadyH.nil)
    try simp only [sq]
    go_simp
    refine hK.out _ _ ?_ (fun hHeld => ?_)
    · exact ⟨keepset4 (keepset4 hHeld.1 (by omega)) (by omega), keepset4 (keepset4 hHeld.2 (by omega)) (by omega)⟩
    clear hK K
    try simp only [sq]
    refine wpAnyH_done (by kernel_rfl) ?_ _
    have hset := set2 g1' (.int .i64 px) (.int .i64 py)
    obtain ⟨f0, f1, _, _⟩ := cell2g hset.1
    obtain ⟨f4, f5, _, _⟩ := cell2g (hset.2 _ _ (by omega) g0')
    have hne : (Value.slice ao ps.length cp).ownBlock ≠ some (w.heap.size + 1) := fun e => by have := (World.ownsRow.lt hR1 _ e).1; omega
    have hS1 : PtRow _ B (.slice ao ps.length cp) ps := World.ownsRow.kept (World.ownsRow.kept hR1 (grown_set yf (w.heap.size + 1) 0 (.int .i64 px)) (Or.inr hne)) (grown_set _ (w.heap.size + 1) 1 (.int .i64 py)) (Or.inr hne)
    have hbG := bset (bset hbF (q := w.heap.size + 1) (k := 0) (by omega) (.int .i64 px)) (q := w.heap.size + 1) (k := 1) (by omega) (.int .i64 py)
    obtain ⟨_, _, e', _, hpt⟩ := hS1.pts
    cases e'
    generalize (yf.setCell ⟨w.heap.size + 1, 0, none⟩ (.int .i64 px)).setCell ⟨w.heap.size + 1, 1, none⟩ (.int .i64 py) = yg at *
    have HP := hid hpt
    clear hset hpt hS1 hR1
    go_wp2_with fail
    exact bodyPost_ret (v := .tuple #[.agg #[.int .i64 kd, .slice ao ps.length cp], .agg #[.int .i64 px, .int .i64 py]]) (by simp [results, Try.results50, go_sem, f0, f1, f4, f5]) rfl ⟨kd, ps, _, cp, px, py, rfl, hlps, hcps, HP.out, hbG⟩
end Go.Proofs.Ytkncdncpgjpemaa
