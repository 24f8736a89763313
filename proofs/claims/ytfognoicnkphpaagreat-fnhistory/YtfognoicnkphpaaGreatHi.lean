/- Drawn rows, with a moment; with an id and a moment. -/
import Derived.Test.YtfognoicnkphpaaGreatHf
import Derived.Test.YtfognoicnkphpaaGreatJ16
namespace Go.Proofs.YtfognoicnkphpaaGreat
open Go.RowKit
set_option linter.unusedSimpArgs false
set_option linter.unusedVariables false
def DV (w : World) (e : Ending) (w' : World) : Prop := ∃ (now : Int) (ra : Option Addr) (rc : Nat) (rs : List Rw) (xs : List El) (t : Int), e = .returned (.tuple #[.agg #[.int .i64 now, .slice ra rs.length rc], .int .i64 t]) ∧ (-1 ≤ now ∧ now ≤ 20) ∧ rs.length ≤ 301 ∧ RowsX w.heap.size w'.heap.size w' (.slice ra rs.length rc) rs xs ∧ (-1 ≤ t ∧ t ≤ 23) ∧ Below w.heap.size w w'
def DU (w : World) (e : Ending) (w' : World) : Prop := ∃ (now : Int) (ra : Option Addr) (rc : Nat) (rs : List Rw) (xs : List El) (id t : Int), e = .returned (.tuple #[.agg #[.int .i64 now, .slice ra rs.length rc], .int .i64 id, .int .i64 t]) ∧ (-1 ≤ now ∧ now ≤ 20) ∧ rs.length ≤ 301 ∧ RowsX w.heap.size w'.heap.size w' (.slice ra rs.length rc) rs xs ∧ (-1 ≤ t ∧ t ≤ 23) ∧ Below w.heap.size w w'
theorem DV.mk {w w' : World} {now : Int} {ra : Option Addr} {rc : Nat} {rs : List Rw} {xs : List El} {t : Int} (h0 : -1 ≤ now) (h1 : now ≤ 20) (h2 : rs.length ≤ 301) (h3 : RowsX w.heap.size w'.heap.size w' (.slice ra rs.length rc) rs xs) (h4 : -1 ≤ t) (h5 : t ≤ 23) (h6 : Below w.heap.size w w') : DV w (.returned (.tuple #[.agg #[.int .i64 now, .slice ra rs.length rc], .int .i64 t])) w' := ⟨now, ra, rc, rs, xs, t, rfl, ⟨h0, h1⟩, h2, h3, ⟨h4, h5⟩, h6⟩
theorem DU.mk {w w' : World} {now : Int} {ra : Option Addr} {rc : Nat} {rs : List Rw} {xs : List El} {id t : Int} (h0 : -1 ≤ now) (h1 : now ≤ 20) (h2 : rs.length ≤ 301) (h3 : RowsX w.heap.size w'.heap.size w' (.slice ra rs.length rc) rs xs) (h4 : -1 ≤ t) (h5 : t ≤ 23) (h6 : Below w.heap.size w w') : DU w (.returned (.tuple #[.agg #[.int .i64 now, .slice ra rs.length rc], .int .i64 id, .int .i64 t])) w' := ⟨now, ra, rc, rs, xs, id, t, rfl, ⟨h0, h1⟩, h2, h3, ⟨h4, h5⟩, h6⟩
set_option maxRecDepth 100000 in
set_option maxHeartbeats 8000000 in
theorem draw_vac (w : World) (a : Option Addr) (len cap : Nat) (hc : CodeAt w a len w.heap.size) : Calls Tryz.prog 16 #[.slice a len cap] w fun e w' => DV w e w' := by
  have hB : Below w.heap.size w (w.alloc (.cells #[.int .i64 0, .slice none 0 0] 26)) := balloc (Below.refl _ _) _
  have gR := heap_alloc_new w (.cells #[.int .i64 0, .slice none 0 0] 26)
  have hc0 : CodeAt (w.alloc (.cells #[.int .i64 0, .slice none 0 0] 26)) a len (w.alloc (.cells #[.int .i64 0, .slice none 0 0] 26)).heap.size := (hc.below hB).mono hB.size
  have hws : w.heap.size < (w.alloc (.cells #[.int .i64 0, .slice none 0 0] 26)).heap.size := by simp
  clear hc
  go_enter Tryz.func16, Tryz.ntmps16
  go_upto_region 1 with fail
  generalize w.alloc (.cells #[.int .i64 0, .slice none 0 0] 26) = W0 at *
  go_wp2_with fail
  refine (new_q _ a len cap hc0).mono ?_
  rintro e v1 ⟨p, rfl, hp0, hr, hold, hb0⟩
  replace gR := hold _ _ gR
  replace hB := btrans hB hb0
  have hp1 := hr.lt
  rw [hp0] at hws
  clear hold hb0 hc0 hp0
  go_wp2_with fail
  refine (rows_r _ p a len cap hr).mono ?_
  rintro e v2 hdr
  obtain ⟨now, v, rs, xs, rfl, ⟨hn0, hn1⟩, hl, hX, hr2, hg⟩ := hdr
  obtain ⟨ra, rc, ev⟩ := kept_form hX
  subst ev
  replace gR := grown_blk hg gR (by omega)
  replace hB := bgrown hB hg (by omega)
  have hv := hg.size
  clear hr hg
  go_upto_region 3 with fail
  have gQ := heap_alloc_new v2 (.cells #[.int .i64 now, .slice ra rs.length rc] 26)
  have hal : Below v2.heap.size v2 (v2.alloc (.cells #[.int .i64 now, .slice ra rs.length rc] 26)) := balloc (Below.refl _ _) _
  replace gR := keepheap2 hal gR
  replace hB := btrans hB hal
  have HX := hid (hX.below hal)
  replace hr2 := hr2.alloc (.cells #[.int .i64 now, .slice ra rs.length rc] 26)
  clear hal hX
  generalize v2.alloc (.cells #[.int .i64 now, .slice ra rs.length rc] 26) = V at *
  have hQp : p < v2.heap.size := by omega
  generalize v2.heap.size = Q at *
  have hw3 : IntKind.i64.wrap (now + 3) = now + 3 := by rw [IntKind.wrap_i64]; omega
  obtain ⟨q0, q1, _, _⟩ := cell2f gQ
  refine wp_region_held_drew (S := (fun w' => w'.cell? ⟨Q, 0, none⟩ = some (.int .i64 now) ∧ w'.cell? ⟨Q, 1, none⟩ = some (.slice ra rs.length rc))) (by kernel_rfl) ?_ (fun hHeld => ?_)
  · (repeat' apply And.intro) <;> (first | exact q0 | exact q1 | with_reducible assumption)
  have hdw : Below V.heap.size V V.drew := bdrew (Below.refl _ _)
  replace gR := keepheap2 hdw gR
  replace gQ := keepheap2 hdw gQ
  replace hB := btrans hB hdw
  replace HX := hid (HX.out.below hdw)
  replace hr2 := hr2.bel hdw
  clear hdw
  generalize V.drew = V0 at *
  refine wpAnyH_take (i := 0) (v := ?_) rfl (by kernel_rfl) (by kernel_rfl) (by kernel_rfl) (fun _ _ _ h => h) (Or.inl ⟨by rfl, ?_⟩) hHeld ?_
  rotate_left
  · intro w hSw; (try dsimp only at hSw); go_simp; try (with_reducible rfl)
  try simp only [sq]
  refine wpAnyH_take (i := 1) (v := ?_) rfl (by kernel_rfl) (by kernel_rfl) (by kernel_rfl) (fun _ _ _ h => h) (Or.inl ⟨by rfl, ?_⟩) hHeld ?_
  rotate_left
  · intro w hSw; (try dsimp only at hSw); go_simp; try (with_reducible rfl)
  try simp only [sq]
  refine wpAnyH_take (i := 2) (v := ?_) rfl (by kernel_rfl) (by kernel_rfl) (by kernel_rfl) (fun _ _ _ h => h) (Or.inl ⟨by rfl, ?_⟩) hHeld ?_
  rotate_left
  · intro w hSw; (try dsimp only at hSw); go_simp; try (with_reducible rfl)
  try simp only [sq]
  refine wpAnyH_take (i := 3) (v := ?_) rfl (by kernel_rfl) (by kernel_rfl) (by kernel_rfl) (fun _ _ _ h => h) (Or.inl ⟨by rfl, ?_⟩) hHeld ?_
  rotate_left
  · intro w hSw; (try dsimp only at hSw); go_simp; try (with_reducible rfl)
  try simp only [sq]
  refine wpAnyH_take (i := 4) (v := ?_) rfl (by kernel_rfl) (by kernel_rfl) (by kernel_rfl) (fun _ _ _ h => h) (Or.inl ⟨by rfl, ?_⟩) hHeld ?_
  rotate_left
  · intro w hSw; (try dsimp only at hSw); go_simp; try (with_reducible rfl)
  try simp only [sq]
  refine wpAnyH_ready (rs := [5]) (by kernel_rfl) (by simp) ?_
  refine (AllReadyH.cons rfl (fun K hK => ?_) AllReadyH.nil)
  try simp only [sq]
  go_simp
  go_at_call 25
  refine (below_r _ p a len cap (now + 3) (by omega) (by omega) hr2).mono ?_
  rintro e yx ⟨x, rfl, hx0, hx1, hr3, hg⟩
  replace gR := grown_blk hg gR (by omega)
  replace gQ := grown_blk hg gQ (by omega)
  replace hB := bgrown hB hg (by omega)
  replace HX := hid (HX.out.grown hg hp1)
  replace hr2 := hr3
  clear hg hr3
  have hwx : IntKind.i64.wrap (x - 1) = x - 1 := by rw [IntKind.wrap_i64]; omega
  go_wp2_with fail
  refine hK.out _ _ ?_ (fun hHeld => ?_)
  · (go_split_ands; (repeat' apply And.intro) <;> (repeat (first | with_reducible assumption | exact (cell2f gQ).1 | exact (cell2f gQ).2.1 | with_reducible refine keepset ?_ (by dsimp only; omega))))
  clear hK K
  try simp only [sq]
  refine wpAnyH_take (i := 6) (v := ?_) rfl (by kernel_rfl) (by kernel_rfl) (by kernel_rfl) (fun _ _ _ h => h) (Or.inl ⟨by rfl, ?_⟩) hHeld ?_
  rotate_left
  · intro w hSw; (try dsimp only at hSw); go_simp; try (with_reducible rfl)
  try simp only [sq]
  refine wpAnyH_ready (rs := [7]) (by kernel_rfl) (by simp) ?_
  refine (AllReadyH.cons rfl (fun K hK => ?_) AllReadyH.nil)
  obtain ⟨_, _, s0, s1⟩ := cell2f gR
  try simp only [sq]
  go_simp
  refine hK.out _ _ ?_ (fun hHeld => ?_)
  · (go_split_ands; (repeat' apply And.intro) <;> (repeat (first | with_reducible assumption | exact (cell2f gQ).1 | exact (cell2f gQ).2.1 | with_reducible refine keepset ?_ (by dsimp only; omega))))
  clear hK K
  try simp only [sq]
  refine wpAnyH_take (i := 8) (v := ?_) rfl (by kernel_rfl) (by kernel_rfl) (by kernel_rfl) (fun _ _ _ h => h) (Or.inl ⟨by rfl, ?_⟩) hHeld ?_
  rotate_left
  · intro w hSw; (try dsimp only at hSw); go_simp; try (with_reducible rfl)
  try simp only [sq]
  refine wpAnyH_done (by kernel_rfl) ?_ _
  clear q0 q1 hHeld s0 s1
  have gF := set2r gR (.int .i64 now) (.slice ra rs.length rc)
  have bF := bset (bset hB (q := w.heap.size) (k := 0) (Nat.le_refl _) (.int .i64 now)) (q := w.heap.size) (k := 1) (Nat.le_refl _) (.slice ra rs.length rc)
  have xF := (HX.out.frame (w' := (yx.setCell ⟨w.heap.size, 0, none⟩ (.int .i64 now)).setCell ⟨w.heap.size, 1, none⟩ (.slice ra rs.length rc)) (fun c c1 c2 => by rw [Below.heap_setCell _ _ _ _ (by dsimp only; omega), Below.heap_setCell _ _ _ _ (by dsimp only; omega)]) (by simp)).mono (base' := w.heap.size) (hi' := ((yx.setCell ⟨w.heap.size, 0, none⟩ (.int .i64 now)).setCell ⟨w.heap.size, 1, none⟩ (.slice ra rs.length rc)).heap.size) (by omega) (by have := HX.out.2.2.2.1; simpa using this) (Nat.le_refl _)
  have HF := hid xF
  clear xF HX
  go_wp2_with fail
  generalize (yx.setCell ⟨w.heap.size, 0, none⟩ (.int .i64 now)).setCell ⟨w.heap.size, 1, none⟩ (.slice ra rs.length rc) = wf at *
  obtain ⟨z0, z1, _, _⟩ := cell2f gF
  exact bodyPost_ret (v := .tuple #[.agg #[.int .i64 now, .slice ra rs.length rc], .int .i64 (x - 1)]) (by simp [results, Tryz.results16, go_sem, z0, z1]) rfl (DV.mk hn0 hn1 hl HF.out (by omega) (by omega) bF)
set_option maxRecDepth 100000 in
set_option maxHeartbeats 8000000 in
theorem draw_tou (w : World) (a : Option Addr) (len cap : Nat) (hc : CodeAt w a len w.heap.size) : Calls Tryz.prog 19 #[.slice a len cap] w fun e w' => DU w e w' := by
  have hB : Below w.heap.size w (w.alloc (.cells #[.int .i64 0, .slice none 0 0] 26)) := balloc (Below.refl _ _) _
  have gR := heap_alloc_new w (.cells #[.int .i64 0, .slice none 0 0] 26)
  have hc0 : CodeAt (w.alloc (.cells #[.int .i64 0, .slice none 0 0] 26)) a len (w.alloc (.cells #[.int .i64 0, .slice none 0 0] 26)).heap.size := (hc.below hB).mono hB.size
  have hws : w.heap.size < (w.alloc (.cells #[.int .i64 0, .slice none 0 0] 26)).heap.size := by simp
  clear hc
  go_enter Tryz.func19, Tryz.ntmps19
  go_upto_region 1 with fail
  generalize w.alloc (.cells #[.int .i64 0, .slice none 0 0] 26) = W0 at *
  go_wp2_with fail
  refine (new_q _ a len cap hc0).mono ?_
  rintro e v1 ⟨p, rfl, hp0, hr, hold, hb0⟩
  replace gR := hold _ _ gR
  replace hB := btrans hB hb0
  have hp1 := hr.lt
  rw [hp0] at hws
  clear hold hb0 hc0 hp0
  go_wp2_with fail
  refine (rows_r _ p a len cap hr).mono ?_
  rintro e v2 hdr
  obtain ⟨now, v, rs, xs, rfl, ⟨hn0, hn1⟩, hl, hX, hr2, hg⟩ := hdr
  obtain ⟨ra, rc, ev⟩ := kept_form hX
  subst ev
  replace gR := grown_blk hg gR (by omega)
  replace hB := bgrown hB hg (by omega)
  have hv := hg.size
  clear hr hg
  go_upto_region 3 with fail
  have gQ := heap_alloc_new v2 (.cells #[.int .i64 now, .slice ra rs.length rc] 26)
  have hal : Below v2.heap.size v2 (v2.alloc (.cells #[.int .i64 now, .slice ra rs.length rc] 26)) := balloc (Below.refl _ _) _
  replace gR := keepheap2 hal gR
  replace hB := btrans hB hal
  have HX := hid (hX.below hal)
  replace hr2 := hr2.alloc (.cells #[.int .i64 now, .slice ra rs.length rc] 26)
  clear hal hX
  generalize v2.alloc (.cells #[.int .i64 now, .slice ra rs.length rc] 26) = V at *
  have hQp : p < v2.heap.size := by omega
  generalize v2.heap.size = Q at *
  have hw3 : IntKind.i64.wrap (now + 3) = now + 3 := by rw [IntKind.wrap_i64]; omega
  obtain ⟨q0, q1, _, _⟩ := cell2f gQ
  refine wp_region_held_drew (S := (fun w' => w'.cell? ⟨Q, 0, none⟩ = some (.int .i64 now) ∧ w'.cell? ⟨Q, 1, none⟩ = some (.slice ra rs.length rc))) (by kernel_rfl) ?_ (fun hHeld => ?_)
  · (repeat' apply And.intro) <;> (first | exact q0 | exact q1 | with_reducible assumption)
  have hdw : Below V.heap.size V V.drew := bdrew (Below.refl _ _)
  replace gR := keepheap2 hdw gR
  replace gQ := keepheap2 hdw gQ
  replace hB := btrans hB hdw
  replace HX := hid (HX.out.below hdw)
  replace hr2 := hr2.bel hdw
  clear hdw
  generalize V.drew = V0 at *
  refine wpAnyH_take (i := 0) (v := ?_) rfl (by kernel_rfl) (by kernel_rfl) (by kernel_rfl) (fun _ _ _ h => h) (Or.inl ⟨by rfl, ?_⟩) hHeld ?_
  rotate_left
  · intro w hSw; (try dsimp only at hSw); go_simp; try (with_reducible rfl)
  try simp only [sq]
  refine wpAnyH_take (i := 1) (v := ?_) rfl (by kernel_rfl) (by kernel_rfl) (by kernel_rfl) (fun _ _ _ h => h) (Or.inl ⟨by rfl, ?_⟩) hHeld ?_
  rotate_left
  · intro w hSw; (try dsimp only at hSw); go_simp; try (with_reducible rfl)
  try simp only [sq]
  refine wpAnyH_take (i := 4) (v := ?_) rfl (by kernel_rfl) (by kernel_rfl) (by kernel_rfl) (fun _ _ _ h => h) (Or.inl ⟨by rfl, ?_⟩) hHeld ?_
  rotate_left
  · intro w hSw; (try dsimp only at hSw); go_simp; try (with_reducible rfl)
  try simp only [sq]
  refine wpAnyH_take (i := 5) (v := ?_) rfl (by kernel_rfl) (by kernel_rfl) (by kernel_rfl) (fun _ _ _ h => h) (Or.inl ⟨by rfl, ?_⟩) hHeld ?_
  rotate_left
  · intro w hSw; (try dsimp only at hSw); go_simp; try (with_reducible rfl)
  try simp only [sq]
  refine wpAnyH_take (i := 6) (v := ?_) rfl (by kernel_rfl) (by kernel_rfl) (by kernel_rfl) (fun _ _ _ h => h) (Or.inl ⟨by rfl, ?_⟩) hHeld ?_
  rotate_left
  · intro w hSw; (try dsimp only at hSw); go_simp; try (with_reducible rfl)
  try simp only [sq]
  refine wpAnyH_take (i := 7) (v := ?_) rfl (by kernel_rfl) (by kernel_rfl) (by kernel_rfl) (fun _ _ _ h => h) (Or.inl ⟨by rfl, ?_⟩) hHeld ?_
  rotate_left
  · intro w hSw; (try dsimp only at hSw); go_simp; try (with_reducible rfl)
  try simp only [sq]
  refine wpAnyH_ready (rs := [2]) (by kernel_rfl) (by simp) ?_
  refine (AllReadyH.cons rfl (fun K hK => ?_) AllReadyH.nil)
  try simp only [sq]
  go_simp
  go_at_call 25
  refine (below_r _ p a len cap 6 (by omega) (by omega) hr2).mono ?_
  rintro e yz ⟨z, rfl, hz0, hz1, hr3, hg⟩
  replace gR := grown_blk hg gR (by omega)
  replace gQ := grown_blk hg gQ (by omega)
  replace hB := bgrown hB hg (by omega)
  replace HX := hid (HX.out.grown hg hp1)
  replace hr2 := hr3
  clear hg hr3
  have hwz : IntKind.i64.wrap (1 + z) = 1 + z := by rw [IntKind.wrap_i64]; omega
  go_wp2_with fail
  refine hK.out _ _ ?_ (fun hHeld => ?_)
  · (go_split_ands; (repeat' apply And.intro) <;> (repeat (first | with_reducible assumption | exact (cell2f gQ).1 | exact (cell2f gQ).2.1 | with_reducible refine keepset ?_ (by dsimp only; omega))))
  clear hK K
  try simp only [sq]
  refine wpAnyH_take (i := 3) (v := ?_) rfl (by kernel_rfl) (by kernel_rfl) (by kernel_rfl) (fun _ _ _ h => h) (Or.inl ⟨by rfl, ?_⟩) hHeld ?_
  rotate_left
  · intro w hSw; (try dsimp only at hSw); go_simp; try (with_reducible rfl)
  try simp only [sq]
  refine wpAnyH_ready (rs := [8]) (by kernel_rfl) (by simp) ?_
  refine (AllReadyH.cons rfl (fun K hK => ?_) AllReadyH.nil)
  try simp only [sq]
  go_simp
  go_at_call 25
  refine (below_r _ p a len cap (now + 3) (by omega) (by omega) hr2).mono ?_
  rintro e yx ⟨x, rfl, hx0, hx1, hr3, hg⟩
  replace gR := grown_blk hg gR (by omega)
  replace gQ := grown_blk hg gQ (by omega)
  replace hB := bgrown hB hg (by omega)
  replace HX := hid (HX.out.grown hg hp1)
  replace hr2 := hr3
  clear hg hr3
  have hwx : IntKind.i64.wrap (x - 1) = x - 1 := by rw [IntKind.wrap_i64]; omega
  go_wp2_with fail
  refine hK.out _ _ ?_ (fun hHeld => ?_)
  · (go_split_ands; (repeat' apply And.intro) <;> (repeat (first | with_reducible assumption | exact (cell2f gQ).1 | exact (cell2f gQ).2.1 | with_reducible refine keepset ?_ (by dsimp only; omega))))
  clear hK K
  try simp only [sq]
  refine wpAnyH_take (i := 9) (v := ?_) rfl (by kernel_rfl) (by kernel_rfl) (by kernel_rfl) (fun _ _ _ h => h) (Or.inl ⟨by rfl, ?_⟩) hHeld ?_
  rotate_left
  · intro w hSw; (try dsimp only at hSw); go_simp; try (with_reducible rfl)
  try simp only [sq]
  refine wpAnyH_ready (rs := [10]) (by kernel_rfl) (by simp) ?_
  refine (AllReadyH.cons rfl (fun K hK => ?_) AllReadyH.nil)
  obtain ⟨_, _, s0, s1⟩ := cell2f gR
  try simp only [sq]
  go_simp
  refine hK.out _ _ ?_ (fun hHeld => ?_)
  · (go_split_ands; (repeat' apply And.intro) <;> (repeat (first | with_reducible assumption | exact (cell2f gQ).1 | exact (cell2f gQ).2.1 | with_reducible refine keepset ?_ (by dsimp only; omega))))
  clear hK K
  try simp only [sq]
  refine wpAnyH_take (i := 11) (v := ?_) rfl (by kernel_rfl) (by kernel_rfl) (by kernel_rfl) (fun _ _ _ h => h) (Or.inl ⟨by rfl, ?_⟩) hHeld ?_
  rotate_left
  · intro w hSw; (try dsimp only at hSw); go_simp; try (with_reducible rfl)
  try simp only [sq]
  refine wpAnyH_take (i := 12) (v := ?_) rfl (by kernel_rfl) (by kernel_rfl) (by kernel_rfl) (fun _ _ _ h => h) (Or.inl ⟨by rfl, ?_⟩) hHeld ?_
  rotate_left
  · intro w hSw; (try dsimp only at hSw); go_simp; try (with_reducible rfl)
  try simp only [sq]
  refine wpAnyH_done (by kernel_rfl) ?_ _
  clear q0 q1 hHeld s0 s1
  have gF := set2r gR (.int .i64 now) (.slice ra rs.length rc)
  have bF := bset (bset hB (q := w.heap.size) (k := 0) (Nat.le_refl _) (.int .i64 now)) (q := w.heap.size) (k := 1) (Nat.le_refl _) (.slice ra rs.length rc)
  have xF := (HX.out.frame (w' := (yx.setCell ⟨w.heap.size, 0, none⟩ (.int .i64 now)).setCell ⟨w.heap.size, 1, none⟩ (.slice ra rs.length rc)) (fun c c1 c2 => by rw [Below.heap_setCell _ _ _ _ (by dsimp only; omega), Below.heap_setCell _ _ _ _ (by dsimp only; omega)]) (by simp)).mono (base' := w.heap.size) (hi' := ((yx.setCell ⟨w.heap.size, 0, none⟩ (.int .i64 now)).setCell ⟨w.heap.size, 1, none⟩ (.slice ra rs.length rc)).heap.size) (by omega) (by have := HX.out.2.2.2.1; simpa using this) (Nat.le_refl _)
  have HF := hid xF
  clear xF HX
  go_wp2_with fail
  generalize (yx.setCell ⟨w.heap.size, 0, none⟩ (.int .i64 now)).setCell ⟨w.heap.size, 1, none⟩ (.slice ra rs.length rc) = wf at *
  obtain ⟨z0, z1, _, _⟩ := cell2f gF
  exact bodyPost_ret (v := .tuple #[.agg #[.int .i64 now, .slice ra rs.length rc], .int .i64 (1 + z), .int .i64 (x - 1)]) (by simp [results, Tryz.results19, go_sem, z0, z1]) rfl (DU.mk hn0 hn1 hl HF.out (by omega) (by omega) bF)
end Go.Proofs.YtfognoicnkphpaaGreat
