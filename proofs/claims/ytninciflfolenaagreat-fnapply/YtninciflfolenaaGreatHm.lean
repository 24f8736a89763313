/- Drawn rows, with drawn changes. -/
import Derived.Test.YtninciflfolenaaGreatHf
import Derived.Test.YtninciflfolenaaGreatJ16
namespace Go.Proofs.YtninciflfolenaaGreat
open Go.RowKit
set_option linter.unusedSimpArgs false
set_option linter.unusedVariables false
theorem Chs.setX {N : Nat → Prop} {M : Nat} {w : World} {a : Option Addr} {xs : List Ch} {R k : Nat} {u : Value} (h : Chs N M w a xs) (hR : ∀ b off, a = some ⟨b, off, none⟩ → b ≠ R) (hN : ∀ c, N c → c ≠ R) : Chs N M (w.setCell ⟨R, k, none⟩ u) a xs := by
  rcases h with h | ⟨b, o, e, hb, h⟩
  · exact .inl h
  · have hbR := hR b o e
    refine .inr ⟨b, o, e, by simpa using hb, fun j hj => (h j hj).blk (fun i _ => World.cell?_setCell_other _ _ _ _ (by intro q; injection q with q1 q2; exact hbR q1.symm)) (fun c hc => Below.heap_setCell _ _ _ _ (hN c hc)) (by simp)⟩
theorem Chs.wide {N N' : Nat → Prop} {M : Nat} {w : World} {a : Option Addr} {xs : List Ch} (h : Chs N M w a xs) (hn : ∀ c, N c → N' c) : Chs N' M w a xs := by
  rcases h with h | ⟨b, o, e, hb, h⟩
  · exact .inl h
  · refine .inr ⟨b, o, e, hb, fun j hj => ?_⟩
    obtain ⟨a', c', h0, h1, h2, h3, h4, h5, h6, h7⟩ := h j hj
    exact ⟨a', c', h0, h1, h2, h3, h4, h5, h6, fun c off q => hn c (h7 c off q)⟩
def DA (w : World) (e : Ending) (w' : World) : Prop := ∃ (now : Int) (ra : Option Addr) (rc : Nat) (rs : List Rw) (xs : List El) (cs : List Ch) (ca : Option Addr) (cc : Nat), e = .returned (.tuple #[.agg #[.int .i64 now, .slice ra rs.length rc], .slice ca cs.length cc]) ∧ (-1 ≤ now ∧ now ≤ 20) ∧ rs.length ≤ 301 ∧ cs.length ≤ 8 ∧ RowsX w.heap.size w'.heap.size w' (.slice ra rs.length rc) rs xs ∧ Chs (fun _ => True) 1099511627776 w' ca cs ∧ Below w.heap.size w w'
theorem DA.mk {w w' : World} {now : Int} {ra : Option Addr} {rc : Nat} {rs : List Rw} {xs : List El} {cs : List Ch} {ca : Option Addr} {cc : Nat} (h0 : -1 ≤ now) (h1 : now ≤ 20) (h2 : rs.length ≤ 301) (hk : cs.length ≤ 8) (h3 : RowsX w.heap.size w'.heap.size w' (.slice ra rs.length rc) rs xs) (h4 : Chs (fun _ => True) 1099511627776 w' ca cs) (h6 : Below w.heap.size w w') : DA w (.returned (.tuple #[.agg #[.int .i64 now, .slice ra rs.length rc], .slice ca cs.length cc])) w' := ⟨now, ra, rc, rs, xs, cs, ca, cc, rfl, ⟨h0, h1⟩, h2, hk, h3, h4, h6⟩
set_option maxRecDepth 100000 in
set_option maxHeartbeats 8000000 in
theorem draw_app (w : World) (a : Option Addr) (len cap : Nat) (hc : CodeAt w a len w.heap.size) : Calls Tryz.prog 5 #[.slice a len cap] w fun e w' => DA w e w' := by
  have hB : Below w.heap.size w (w.alloc (.cells #[.int .i64 0, .slice none 0 0] 26)) := balloc (Below.refl _ _) _
  have gR := heap_alloc_new w (.cells #[.int .i64 0, .slice none 0 0] 26)
  have hc0 : CodeAt (w.alloc (.cells #[.int .i64 0, .slice none 0 0] 26)) a len (w.alloc (.cells #[.int .i64 0, .slice none 0 0] 26)).heap.size := (hc.below hB).mono hB.size
  have hws : w.heap.size < (w.alloc (.cells #[.int .i64 0, .slice none 0 0] 26)).heap.size := by simp
  clear hc
  go_enter Tryz.func5, Tryz.ntmps5
  go_upto_region 1 with fail
  generalize w.alloc (.cells #[.int .i64 0, .slice none 0 0] 26) = W0 at *
  go_wp2_with fail
  refine (new_q _ a len cap hc0).mono ?_
  rintro e v1 ⟨p, rfl, hp0, hr, hold, hb0⟩
  replace gR := hold _ _ gR
  replace hB := btrans hB hb0
  have hp1 := hr.lt
  rw [hp0] at hws
  clear hold hb0 hc0 hp0
  go_wp2_with fail
  refine (rows_r _ p a len cap hr).mono ?_
  rintro e v2 hdr
  obtain ⟨now, v, rs, xs, rfl, ⟨hn0, hn1⟩, hl, hX, hr2, hg⟩ := hdr
  obtain ⟨ra, rc, ev⟩ := kept_form hX
  subst ev
  replace gR := grown_blk hg gR (by omega)
  replace hB := bgrown hB hg (by omega)
  have hv := hg.size
  clear hr hg
  go_upto_region 3 with fail
  have gQ := heap_alloc_new v2 (.cells #[.int .i64 now, .slice ra rs.length rc] 26)
  have hal : Below v2.heap.size v2 (v2.alloc (.cells #[.int .i64 now, .slice ra rs.length rc] 26)) := balloc (Below.refl _ _) _
  replace gR := keepheap2 hal gR
  replace hB := btrans hB hal
  have HX := hid (hX.below hal)
  replace hr2 := hr2.alloc (.cells #[.int .i64 now, .slice ra rs.length rc] 26)
  clear hal hX
  generalize v2.alloc (.cells #[.int .i64 now, .slice ra rs.length rc] 26) = V at *
  have hQp : p < v2.heap.size := by omega
  generalize v2.heap.size = Q at *
  obtain ⟨q0, q1, _, _⟩ := cell2f gQ
  refine wp_region_held_drew (S := (fun w' => w'.cell? ⟨Q, 0, none⟩ = some (.int .i64 now) ∧ w'.cell? ⟨Q, 1, none⟩ = some (.slice ra rs.length rc))) (by kernel_rfl) ?_ (fun hHeld => ?_)
  · (repeat' apply And.intro) <;> (first | exact q0 | exact q1 | with_reducible assumption)
  have hdw : Below V.heap.size V V.drew := bdrew (Below.refl _ _)
  replace gR := keepheap2 hdw gR
  replace gQ := keepheap2 hdw gQ
  replace hB := btrans hB hdw
  replace HX := hid (HX.out.below hdw)
  replace hr2 := hr2.bel hdw
  clear hdw
  generalize V.drew = V0 at *
  refine wpAnyH_take (i := 0) (v := ?_) rfl (by kernel_rfl) (by kernel_rfl) (by kernel_rfl) (fun _ _ _ h => h) (Or.inl ⟨by rfl, ?_⟩) hHeld ?_
  rotate_left
  · intro w hSw; (try dsimp only at hSw); go_simp; try (with_reducible rfl)
  try simp only [sq]
  refine wpAnyH_take (i := 1) (v := ?_) rfl (by kernel_rfl) (by kernel_rfl) (by kernel_rfl) (fun _ _ _ h => h) (Or.inl ⟨by rfl, ?_⟩) hHeld ?_
  rotate_left
  · intro w hSw; (try dsimp only at hSw); go_simp; try (with_reducible rfl)
  try simp only [sq]
  refine wpAnyH_take (i := 2) (v := ?_) rfl (by kernel_rfl) (by kernel_rfl) (by kernel_rfl) (fun _ _ _ h => h) (Or.inl ⟨by rfl, ?_⟩) hHeld ?_
  rotate_left
  · intro w hSw; (try dsimp only at hSw); go_simp; try (with_reducible rfl)
  try simp only [sq]
  refine wpAnyH_ready (rs := [3]) (by kernel_rfl) (by simp) ?_
  refine (AllReadyH.cons rfl (fun K hK => ?_) AllReadyH.nil)
  try simp only [sq]
  go_simp
  go_at_call 18
  refine (below_r _ p a len cap 4 (by omega) (by omega) hr2).mono ?_
  rintro e y1 ⟨x, rfl, hx0, hx1, hr3, hg⟩
  replace gR := grown_blk hg gR (by omega)
  replace gQ := grown_blk hg gQ (by omega)
  replace hB := bgrown hB hg (by omega)
  replace HX := hid (HX.out.grown hg hp1)
  replace hr2 := hr3
  clear hg hr3
  obtain ⟨k, rfl⟩ := Int.eq_ofNat_of_zero_le hx0
  have hk8 : k ≤ 8 := by omega
  go_wp2_with fail
  refine hK.out _ _ ?_ (fun hHeld => ?_)
  · (go_split_ands; (repeat' apply And.intro) <;> (repeat (first | with_reducible assumption | exact (cell2f gQ).1 | exact (cell2f gQ).2.1 | with_reducible refine keepset ?_ (by dsimp only; omega))))
  clear hK K
  try simp only [sq]
  refine wpAnyH_ready (rs := [4]) (by kernel_rfl) (by simp) ?_
  refine (AllReadyH.cons rfl (fun K hK => ?_) AllReadyH.nil)
  try simp only [sq]
  go_simp
  go_at_call 17
  have hyw : p < y1.heap.size := hr2.lt
  refine (changes_r _ p a len cap k hk8 hr2).mono ?_
  rintro e y2 ⟨cs, ca, cc, rfl, hcl, hch, hcb, hr3, hg⟩
  replace gR := grown_blk hg gR (by omega)
  replace gQ := grown_blk hg gQ (by omega)
  replace hB := bgrown hB hg (by omega)
  replace HX := hid (HX.out.grown hg hp1)
  replace hr2 := hr3
  have HCH := hid hch
  have HCB := hid hcb
  clear hg hr3 hch hcb
  go_wp2_with fail
  refine hK.out _ _ ?_ (fun hHeld => ?_)
  · (go_split_ands; (repeat' apply And.intro) <;> (repeat (first | with_reducible assumption | exact (cell2f gQ).1 | exact (cell2f gQ).2.1 | with_reducible refine keepset ?_ (by dsimp only; omega))))
  clear hK K
  try simp only [sq]
  refine wpAnyH_ready (rs := [5]) (by kernel_rfl) (by simp) ?_
  refine (AllReadyH.cons rfl (fun K hK => ?_) AllReadyH.nil)
  obtain ⟨_, _, s0, s1⟩ := cell2f gR
  try simp only [sq]
  go_simp
  refine hK.out _ _ ?_ (fun hHeld => ?_)
  · (go_split_ands; (repeat' apply And.intro) <;> (repeat (first | with_reducible assumption | exact (cell2f gQ).1 | exact (cell2f gQ).2.1 | with_reducible refine keepset ?_ (by dsimp only; omega))))
  clear hK K
  try simp only [sq]
  refine wpAnyH_take (i := 6) (v := ?_) rfl (by kernel_rfl) (by kernel_rfl) (by kernel_rfl) (fun _ _ _ h => h) (Or.inl ⟨by rfl, ?_⟩) hHeld ?_
  rotate_left
  · intro w hSw; (try dsimp only at hSw); go_simp; try (with_reducible rfl)
  try simp only [sq]
  refine wpAnyH_done (by kernel_rfl) ?_ _
  clear q0 q1 hHeld s0 s1
  have gF := set2r gR (.int .i64 now) (.slice ra rs.length rc)
  have bF := bset (bset hB (q := w.heap.size) (k := 0) (Nat.le_refl _) (.int .i64 now)) (q := w.heap.size) (k := 1) (Nat.le_refl _) (.slice ra rs.length rc)
  have xF := (HX.out.frame (w' := (y2.setCell ⟨w.heap.size, 0, none⟩ (.int .i64 now)).setCell ⟨w.heap.size, 1, none⟩ (.slice ra rs.length rc)) (fun c c1 c2 => by rw [Below.heap_setCell _ _ _ _ (by dsimp only; omega), Below.heap_setCell _ _ _ _ (by dsimp only; omega)]) (by simp)).mono (base' := w.heap.size) (hi' := ((y2.setCell ⟨w.heap.size, 0, none⟩ (.int .i64 now)).setCell ⟨w.heap.size, 1, none⟩ (.slice ra rs.length rc)).heap.size) (by omega) (by have := HX.out.2.2.2.1; simpa using this) (Nat.le_refl _)
  have cF : Chs (fun _ => True) 1099511627776 ((y2.setCell ⟨w.heap.size, 0, none⟩ (.int .i64 now)).setCell ⟨w.heap.size, 1, none⟩ (.slice ra rs.length rc)) ca cs := (Chs.setX (Chs.setX HCH.out (fun b off e => by have := HCB.out b off e; omega) (fun c hc => by omega)) (fun b off e => by have := HCB.out b off e; omega) (fun c hc => by omega)).wide (fun _ _ => trivial)
  have HF := hid xF
  have HCF := hid cF
  clear xF HX cF HCH HCB
  go_wp2_with fail
  generalize (y2.setCell ⟨w.heap.size, 0, none⟩ (.int .i64 now)).setCell ⟨w.heap.size, 1, none⟩ (.slice ra rs.length rc) = wf at *
  obtain ⟨z0, z1, _, _⟩ := cell2f gF
  exact bodyPost_ret (v := .tuple #[.agg #[.int .i64 now, .slice ra rs.length rc], .slice ca cs.length cc]) (by simp [results, Tryz.results5, go_sem, z0, z1]) rfl (DA.mk hn0 hn1 hl (by omega) HF.out HCF.out bF)
end Go.Proofs.YtninciflfolenaaGreat
