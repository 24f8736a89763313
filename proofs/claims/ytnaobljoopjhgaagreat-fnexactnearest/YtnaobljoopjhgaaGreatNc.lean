/- The heap of candidates: container/heap over it. -/
import Derived.Test.YtnaobljoopjhgaaGreatNb
namespace Go.Proofs.YtnaobljoopjhgaaGreat
open Go.RowKit
set_option linter.unusedSimpArgs false
set_option linter.unusedVariables false
abbrev hI (nb : Nat) : Value := .iface 87 (.pointer (some ⟨nb, 0, none⟩))
theorem rec_len (w : World) (nb : Nat) : Sem.run Tryz.prog (receiverAt 87 (.val (.pointer (some ⟨nb, 0, none⟩))) false (some "Len")) w = Sem.run Tryz.prog (loadVar 58 ⟨nb, 0, none⟩) w := by kernel_rfl
theorem rec_less (w : World) (nb : Nat) : Sem.run Tryz.prog (receiverAt 87 (.val (.pointer (some ⟨nb, 0, none⟩))) false (some "Less")) w = Sem.run Tryz.prog (loadVar 58 ⟨nb, 0, none⟩) w := by kernel_rfl
theorem rec_swap (w : World) (nb : Nat) : Sem.run Tryz.prog (receiverAt 87 (.val (.pointer (some ⟨nb, 0, none⟩))) false (some "Swap")) w = Sem.run Tryz.prog (loadVar 58 ⟨nb, 0, none⟩) w := by kernel_rfl
theorem load_nb (w : World) (nb : Nat) (x : Value) (h : w.cell? ⟨nb, 0, none⟩ = some x) : Sem.run Tryz.prog (loadVar 58 ⟨nb, 0, none⟩) w = .ok x w := by
  simp [loadVar, go_sem, h]
theorem mth_len (n nb : Nat) (w : World) : Sem.run Tryz.prog (method (n + 1) 87 (.pointer (some ⟨nb, 0, none⟩)) "Len") w = Sem.run Tryz.prog (do let r ← receiverAt 87 (.val (.pointer (some ⟨nb, 0, none⟩))) false (some "Len"); pure (27, r)) w := by kernel_rfl
theorem me_len (n nb : Nat) (v : Value) (w : World) (h : w.cell? ⟨nb, 0, none⟩ = some v) : Sem.run Tryz.prog (method (n + 1) 87 (.pointer (some ⟨nb, 0, none⟩)) "Len") w = .ok (27, v) w := by
  rw [mth_len, Sem.run_bind, rec_len, load_nb w nb v h]
  rfl
theorem mth_less (n nb : Nat) (w : World) : Sem.run Tryz.prog (method (n + 1) 87 (.pointer (some ⟨nb, 0, none⟩)) "Less") w = Sem.run Tryz.prog (do let r ← receiverAt 87 (.val (.pointer (some ⟨nb, 0, none⟩))) false (some "Less"); pure (129, r)) w := by kernel_rfl
theorem me_less (n nb : Nat) (v : Value) (w : World) (h : w.cell? ⟨nb, 0, none⟩ = some v) : Sem.run Tryz.prog (method (n + 1) 87 (.pointer (some ⟨nb, 0, none⟩)) "Less") w = .ok (129, v) w := by
  rw [mth_less, Sem.run_bind, rec_less, load_nb w nb v h]
  rfl
theorem mth_swap (n nb : Nat) (w : World) : Sem.run Tryz.prog (method (n + 1) 87 (.pointer (some ⟨nb, 0, none⟩)) "Swap") w = Sem.run Tryz.prog (do let r ← receiverAt 87 (.val (.pointer (some ⟨nb, 0, none⟩))) false (some "Swap"); pure (130, r)) w := by kernel_rfl
theorem me_swap (n nb : Nat) (v : Value) (w : World) (h : w.cell? ⟨nb, 0, none⟩ = some v) : Sem.run Tryz.prog (method (n + 1) 87 (.pointer (some ⟨nb, 0, none⟩)) "Swap") w = .ok (130, v) w := by
  rw [mth_swap, Sem.run_bind, rec_swap, load_nb w nb v h]
  rfl
theorem me_push (n nb : Nat) (w : World) : Sem.run Tryz.prog (method (n + 1) 87 (.pointer (some ⟨nb, 0, none⟩)) "Push") w = .ok (132, .pointer (some ⟨nb, 0, none⟩)) w := by kernel_rfl
theorem me_pop (n nb : Nat) (w : World) : Sem.run Tryz.prog (method (n + 1) 87 (.pointer (some ⟨nb, 0, none⟩)) "Pop") w = .ok (131, .pointer (some ⟨nb, 0, none⟩)) w := by kernel_rfl
theorem na_len (n nb : Nat) (w : World) : Sem.run Tryz.prog (nilAhead (n + 1) 87 (.pointer (some ⟨nb, 0, none⟩)) "Len") w = .ok (some false) w := by kernel_rfl
theorem na_less (n nb : Nat) (w : World) : Sem.run Tryz.prog (nilAhead (n + 1) 87 (.pointer (some ⟨nb, 0, none⟩)) "Less") w = .ok (some false) w := by kernel_rfl
theorem na_swap (n nb : Nat) (w : World) : Sem.run Tryz.prog (nilAhead (n + 1) 87 (.pointer (some ⟨nb, 0, none⟩)) "Swap") w = .ok (some false) w := by kernel_rfl
theorem na_push (n nb : Nat) (w : World) : Sem.run Tryz.prog (nilAhead (n + 1) 87 (.pointer (some ⟨nb, 0, none⟩)) "Push") w = .ok (some false) w := by kernel_rfl
theorem na_pop (n nb : Nat) (w : World) : Sem.run Tryz.prog (nilAhead (n + 1) 87 (.pointer (some ⟨nb, 0, none⟩)) "Pop") w = .ok (some false) w := by kernel_rfl
theorem ta_cn (v : Value) (w : World) : (Instr.typeAssert (.iface 90 v) 20 90 false).run Tryz.prog w = .ok v w := by kernel_rfl
theorem own_frameN {w w' : World} {B : Nat} {e : TypeId} {sz : Nat} {v : Value} {n : Nat} {xs : List Value} (h : w.ownsRow B e sz v n xs) (hb : ∀ g, v.ownBlock = some g → w'.heap[g]? = w.heap[g]?) : w'.ownsRow B e sz v n xs := by
  refine ⟨h.1, ?_⟩
  rcases h.2 with q | ⟨g, c, cur, rfl, q1, q2, q3⟩
  · exact .inl q
  · exact .inr ⟨g, c, cur, rfl, q1, by rw [hb g rfl]; exact q2, q3⟩
set_option maxRecDepth 100000 in
set_option maxHeartbeats 2000000 in
theorem push_0 (B nb : Nat) (hs : List Cn) (x1 x2 : Int) (w : World) (hn : hs.length ≤ 1000000) (h : NH B nb hs w) : Calls Tryz.prog 132 #[.pointer (some ⟨nb, 0, none⟩), .iface 90 (.agg #[.int .i64 x1, .int .i64 x2])] w fun e w' => e = .returned (.tuple #[]) ∧ NH B nb (hs ++ [(x1, x2)]) w' ∧ Below B w w' ∧ OK9 nb w w' := by
  obtain ⟨i0, hi0, hz0, hz1, hz2⟩ := info_parts Tryz.infoCn
  obtain ⟨g, c, hb, hown, hB⟩ := h
  obtain ⟨hBg, hnc, ho⟩ := own_cn hown rfl
  obtain ⟨cur, fz, hk⟩ := own_kind hown
  have hgn : nb ≠ g := by
    intro e
    subst e
    rw [hb] at hk
    injection hk with hk
    injection hk with _ hk _
    exact absurd hk (by decide)
  have hgl := lt_of_block hk
  have hnl := lt_of_block hb
  have tac := ta_cn
  have HFIN : Hid (∀ gg cq w2, w2.ownsRow B 90 2 (.slice (some ⟨gg, 0, none⟩) (hs.length + 1) cq) (hs.length + 1) (fl2 hs ++ fl2 [(x1, x2)]) → (w.drew.alloc (.cells #[.int .i64 x1, .int .i64 x2] 90)).grownBy w2 (some g) → (gg = g ∨ gg = w.heap.size + 1) → gg < w2.heap.size → w2.heap[nb]? = some (.cells #[.slice (some ⟨g, 0, none⟩) hs.length c] 58 (0, 0)) ∧ NH B nb (hs ++ [(x1, x2)]) (w2.setCell ⟨nb, 0, none⟩ (.slice (some ⟨gg, 0, none⟩) (hs.length + 1) cq)) ∧ Below B w (w2.setCell ⟨nb, 0, none⟩ (.slice (some ⟨gg, 0, none⟩) (hs.length + 1) cq)) ∧ OK9 nb w (w2.setCell ⟨nb, 0, none⟩ (.slice (some ⟨gg, 0, none⟩) (hs.length + 1) cq))) := hid (fun gg cq w2 h1 h2 h3 h4 => by
    have hb1 : (w.drew.alloc (.cells #[.int .i64 x1, .int .i64 x2] 90)).heap[nb]? = some (.cells #[.slice (some ⟨g, 0, none⟩) hs.length c] 58 (0, 0)) := old_alloc (show w.drew.heap[nb]? = _ from hb)
    have hb2 := grown_blk h2 hb1 hgn
    have hgn2 : nb ≠ gg := by omega
    have e : fl2 (hs ++ [(x1, x2)]) = fl2 hs ++ fl2 [(x1, x2)] := by simp [fl2]
    have hbl : Below B w w2 := Below.grown (show Below B w (w.drew.alloc (.cells #[.int .i64 x1, .int .i64 x2] 90)) from (⟨rfl, rfl, rfl, by simp, fun k hk => Below.heap_alloc w.drew _ k (by show k < w.heap.size; omega)⟩)) h2 (by simp; show B ≤ w.heap.size + 1; omega) (fun k e => by cases e; exact hBg)
    refine ⟨hb2, ⟨gg, cq, ?_, ?_, hB⟩, ?_, ?_⟩
    · rw [List.length_append]
      exact set_at hb2
    · rw [List.length_append, e]
      exact own_frameN h1 (fun d hd => by simp [Value.ownBlock] at hd; subst hd; exact Below.heap_setCell _ _ _ _ (by dsimp only; omega))
    · exact hbl.setCell (p := ⟨nb, 0, none⟩) hB _
    · refine Lib.OthersKept.setCell ?_ ⟨nb, 0, none⟩ rfl _
      refine Lib.OthersKept.grown (Lib.OthersKept.alloc (Lib.OthersKept.drew (Lib.OthersKept.refl _ _ w)) _) h2 (fun d hd => ?_)
      cases hd
      exact ⟨cur, fz, old_alloc (show w.drew.heap[g]? = _ from hk)⟩)
  have HO := hid hown
  obtain ⟨k0, k1⟩ := cell1n hb
  have hBw : B ≤ w.heap.size := by omega
  generalize hs.length = n at *
  clear hown ho hk hb hgn
  go_enter Tryz.func132, Tryz.ntmps132
  go_wp2_with fail
  refine wp_region_held_drew (S := (fun _ => True)) (by kernel_rfl) ?_ (fun hHeld => ?_)
  · trivial
  refine wpAnyH_take (i := 0) (v := ?_) rfl (by kernel_rfl) (by kernel_rfl) (by kernel_rfl) (fun _ _ _ h => h) (Or.inl ⟨by rfl, ?_⟩) hHeld ?_
  rotate_left
  · intro w hSw; (try dsimp only at hSw); go_simp; try (with_reducible rfl)
  try simp only [sq]
  refine wpAnyH_take (i := 1) (v := ?_) rfl (by kernel_rfl) (by kernel_rfl) (by kernel_rfl) (fun _ _ _ h => h) (Or.inl ⟨by rfl, ?_⟩) hHeld ?_
  rotate_left
  · intro w hSw; (try dsimp only at hSw); go_simp; try (with_reducible rfl)
  try simp only [sq]
  refine wpAnyH_take (i := 2) (v := ?_) rfl (by kernel_rfl) (by kernel_rfl) (by kernel_rfl) (fun _ _ _ h => h) (Or.inl ⟨by rfl, ?_⟩) hHeld ?_
  rotate_left
  · intro w hSw; (try dsimp only at hSw); go_simp; try (with_reducible rfl)
  try simp only [sq]
  refine wpAnyH_take (i := 4) (v := ?_) rfl (by kernel_rfl) (by kernel_rfl) (by kernel_rfl) (fun _ _ _ h => h) (Or.inl ⟨by rfl, ?_⟩) hHeld ?_
  rotate_left
  · intro w hSw; (try dsimp only at hSw); go_simp; try (with_reducible rfl)
  try simp only [sq]
  refine wpAnyH_ready (rs := [3, 5]) (by kernel_rfl) (by simp) ?_
  refine (AllReadyH.cons rfl (fun K hK => ?_) (AllReadyH.cons rfl (fun K hK => ?_) AllReadyH.nil))
  · skip
    try simp only [sq]
    go_simp
    refine hK.out _ _ trivial (fun hHeld => ?_)
    clear hK K
    try simp only [sq]
    refine wpAnyH_ready (rs := [5]) (by kernel_rfl) (by simp) ?_
    refine (AllReadyH.cons rfl (fun K hK => ?_) AllReadyH.nil)
    try simp only [sq]
    go_simp
    refine hK.out _ _ trivial (fun hHeld => ?_)
    clear hK K
    try simp only [sq]
    refine wpAnyH_ready (rs := [6]) (by kernel_rfl) (by simp) ?_
    refine (AllReadyH.cons rfl (fun K hK => ?_) AllReadyH.nil)
    try simp only [sq]
    go_simp
    refine hK.out _ _ trivial (fun hHeld => ?_)
    clear hK K
    try simp only [sq]
    have k0a := keepalloc k0 (.cells #[.int .i64 x1, .int .i64 x2] 90)
    refine wpAnyH_ready (rs := [7]) (by kernel_rfl) (by simp) ?_
    refine (AllReadyH.cons rfl (fun K hK => ?_) AllReadyH.nil)
    refine step_append_lies _ (by rfl) _ _ _ (by rfl) B 90 i0 _ 2 16 Tryz.underlying58 hi0 hz0 hz1 hz2 rfl (by omega) _ n (fl2 hs) (by rfl) ((HO.out.drew).alloc _) ⟨w.heap.size, 0, none⟩ 1 1 (fl2 [(x1, x2)]) (by rfl) (by rfl) (World.news_of_block (cs := #[.int .i64 x1, .int .i64 x2]) (t := 90) (fr := (0, 0)) (heap_alloc_new w.drew _)) (by simp [fl2, Value.oneCell']) (by omega) (by unfold maxLen; omega) (by omega) (by first | (simp; done) | (simp; show B ≤ w.heap.size + 1; omega) | (simp; omega)) (w.heap.size + 1) (by first | (simp; done) | (simp; rfl)) ?_
    intro gg cq w2 hown2 hgrow hat hlt2
    obtain ⟨hnb2, HF2⟩ := HFIN.out gg cq w2 hown2 hgrow (hat.elim (fun h => .inl (by simp [Value.ownBlock] at h; exact h.symm)) .inr) hlt2
    obtain ⟨m0, m1⟩ := cell1n hnb2
    clear hown2 hgrow hat
    refine hK.out _ _ trivial (fun hHeld => ?_)
    clear hK K
    try simp only [sq]
    refine wpAnyH_take (i := 8) (v := ?_) rfl (by kernel_rfl) (by kernel_rfl) (by kernel_rfl) (fun _ _ _ h => h) (Or.inl ⟨by rfl, ?_⟩) hHeld ?_
    rotate_left
    · intro w hSw; (try dsimp only at hSw); go_simp; try (with_reducible rfl)
    try simp only [sq]
    refine wpAnyH_ready (rs := [9]) (by kernel_rfl) (by simp) ?_
    refine (AllReadyH.cons rfl (fun K hK => ?_) AllReadyH.nil)
    try simp only [sq]
    go_simp
    refine hK.out _ _ trivial (fun hHeld => ?_)
    clear hK K
    try simp only [sq]
    refine wpAnyH_done (by kernel_rfl) ?_ _
    go_wp2_with fail
    go_end0
    exact ⟨rfl, HF2⟩
  · skip
    try simp only [sq]
    go_simp
    refine hK.out _ _ trivial (fun hHeld => ?_)
    clear hK K
    try simp only [sq]
    refine wpAnyH_ready (rs := [3, 6]) (by kernel_rfl) (by simp) ?_
    refine (AllReadyH.cons rfl (fun K hK => ?_) (AllReadyH.cons rfl (fun K hK => ?_) AllReadyH.nil))
    · skip
      try simp only [sq]
      go_simp
      refine hK.out _ _ trivial (fun hHeld => ?_)
      clear hK K
      try simp only [sq]
      refine wpAnyH_ready (rs := [6]) (by kernel_rfl) (by simp) ?_
      refine (AllReadyH.cons rfl (fun K hK => ?_) AllReadyH.nil)
      try simp only [sq]
      go_simp
      refine hK.out _ _ trivial (fun hHeld => ?_)
      clear hK K
      try simp only [sq]
      have k0a := keepalloc k0 (.cells #[.int .i64 x1, .int .i64 x2] 90)
      refine wpAnyH_ready (rs := [7]) (by kernel_rfl) (by simp) ?_
      refine (AllReadyH.cons rfl (fun K hK => ?_) AllReadyH.nil)
      refine step_append_lies _ (by rfl) _ _ _ (by rfl) B 90 i0 _ 2 16 Tryz.underlying58 hi0 hz0 hz1 hz2 rfl (by omega) _ n (fl2 hs) (by rfl) ((HO.out.drew).alloc _) ⟨w.heap.size, 0, none⟩ 1 1 (fl2 [(x1, x2)]) (by rfl) (by rfl) (World.news_of_block (cs := #[.int .i64 x1, .int .i64 x2]) (t := 90) (fr := (0, 0)) (heap_alloc_new w.drew _)) (by simp [fl2, Value.oneCell']) (by omega) (by unfold maxLen; omega) (by omega) (by first | (simp; done) | (simp; show B ≤ w.heap.size + 1; omega) | (simp; omega)) (w.heap.size + 1) (by first | (simp; done) | (simp; rfl)) ?_
      intro gg cq w2 hown2 hgrow hat hlt2
      obtain ⟨hnb2, HF2⟩ := HFIN.out gg cq w2 hown2 hgrow (hat.elim (fun h => .inl (by simp [Value.ownBlock] at h; exact h.symm)) .inr) hlt2
      obtain ⟨m0, m1⟩ := cell1n hnb2
      clear hown2 hgrow hat
      refine hK.out _ _ trivial (fun hHeld => ?_)
      clear hK K
      try simp only [sq]
      refine wpAnyH_take (i := 8) (v := ?_) rfl (by kernel_rfl) (by kernel_rfl) (by kernel_rfl) (fun _ _ _ h => h) (Or.inl ⟨by rfl, ?_⟩) hHeld ?_
      rotate_left
      · intro w hSw; (try dsimp only at hSw); go_simp; try (with_reducible rfl)
      try simp only [sq]
      refine wpAnyH_ready (rs := [9]) (by kernel_rfl) (by simp) ?_
      refine (AllReadyH.cons rfl (fun K hK => ?_) AllReadyH.nil)
      try simp only [sq]
      go_simp
      refine hK.out _ _ trivial (fun hHeld => ?_)
      clear hK K
      try simp only [sq]
      refine wpAnyH_done (by kernel_rfl) ?_ _
      go_wp2_with fail
      go_end0
      exact ⟨rfl, HF2⟩
    · skip
      try simp only [sq]
      go_simp
      refine hK.out _ _ trivial (fun hHeld => ?_)
      clear hK K
      try simp only [sq]
      have k0a := keepalloc k0 (.cells #[.int .i64 x1, .int .i64 x2] 90)
      refine wpAnyH_ready (rs := [3]) (by kernel_rfl) (by simp) ?_
      refine (AllReadyH.cons rfl (fun K hK => ?_) AllReadyH.nil)
      try simp only [sq]
      go_simp
      refine hK.out _ _ trivial (fun hHeld => ?_)
      clear hK K
      try simp only [sq]
      refine wpAnyH_ready (rs := [7]) (by kernel_rfl) (by simp) ?_
      refine (AllReadyH.cons rfl (fun K hK => ?_) AllReadyH.nil)
      refine step_append_lies _ (by rfl) _ _ _ (by rfl) B 90 i0 _ 2 16 Tryz.underlying58 hi0 hz0 hz1 hz2 rfl (by omega) _ n (fl2 hs) (by rfl) ((HO.out.drew).alloc _) ⟨w.heap.size, 0, none⟩ 1 1 (fl2 [(x1, x2)]) (by rfl) (by rfl) (World.news_of_block (cs := #[.int .i64 x1, .int .i64 x2]) (t := 90) (fr := (0, 0)) (heap_alloc_new w.drew _)) (by simp [fl2, Value.oneCell']) (by omega) (by unfold maxLen; omega) (by omega) (by first | (simp; done) | (simp; show B ≤ w.heap.size + 1; omega) | (simp; omega)) (w.heap.size + 1) (by first | (simp; done) | (simp; rfl)) ?_
      intro gg cq w2 hown2 hgrow hat hlt2
      obtain ⟨hnb2, HF2⟩ := HFIN.out gg cq w2 hown2 hgrow (hat.elim (fun h => .inl (by simp [Value.ownBlock] at h; exact h.symm)) .inr) hlt2
      obtain ⟨m0, m1⟩ := cell1n hnb2
      clear hown2 hgrow hat
      refine hK.out _ _ trivial (fun hHeld => ?_)
      clear hK K
      try simp only [sq]
      refine wpAnyH_take (i := 8) (v := ?_) rfl (by kernel_rfl) (by kernel_rfl) (by kernel_rfl) (fun _ _ _ h => h) (Or.inl ⟨by rfl, ?_⟩) hHeld ?_
      rotate_left
      · intro w hSw; (try dsimp only at hSw); go_simp; try (with_reducible rfl)
      try simp only [sq]
      refine wpAnyH_ready (rs := [9]) (by kernel_rfl) (by simp) ?_
      refine (AllReadyH.cons rfl (fun K hK => ?_) AllReadyH.nil)
      try simp only [sq]
      go_simp
      refine hK.out _ _ trivial (fun hHeld => ?_)
      clear hK K
      try simp only [sq]
      refine wpAnyH_done (by kernel_rfl) ?_ _
      go_wp2_with fail
      go_end0
      exact ⟨rfl, HF2⟩
theorem own_init {w : World} {B g c : Nat} {hs : List Cn} {x : Cn} (h : w.ownsRow B 90 2 (.slice (some ⟨g, 0, none⟩) (hs ++ [x]).length c) (hs ++ [x]).length (fl2 (hs ++ [x]))) : w.ownsRow B 90 2 (.slice (some ⟨g, 0, none⟩) hs.length c) hs.length (fl2 hs) := by
  refine ⟨by rw [fl2_len], ?_⟩
  rcases h.2 with ⟨q, _⟩ | ⟨g', c', cur, e, q1, q2, q3, q4, q5, q6⟩
  · cases q
  · cases e
    refine .inr ⟨g, c, cur, rfl, q1, q2, by (have := q3; simp at this; omega), q4, q5, ?_⟩
    have h2 := congrArg (List.take (hs.length * 2)) q6
    rw [List.take_take, show min (hs.length * 2) ((hs ++ [x]).length * 2) = hs.length * 2 by simp <;> omega] at h2
    rw [h2, show fl2 (hs ++ [x]) = fl2 hs ++ fl2 [x] by simp [fl2], ← fl2_len hs, List.take_left]
set_option maxRecDepth 100000 in
set_option maxHeartbeats 2000000 in
theorem pop_0 (B nb : Nat) (hs : List Cn) (x : Cn) (w : World) (hn : hs.length ≤ 1000000) (h : NH B nb (hs ++ [x]) w) : Calls Tryz.prog 131 #[.pointer (some ⟨nb, 0, none⟩)] w fun e w' => e = .returned (.iface 90 (.agg #[.int .i64 x.1, .int .i64 x.2])) ∧ NH B nb hs w' ∧ Below B w w' ∧ OK9 nb w w' := by
  obtain ⟨g, c, hb, hown, hB⟩ := h
  obtain ⟨hBg, hnc, ho⟩ := own_cn hown rfl
  obtain ⟨cur, fz, hk⟩ := own_kind hown
  have hgn : nb ≠ g := by
    intro e
    subst e
    rw [hb] at hk
    injection hk with hk
    injection hk with _ hk _
    exact absurd hk (by decide)
  have hgl := lt_of_block hk
  have hnl := lt_of_block hb
  obtain ⟨a1, a2⟩ := ho.2.1 hs.length (by simp)
  have ex : (hs ++ [x]).getD hs.length (0, 0) = x := by simp
  rw [ex] at a1 a2
  simp only [Nat.zero_add] at a1 a2
  have HI := hid (own_init hown)
  have HB := hid hb
  rw [show (hs ++ [x]).length = hs.length + 1 by simp] at hb hnc
  have HFIN : Hid (∀ o : Obj, NH B nb hs ((w.setCell ⟨nb, 0, none⟩ (.slice (some ⟨g, 0, none⟩) hs.length c)).alloc o) ∧ Below B w ((w.setCell ⟨nb, 0, none⟩ (.slice (some ⟨g, 0, none⟩) hs.length c)).alloc o) ∧ OK9 nb w ((w.setCell ⟨nb, 0, none⟩ (.slice (some ⟨g, 0, none⟩) hs.length c)).alloc o)) := hid (fun o => by
    have hs1 : (w.setCell ⟨nb, 0, none⟩ (.slice (some ⟨g, 0, none⟩) hs.length c)).heap.size = w.heap.size := by simp
    refine ⟨⟨g, c, old_alloc (set_at HB.out), own_frameN HI.out (fun d hd => by simp [Value.ownBlock] at hd; subst hd; rw [Below.heap_alloc _ o _ (by rw [hs1]; exact hgl)]; exact Below.heap_setCell _ _ _ _ (by dsimp only; omega)), hB⟩, ?_, ?_⟩
    · exact ((Below.refl B w).setCell (p := ⟨nb, 0, none⟩) hB _).alloc (by rw [hs1]; omega) o
    · exact Lib.OthersKept.alloc (Lib.OthersKept.setCell (Lib.OthersKept.refl _ _ w) ⟨nb, 0, none⟩ rfl _) _)
  obtain ⟨k0, k1⟩ := cell1n hb
  obtain ⟨x1, x2⟩ := x
  simp only at a1 a2
  generalize hs.length = n at *
  clear hown ho hk hb ex HI HB
  have hw1 : IntKind.i64.wrap (((n + 1 : Nat) : Int) - 1) = (n : Int) := by rw [IntWalk.i64_in _ ⟨by omega, by omega⟩]; omega
  have hw2 : IntKind.i64.wrap ((n : Int) + 1 - 1) = (n : Int) := by rw [IntWalk.i64_in _ ⟨by omega, by omega⟩]; omega
  have c0 : (0 : Int) ≤ (n : Int) := by omega
  have c1 : (n : Int) < ((n + 1 : Nat) : Int) := by omega
  have c2 : (n : Int) < (n : Int) + 1 := by omega
  go_enter Tryz.func131, Tryz.ntmps131
  go_wp2_with fail
  go_ret
  exact ⟨rfl, HFIN.out _⟩
end Go.Proofs.YtnaobljoopjhgaaGreat
