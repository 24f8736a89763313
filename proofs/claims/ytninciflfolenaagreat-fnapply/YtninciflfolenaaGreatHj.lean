/- Moments that are alike are told so. -/
import Derived.Test.YtninciflfolenaaGreatHh
namespace Go.Proofs.YtninciflfolenaaGreat
open Go.RowKit
set_option linter.unusedSimpArgs false
set_option linter.unusedVariables false
theorem pts_setX {w : World} {a : Option Addr} {ps : List (Int × Int)} {X k : Nat} {u : Value} (h : Pts w a ps) (hne : ∀ b off, a = some ⟨b, off, none⟩ → b ≠ X) : Pts (w.setCell ⟨X, k, none⟩ u) a ps := by
  rcases h with h | ⟨b, off, e, hb, h⟩
  · exact .inl h
  · refine .inr ⟨b, off, e, by simpa using hb, fun j hj => ?_⟩
    have hn := hne b off e
    obtain ⟨h0, h1⟩ := h j hj
    exact ⟨by rw [World.cell?_setCell_other _ _ _ _ (by intro q; injection q with q1 q2; exact hn q1.symm)]; exact h0, by rw [World.cell?_setCell_other _ _ _ _ (by intro q; injection q with q1 q2; exact hn q1.symm)]; exact h1⟩
theorem ra_pts {w' : World} {a' : Option Addr} {rp : List (Int × Int)} (h : (a' = none ∧ rp = []) ∨ ∃ b, a' = some ⟨b, 0, none⟩ ∧ PtsOwn w' b rp) : Pts w' a' rp := by
  rcases h with ⟨_, h⟩ | ⟨b, e, h⟩
  · exact .inl h
  · subst e; exact h.pts
theorem ra_lt {w' : World} {a' : Option Addr} {rp : List (Int × Int)} (h : (a' = none ∧ rp = []) ∨ ∃ b, a' = some ⟨b, 0, none⟩ ∧ PtsOwn w' b rp) : ∀ b off, a' = some ⟨b, off, none⟩ → b < w'.heap.size := by
  intro b off e
  rcases h with ⟨h, _⟩ | ⟨b', e', h⟩
  · rw [h] at e; cases e
  · rw [e'] at e; cases e; exact h.1
theorem rat_len {N : Nat → Prop} {w : World} {a : Option Addr} {now : Int} {rs : List Rw} {id t : Int} (h : Rws N w a rs) : (raP (ratb now rs id t)).length ≤ 1099511627776 := by
  unfold ratb
  split
  · cases hq : rat rs id t with
    | none => simp [raP]
    | some r =>
      have hm : r ∈ rs := List.mem_of_find?_eq_some hq
      obtain ⟨j, hj, e⟩ := List.getElem_of_mem hm
      obtain ⟨b, o, _, _, hat⟩ := h.at j hj
      obtain ⟨_, _, _, _, _, _, _, _, k6, _⟩ := hat
      show r.2.2.2.2.length ≤ _
      rw [← e]; exact k6
  · simp [raP]
/-- What RowAt told, in a variable. -/
def RQ2 (W : World) (rk : Int) (rp : List (Int × Int)) (tv tb : Value) (wx : World) : Prop := ∃ X a' c', tv = .pointer (some ⟨X, 0, none⟩) ∧ tb = .bool true ∧ wx.heap[X]? = some (.cells #[.int .i64 rk, .slice a' rp.length c'] 37 (0, 0)) ∧ rp.length ≤ c' ∧ Pts wx a' rp ∧ Below W.heap.size W wx
theorem RQ2.mk {W wx : World} {rk : Int} {rp : List (Int × Int)} {X c' : Nat} {a' : Option Addr} (h1 : wx.heap[X]? = some (.cells #[.int .i64 rk, .slice a' rp.length c'] 37 (0, 0))) (h2 : rp.length ≤ c') (h3 : Pts wx a' rp) (h4 : Below W.heap.size W wx) : RQ2 W rk rp (.pointer (some ⟨X, 0, none⟩)) (.bool true) wx := ⟨X, a', c', rfl, rfl, h1, h2, h3, h4⟩
set_option maxRecDepth 100000 in
set_option maxHeartbeats 16000000 in
theorem same_moment {N N' : Nat → Prop} (na nb : Int) (a b : Option Addr) (cap cap' : Nat) (ra rb : List Rw) (m : Int) (w : World) (hma : ra.length ≤ 1099511627776) (hmb : rb.length ≤ 1099511627776) (hml : (idsb na ra m).length ≤ 1099511627776) (h : Rws N w a ra) (h' : Rws N' w b rb) (hids : idsb nb rb m = idsb na ra m) (hrat : ∀ id, raK (ratb nb rb id m) = raK (ratb na ra id m) ∧ raP (ratb nb rb id m) = raP (ratb na ra id m) ∧ (ratb nb rb id m).isSome = (ratb na ra id m).isSome) : Calls Tryz.prog 11 #[.agg #[.int .i64 na, .slice a ra.length cap], .int .i64 m, .agg #[.int .i64 nb, .slice b rb.length cap'], .int .i64 m] w fun e w' => e = .returned (.bool true) ∧ Below w.heap.size w w' := by
  have HIA := hid (fun (W : World) (hq : Below w.heap.size w W) => impl_IdsAt na a cap ra m W hma (h.below hq))
  have HIB := hid (fun (W : World) (hq : Below w.heap.size w W) => impl_IdsAt nb b cap' rb m W hmb (h'.below hq))
  have HRA : Hid (∀ i, i < (idsb na ra m).length → ∃ rk rp, rp.length ≤ 1099511627776 ∧ (∀ (W : World), Below w.heap.size w W → Calls Tryz.prog 12 #[.agg #[.int .i64 na, .slice a ra.length cap], .int .i64 ((idsb na ra m).getD i 0), .int .i64 m] W fun e w' => RA W rk rp true e w') ∧ (∀ (W : World), Below w.heap.size w W → Calls Tryz.prog 12 #[.agg #[.int .i64 nb, .slice b rb.length cap'], .int .i64 ((idsb na ra m).getD i 0), .int .i64 m] W fun e w' => RA W rk rp true e w')) := hid (fun i hi => by
    have hmem : (idsb na ra m).getD i 0 ∈ idsb na ra m := by
      rw [List.getD_eq_getElem?_getD, List.getElem?_eq_getElem hi]
      exact List.getElem_mem hi
    have hs := ids_some hmem
    refine ⟨raK (ratb na ra ((idsb na ra m).getD i 0) m), raP (ratb na ra ((idsb na ra m).getD i 0) m), rat_len h, fun W hq => ?_, fun W hq => ?_⟩
    · have := impl_RowAt na a cap ra ((idsb na ra m).getD i 0) m W hma (h.below hq)
      rw [hs] at this
      exact this
    · have := impl_RowAt nb b cap' rb ((idsb na ra m).getD i 0) m W hmb (h'.below hq)
      obtain ⟨q1, q2, q3⟩ := hrat ((idsb na ra m).getD i 0)
      rw [q1, q2, q3, hs] at this
      exact this)
  unfold IA at HIA HIB
  rw [hids] at HIB
  clear h h' hids hrat
  generalize idsb na ra m = ids at *
  generalize ra.length = la at *
  generalize rb.length = lb at *
  have hB0 : Below w.heap.size w ((w.alloc (.cells #[.int .i64 na, .slice a la cap] 26)).alloc (.cells #[.int .i64 nb, .slice b lb cap'] 26)) := balloc (balloc (Below.refl _ _) _) _
  have g0 := old_alloc (o' := .cells #[.int .i64 nb, .slice b lb cap'] 26) (new_alloc w w.heap.size (.cells #[.int .i64 na, .slice a la cap] 26) rfl)
  have g1 := new_alloc (w.alloc (.cells #[.int .i64 na, .slice a la cap] 26)) (w.heap.size + 1) (.cells #[.int .i64 nb, .slice b lb cap'] 26) (by simp)
  go_enter Tryz.func11, Tryz.ntmps11
  go_upto_region 1 with fail
  generalize (w.alloc (.cells #[.int .i64 na, .slice a la cap] 26)).alloc (.cells #[.int .i64 nb, .slice b lb cap'] 26) = W0 at *
  obtain ⟨d0, d1, _, _⟩ := cell2f g0
  go_wp2_with fail
  refine (HIA.out _ hB0).mono ?_
  rintro e W1 ⟨ia, ic, rfl, hio, _, hb⟩
  replace g0 := keepheap2 hb g0
  replace g1 := keepheap2 hb g1
  replace hB0 := btrans hB0 hb
  have HO := hid hio
  clear hb hio d0 d1 HIA
  obtain ⟨f0, f1, _, _⟩ := cell2f g1
  go_wp2_with fail
  refine (HIB.out _ hB0).mono ?_
  rintro e W2 ⟨ja, jc, rfl, hjo, _, hb⟩
  replace g0 := keepheap2 hb g0
  replace g1 := keepheap2 hb g1
  replace hB0 := btrans hB0 hb
  replace HO := hid (HO.out.below hb)
  have HJ := hid hjo
  clear hb hjo f0 f1 HIB
  go_wp2_with fail
  refine (same_ints ia ja ic jc ids _ hml HO.out HJ.out).mono ?_
  rintro e W3 ⟨rfl, hb⟩
  replace g0 := keepheap2 hb g0
  replace g1 := keepheap2 hb g1
  replace hB0 := btrans hB0 hb
  replace HO := hid (HO.out.below hb)
  clear hb HJ
  obtain ⟨n, hn⟩ : ∃ n, n = ids.length := ⟨_, rfl⟩
  have HN := hid hn.symm
  rw [← hn] at hml ⊢
  clear hn
  go_wp2_with fail
  go_loopw [10] (fun ti wr => ∃ k : Nat, ti = .int .i64 k ∧ k ≤ n ∧ Hid (Below W3.heap.size W3 wr)) (fun ti _ => n - (intOf ti).toNat)
  case atStart => exact ⟨0, rfl, Nat.zero_le _, hid (Below.refl _ _)⟩
  case round =>
    obtain ⟨k, rfl, hk, HB⟩ := hrel
    have hbw := btrans hB0 HB.out
    by_cases hlt : k < n
    · have c1 : (k : Int) < (n : Int) := by omega
      have hkr : k < ids.length := by rw [HN.out]; exact hlt
      obtain ⟨d0, d1, _, _⟩ := cell2f (keepheap2 HB.out g0)
      obtain ⟨f0, f1, _, _⟩ := cell2f (keepheap2 HB.out g1)
      obtain ⟨b1, rfl, e1, _⟩ := (HO.out.below HB.out).at (k := k) hkr
      obtain ⟨rk, rp, hrp, hra, hrb⟩ := HRA.out k hkr
      have HA := hid hra
      have HC := hid hrb
      clear hra hrb HRA
      generalize ids.getD k 0 = id at *
      go_upto_region 7 with fail
      go_cut [11, 12] from 24 to 61 (fun t11 t12 wx => RQ2 wr rk rp t11 t12 wx)
      case first =>
        refine wp_region_held_drew (S := (fun w' => w'.cell? ⟨w.heap.size, 0, none⟩ = some (.int .i64 na) ∧ w'.cell? ⟨w.heap.size, 1, none⟩ = some (.slice a la cap) ∧ w'.cell? ⟨b1, k, none⟩ = some (.int .i64 id))) (by kernel_rfl) ?_ (fun hHeld => ?_)
        · (repeat' apply And.intro) <;> (first | with_reducible assumption | (with_reducible refine keepdrew ?_; with_reducible assumption))
        have hbz : Below wr.heap.size wr wr.drew := bdrew (Below.refl _ _)
        generalize wr.drew = Z0 at *
        refine wpAnyH_take (i := 0) (v := ?_) rfl (by kernel_rfl) (by kernel_rfl) (by kernel_rfl) (fun _ _ _ h => h) (Or.inl ⟨by rfl, ?_⟩) hHeld ?_
        rotate_left
        · intro w hSw; (try dsimp only at hSw); go_simp; try (with_reducible rfl)
        try simp only [sq]
        refine wpAnyH_take (i := 1) (v := ?_) rfl (by kernel_rfl) (by kernel_rfl) (by kernel_rfl) (fun _ _ _ h => h) (Or.inl ⟨by rfl, ?_⟩) hHeld ?_
        rotate_left
        · intro w hSw; (try dsimp only at hSw); go_simp; try (with_reducible rfl)
        try simp only [sq]
        refine wpAnyH_take (i := 2) (v := ?_) rfl (by kernel_rfl) (by kernel_rfl) (by kernel_rfl) (fun _ _ _ h => h) (Or.inl ⟨by rfl, ?_⟩) hHeld ?_
        rotate_left
        · intro w hSw; (try dsimp only at hSw); go_simp; try (with_reducible rfl)
        try simp only [sq]
        refine wpAnyH_take (i := 3) (v := ?_) rfl (by kernel_rfl) (by kernel_rfl) (by kernel_rfl) (fun _ _ _ h => h) (Or.inl ⟨by rfl, ?_⟩) hHeld ?_
        rotate_left
        · intro w hSw; (try dsimp only at hSw); go_simp; try (with_reducible rfl)
        try simp only [sq]
        refine wpAnyH_take (i := 4) (v := ?_) rfl (by kernel_rfl) (by kernel_rfl) (by kernel_rfl) (fun _ _ _ h => h) (Or.inl ⟨by rfl, ?_⟩) hHeld ?_
        rotate_left
        · intro w hSw; (try dsimp only at hSw); go_simp; try (with_reducible rfl)
        try simp only [sq]
        refine wpAnyH_take (i := 5) (v := ?_) rfl (by kernel_rfl) (by kernel_rfl) (by kernel_rfl) (fun _ _ _ h => h) (Or.inl ⟨by rfl, ?_⟩) hHeld ?_
        rotate_left
        · intro w hSw; (try dsimp only at hSw); go_simp; try (with_reducible rfl)
        try simp only [sq]
        refine wpAnyH_ready (rs := [6, 10]) (by kernel_rfl) (by simp) ?_
        refine (AllReadyH.cons rfl (fun K hK => ?_) (AllReadyH.cons rfl (fun K hK => ?_) AllReadyH.nil))
        · skip
          try simp only [sq]
          go_simp
          go_at_call 12
          refine (HA.out _ (btrans hbw hbz)).mono ?_
          rintro e y ⟨aq, cq, rfl, hcq, hpq, hbq, hy⟩
          replace hbz := btrans hbz hy
          have hP := ra_pts hpq
          have hlt2 := ra_lt hpq
          clear hpq hbq hy
          go_wp2_with fail
          refine hK.out _ _ ?_ (fun hHeld => ?_)
          · (go_split_ands; (repeat' apply And.intro) <;> (repeat (first | with_reducible assumption | with_reducible refine keepcell (by with_reducible assumption) ?_)))
          clear hK K
          try simp only [sq]
          refine wpAnyH_take (i := 7) (v := ?_) rfl (by kernel_rfl) (by kernel_rfl) (by kernel_rfl) (fun _ _ _ h => h) (Or.inl ⟨by rfl, ?_⟩) hHeld ?_
          rotate_left
          · intro w hSw; (try dsimp only at hSw); go_simp; try (with_reducible rfl)
          try simp only [sq]
          refine wpAnyH_take (i := 8) (v := ?_) rfl (by kernel_rfl) (by kernel_rfl) (by kernel_rfl) (fun _ _ _ h => h) (Or.inl ⟨by rfl, ?_⟩) hHeld ?_
          rotate_left
          · intro w hSw; (try dsimp only at hSw); go_simp; try (with_reducible rfl)
          try simp only [sq]
          refine wpAnyH_take (i := 9) (v := ?_) rfl (by kernel_rfl) (by kernel_rfl) (by kernel_rfl) (fun _ _ _ h => h) (Or.inl ⟨by rfl, ?_⟩) hHeld ?_
          rotate_left
          · intro w hSw; (try dsimp only at hSw); go_simp; try (with_reducible rfl)
          try simp only [sq]
          refine wpAnyH_ready (rs := [10]) (by kernel_rfl) (by simp) ?_
          refine (AllReadyH.cons rfl (fun K hK => ?_) AllReadyH.nil)
          try simp only [sq]
          go_simp
          have gX := heap_alloc_new y (.cells #[.int .i64 0, .slice none 0 0] 37)
          have hal : Below y.heap.size y (y.alloc (.cells #[.int .i64 0, .slice none 0 0] 37)) := balloc (Below.refl _ _) _
          have hxw := hbz.size
          replace hbz := btrans hbz hal
          replace hP := hP.below hal
          have hne : ∀ b off, aq = some ⟨b, off, none⟩ → b ≠ y.heap.size := fun b off e => by have := hlt2 b off e; omega
          clear hlt2
          clear hal
          refine hK.out _ _ ?_ (fun hHeld => ?_)
          · (go_split_ands; (repeat' apply And.intro) <;> (repeat (first | with_reducible assumption | with_reducible refine keepcell (by with_reducible assumption) ?_)))
          clear hK K
          try simp only [sq]
          generalize y.alloc (.cells #[.int .i64 0, .slice none 0 0] 37) = ZA at *
          generalize y.heap.size = XB at *
          refine wpAnyH_ready (rs := [11]) (by kernel_rfl) (by simp) ?_
          refine (AllReadyH.cons rfl (fun K hK => ?_) AllReadyH.nil)
          obtain ⟨v0, v1, s0, s1⟩ := cell2f gX
          have hbc := bset (bset hbz (q := XB) (k := 0) hxw (.int .i64 rk)) (q := XB) (k := 1) hxw (.slice aq rp.length cq)
          try simp only [sq]
          go_simp
          refine hK.out _ _ ?_ (fun hHeld => ?_)
          · (go_split_ands; (repeat' apply And.intro) <;> (repeat (first | with_reducible assumption | with_reducible refine keepcell (by with_reducible assumption) ?_)))
          clear hK K
          try simp only [sq]
          clear v0 v1 s0 s1
          replace gX := set2r gX (.int .i64 rk) (.slice aq rp.length cq)
          replace hP : Pts ((ZA.setCell ⟨XB, 0, none⟩ (.int .i64 rk)).setCell ⟨XB, 1, none⟩ (.slice aq rp.length cq)) aq rp := pts_setX (pts_setX hP hne) hne
          generalize (ZA.setCell ⟨XB, 0, none⟩ (.int .i64 rk)).setCell ⟨XB, 1, none⟩ (.slice aq rp.length cq) = ZC at *
          refine wpAnyH_take (i := 12) (v := ?_) rfl (by kernel_rfl) (by kernel_rfl) (by kernel_rfl) (fun _ _ _ h => h) (Or.inl ⟨by rfl, ?_⟩) hHeld ?_
          rotate_left
          · intro w hSw; (try dsimp only at hSw); go_simp; try (with_reducible rfl)
          try simp only [sq]
          refine wpAnyH_done (by kernel_rfl) ?_ _
          go_wp2_with fail
          go_meet
          exact RQ2.mk gX hcq hP hbc
        · skip
          try simp only [sq]
          go_simp
          have gX := heap_alloc_new Z0 (.cells #[.int .i64 0, .slice none 0 0] 37)
          have hal : Below Z0.heap.size Z0 (Z0.alloc (.cells #[.int .i64 0, .slice none 0 0] 37)) := balloc (Below.refl _ _) _
          have hxw := hbz.size
          replace hbz := btrans hbz hal
          clear hal
          refine hK.out _ _ ?_ (fun hHeld => ?_)
          · (go_split_ands; (repeat' apply And.intro) <;> (repeat (first | with_reducible assumption | with_reducible refine keepcell (by with_reducible assumption) ?_)))
          clear hK K
          try simp only [sq]
          generalize Z0.alloc (.cells #[.int .i64 0, .slice none 0 0] 37) = ZA at *
          generalize Z0.heap.size = XB at *
          refine wpAnyH_ready (rs := [6]) (by kernel_rfl) (by simp) ?_
          refine (AllReadyH.cons rfl (fun K hK => ?_) AllReadyH.nil)
          try simp only [sq]
          go_simp
          go_at_call 12
          refine (HA.out _ (btrans hbw hbz)).mono ?_
          rintro e y ⟨aq, cq, rfl, hcq, hpq, hbq, hy⟩
          replace hbz := btrans hbz hy
          have hP := ra_pts hpq
          have hne : ∀ b off, aq = some ⟨b, off, none⟩ → b ≠ XB := fun b off e => by have := hbq b off e; have := lt_of_block gX; omega
          replace gX := keepheap2 hy gX
          clear hpq hbq hy
          go_wp2_with fail
          refine hK.out _ _ ?_ (fun hHeld => ?_)
          · (go_split_ands; (repeat' apply And.intro) <;> (repeat (first | with_reducible assumption | with_reducible refine keepcell (by with_reducible assumption) ?_)))
          clear hK K
          try simp only [sq]
          refine wpAnyH_take (i := 7) (v := ?_) rfl (by kernel_rfl) (by kernel_rfl) (by kernel_rfl) (fun _ _ _ h => h) (Or.inl ⟨by rfl, ?_⟩) hHeld ?_
          rotate_left
          · intro w hSw; (try dsimp only at hSw); go_simp; try (with_reducible rfl)
          try simp only [sq]
          refine wpAnyH_take (i := 8) (v := ?_) rfl (by kernel_rfl) (by kernel_rfl) (by kernel_rfl) (fun _ _ _ h => h) (Or.inl ⟨by rfl, ?_⟩) hHeld ?_
          rotate_left
          · intro w hSw; (try dsimp only at hSw); go_simp; try (with_reducible rfl)
          try simp only [sq]
          refine wpAnyH_take (i := 9) (v := ?_) rfl (by kernel_rfl) (by kernel_rfl) (by kernel_rfl) (fun _ _ _ h => h) (Or.inl ⟨by rfl, ?_⟩) hHeld ?_
          rotate_left
          · intro w hSw; (try dsimp only at hSw); go_simp; try (with_reducible rfl)
          try simp only [sq]
          refine wpAnyH_ready (rs := [11]) (by kernel_rfl) (by simp) ?_
          refine (AllReadyH.cons rfl (fun K hK => ?_) AllReadyH.nil)
          obtain ⟨v0, v1, s0, s1⟩ := cell2f gX
          have hbc := bset (bset hbz (q := XB) (k := 0) hxw (.int .i64 rk)) (q := XB) (k := 1) hxw (.slice aq rp.length cq)
          try simp only [sq]
          go_simp
          refine hK.out _ _ ?_ (fun hHeld => ?_)
          · (go_split_ands; (repeat' apply And.intro) <;> (repeat (first | with_reducible assumption | with_reducible refine keepcell (by with_reducible assumption) ?_)))
          clear hK K
          try simp only [sq]
          clear v0 v1 s0 s1
          replace gX := set2r gX (.int .i64 rk) (.slice aq rp.length cq)
          replace hP : Pts ((y.setCell ⟨XB, 0, none⟩ (.int .i64 rk)).setCell ⟨XB, 1, none⟩ (.slice aq rp.length cq)) aq rp := pts_setX (pts_setX hP hne) hne
          generalize (y.setCell ⟨XB, 0, none⟩ (.int .i64 rk)).setCell ⟨XB, 1, none⟩ (.slice aq rp.length cq) = ZC at *
          refine wpAnyH_take (i := 12) (v := ?_) rfl (by kernel_rfl) (by kernel_rfl) (by kernel_rfl) (fun _ _ _ h => h) (Or.inl ⟨by rfl, ?_⟩) hHeld ?_
          rotate_left
          · intro w hSw; (try dsimp only at hSw); go_simp; try (with_reducible rfl)
          try simp only [sq]
          refine wpAnyH_done (by kernel_rfl) ?_ _
          go_wp2_with fail
          go_meet
          exact RQ2.mk gX hcq hP hbc
      case rest =>
        obtain ⟨X, a1, p1, rfl, rfl, gX, hp1, hP1, hb⟩ := hcut
        have HB2 := hid (btrans hbw hb)
        replace d0 := keepcell hb d0
        replace d1 := keepcell hb d1
        replace f0 := keepcell hb f0
        replace f1 := keepcell hb f1
        replace e1 := keepcell hb e1
        have HB3 := hid (btrans HB.out hb)
        have HP1 := hid hP1
        clear hb hP1
        go_upto_region 8 with fail
        go_cut [13, 14] from 24 to 61 (fun t13 t14 wz => RQ2 wc rk rp t13 t14 wz)
        case first =>
          clear gX
          refine wp_region_held_drew (S := (fun w' => w'.cell? ⟨(w.heap.size + 1), 0, none⟩ = some (.int .i64 nb) ∧ w'.cell? ⟨(w.heap.size + 1), 1, none⟩ = some (.slice b lb cap') ∧ w'.cell? ⟨b1, k, none⟩ = some (.int .i64 id))) (by kernel_rfl) ?_ (fun hHeld => ?_)
          · (repeat' apply And.intro) <;> (first | with_reducible assumption | (with_reducible refine keepdrew ?_; with_reducible assumption))
          have hbz : Below wc.heap.size wc wc.drew := bdrew (Below.refl _ _)
          generalize wc.drew = Z0 at *
          refine wpAnyH_take (i := 0) (v := ?_) rfl (by kernel_rfl) (by kernel_rfl) (by kernel_rfl) (fun _ _ _ h => h) (Or.inl ⟨by rfl, ?_⟩) hHeld ?_
          rotate_left
          · intro w hSw; (try dsimp only at hSw); go_simp; try (with_reducible rfl)
          try simp only [sq]
          refine wpAnyH_take (i := 1) (v := ?_) rfl (by kernel_rfl) (by kernel_rfl) (by kernel_rfl) (fun _ _ _ h => h) (Or.inl ⟨by rfl, ?_⟩) hHeld ?_
          rotate_left
          · intro w hSw; (try dsimp only at hSw); go_simp; try (with_reducible rfl)
          try simp only [sq]
          refine wpAnyH_take (i := 2) (v := ?_) rfl (by kernel_rfl) (by kernel_rfl) (by kernel_rfl) (fun _ _ _ h => h) (Or.inl ⟨by rfl, ?_⟩) hHeld ?_
          rotate_left
          · intro w hSw; (try dsimp only at hSw); go_simp; try (with_reducible rfl)
          try simp only [sq]
          refine wpAnyH_take (i := 3) (v := ?_) rfl (by kernel_rfl) (by kernel_rfl) (by kernel_rfl) (fun _ _ _ h => h) (Or.inl ⟨by rfl, ?_⟩) hHeld ?_
          rotate_left
          · intro w hSw; (try dsimp only at hSw); go_simp; try (with_reducible rfl)
          try simp only [sq]
          refine wpAnyH_take (i := 4) (v := ?_) rfl (by kernel_rfl) (by kernel_rfl) (by kernel_rfl) (fun _ _ _ h => h) (Or.inl ⟨by rfl, ?_⟩) hHeld ?_
          rotate_left
          · intro w hSw; (try dsimp only at hSw); go_simp; try (with_reducible rfl)
          try simp only [sq]
          refine wpAnyH_take (i := 5) (v := ?_) rfl (by kernel_rfl) (by kernel_rfl) (by kernel_rfl) (fun _ _ _ h => h) (Or.inl ⟨by rfl, ?_⟩) hHeld ?_
          rotate_left
          · intro w hSw; (try dsimp only at hSw); go_simp; try (with_reducible rfl)
          try simp only [sq]
          refine wpAnyH_ready (rs := [6, 10]) (by kernel_rfl) (by simp) ?_
          refine (AllReadyH.cons rfl (fun K hK => ?_) (AllReadyH.cons rfl (fun K hK => ?_) AllReadyH.nil))
          · skip
            try simp only [sq]
            go_simp
            go_at_call 12
            refine (HC.out _ (btrans HB2.out hbz)).mono ?_
            rintro e y ⟨aq, cq, rfl, hcq, hpq, hbq, hy⟩
            replace hbz := btrans hbz hy
            have hP := ra_pts hpq
            have hlt2 := ra_lt hpq
            clear hpq hbq hy
            go_wp2_with fail
            refine hK.out _ _ ?_ (fun hHeld => ?_)
            · (go_split_ands; (repeat' apply And.intro) <;> (repeat (first | with_reducible assumption | with_reducible refine keepcell (by with_reducible assumption) ?_)))
            clear hK K
            try simp only [sq]
            refine wpAnyH_take (i := 7) (v := ?_) rfl (by kernel_rfl) (by kernel_rfl) (by kernel_rfl) (fun _ _ _ h => h) (Or.inl ⟨by rfl, ?_⟩) hHeld ?_
            rotate_left
            · intro w hSw; (try dsimp only at hSw); go_simp; try (with_reducible rfl)
            try simp only [sq]
            refine wpAnyH_take (i := 8) (v := ?_) rfl (by kernel_rfl) (by kernel_rfl) (by kernel_rfl) (fun _ _ _ h => h) (Or.inl ⟨by rfl, ?_⟩) hHeld ?_
            rotate_left
            · intro w hSw; (try dsimp only at hSw); go_simp; try (with_reducible rfl)
            try simp only [sq]
            refine wpAnyH_take (i := 9) (v := ?_) rfl (by kernel_rfl) (by kernel_rfl) (by kernel_rfl) (fun _ _ _ h => h) (Or.inl ⟨by rfl, ?_⟩) hHeld ?_
            rotate_left
            · intro w hSw; (try dsimp only at hSw); go_simp; try (with_reducible rfl)
            try simp only [sq]
            refine wpAnyH_ready (rs := [10]) (by kernel_rfl) (by simp) ?_
            refine (AllReadyH.cons rfl (fun K hK => ?_) AllReadyH.nil)
            try simp only [sq]
            go_simp
            have gX := heap_alloc_new y (.cells #[.int .i64 0, .slice none 0 0] 37)
            have hal : Below y.heap.size y (y.alloc (.cells #[.int .i64 0, .slice none 0 0] 37)) := balloc (Below.refl _ _) _
            have hxw := hbz.size
            replace hbz := btrans hbz hal
            replace hP := hP.below hal
            have hne : ∀ b off, aq = some ⟨b, off, none⟩ → b ≠ y.heap.size := fun b off e => by have := hlt2 b off e; omega
            clear hlt2
            clear hal
            refine hK.out _ _ ?_ (fun hHeld => ?_)
            · (go_split_ands; (repeat' apply And.intro) <;> (repeat (first | with_reducible assumption | with_reducible refine keepcell (by with_reducible assumption) ?_)))
            clear hK K
            try simp only [sq]
            generalize y.alloc (.cells #[.int .i64 0, .slice none 0 0] 37) = ZA at *
            generalize y.heap.size = XB at *
            refine wpAnyH_ready (rs := [11]) (by kernel_rfl) (by simp) ?_
            refine (AllReadyH.cons rfl (fun K hK => ?_) AllReadyH.nil)
            obtain ⟨v0, v1, s0, s1⟩ := cell2f gX
            have hbc := bset (bset hbz (q := XB) (k := 0) hxw (.int .i64 rk)) (q := XB) (k := 1) hxw (.slice aq rp.length cq)
            try simp only [sq]
            go_simp
            refine hK.out _ _ ?_ (fun hHeld => ?_)
            · (go_split_ands; (repeat' apply And.intro) <;> (repeat (first | with_reducible assumption | with_reducible refine keepcell (by with_reducible assumption) ?_)))
            clear hK K
            try simp only [sq]
            clear v0 v1 s0 s1
            replace gX := set2r gX (.int .i64 rk) (.slice aq rp.length cq)
            replace hP : Pts ((ZA.setCell ⟨XB, 0, none⟩ (.int .i64 rk)).setCell ⟨XB, 1, none⟩ (.slice aq rp.length cq)) aq rp := pts_setX (pts_setX hP hne) hne
            generalize (ZA.setCell ⟨XB, 0, none⟩ (.int .i64 rk)).setCell ⟨XB, 1, none⟩ (.slice aq rp.length cq) = ZC at *
            refine wpAnyH_take (i := 12) (v := ?_) rfl (by kernel_rfl) (by kernel_rfl) (by kernel_rfl) (fun _ _ _ h => h) (Or.inl ⟨by rfl, ?_⟩) hHeld ?_
            rotate_left
            · intro w hSw; (try dsimp only at hSw); go_simp; try (with_reducible rfl)
            try simp only [sq]
            refine wpAnyH_done (by kernel_rfl) ?_ _
            go_wp2_with fail
            go_meet
            exact RQ2.mk gX hcq hP hbc
          · skip
            try simp only [sq]
            go_simp
            have gX := heap_alloc_new Z0 (.cells #[.int .i64 0, .slice none 0 0] 37)
            have hal : Below Z0.heap.size Z0 (Z0.alloc (.cells #[.int .i64 0, .slice none 0 0] 37)) := balloc (Below.refl _ _) _
            have hxw := hbz.size
            replace hbz := btrans hbz hal
            clear hal
            refine hK.out _ _ ?_ (fun hHeld => ?_)
            · (go_split_ands; (repeat' apply And.intro) <;> (repeat (first | with_reducible assumption | with_reducible refine keepcell (by with_reducible assumption) ?_)))
            clear hK K
            try simp only [sq]
            generalize Z0.alloc (.cells #[.int .i64 0, .slice none 0 0] 37) = ZA at *
            generalize Z0.heap.size = XB at *
            refine wpAnyH_ready (rs := [6]) (by kernel_rfl) (by simp) ?_
            refine (AllReadyH.cons rfl (fun K hK => ?_) AllReadyH.nil)
            try simp only [sq]
            go_simp
            go_at_call 12
            refine (HC.out _ (btrans HB2.out hbz)).mono ?_
            rintro e y ⟨aq, cq, rfl, hcq, hpq, hbq, hy⟩
            replace hbz := btrans hbz hy
            have hP := ra_pts hpq
            have hne : ∀ b off, aq = some ⟨b, off, none⟩ → b ≠ XB := fun b off e => by have := hbq b off e; have := lt_of_block gX; omega
            replace gX := keepheap2 hy gX
            clear hpq hbq hy
            go_wp2_with fail
            refine hK.out _ _ ?_ (fun hHeld => ?_)
            · (go_split_ands; (repeat' apply And.intro) <;> (repeat (first | with_reducible assumption | with_reducible refine keepcell (by with_reducible assumption) ?_)))
            clear hK K
            try simp only [sq]
            refine wpAnyH_take (i := 7) (v := ?_) rfl (by kernel_rfl) (by kernel_rfl) (by kernel_rfl) (fun _ _ _ h => h) (Or.inl ⟨by rfl, ?_⟩) hHeld ?_
            rotate_left
            · intro w hSw; (try dsimp only at hSw); go_simp; try (with_reducible rfl)
            try simp only [sq]
            refine wpAnyH_take (i := 8) (v := ?_) rfl (by kernel_rfl) (by kernel_rfl) (by kernel_rfl) (fun _ _ _ h => h) (Or.inl ⟨by rfl, ?_⟩) hHeld ?_
            rotate_left
            · intro w hSw; (try dsimp only at hSw); go_simp; try (with_reducible rfl)
            try simp only [sq]
            refine wpAnyH_take (i := 9) (v := ?_) rfl (by kernel_rfl) (by kernel_rfl) (by kernel_rfl) (fun _ _ _ h => h) (Or.inl ⟨by rfl, ?_⟩) hHeld ?_
            rotate_left
            · intro w hSw; (try dsimp only at hSw); go_simp; try (with_reducible rfl)
            try simp only [sq]
            refine wpAnyH_ready (rs := [11]) (by kernel_rfl) (by simp) ?_
            refine (AllReadyH.cons rfl (fun K hK => ?_) AllReadyH.nil)
            obtain ⟨v0, v1, s0, s1⟩ := cell2f gX
            have hbc := bset (bset hbz (q := XB) (k := 0) hxw (.int .i64 rk)) (q := XB) (k := 1) hxw (.slice aq rp.length cq)
            try simp only [sq]
            go_simp
            refine hK.out _ _ ?_ (fun hHeld => ?_)
            · (go_split_ands; (repeat' apply And.intro) <;> (repeat (first | with_reducible assumption | with_reducible refine keepcell (by with_reducible assumption) ?_)))
            clear hK K
            try simp only [sq]
            clear v0 v1 s0 s1
            replace gX := set2r gX (.int .i64 rk) (.slice aq rp.length cq)
            replace hP : Pts ((y.setCell ⟨XB, 0, none⟩ (.int .i64 rk)).setCell ⟨XB, 1, none⟩ (.slice aq rp.length cq)) aq rp := pts_setX (pts_setX hP hne) hne
            generalize (y.setCell ⟨XB, 0, none⟩ (.int .i64 rk)).setCell ⟨XB, 1, none⟩ (.slice aq rp.length cq) = ZC at *
            refine wpAnyH_take (i := 12) (v := ?_) rfl (by kernel_rfl) (by kernel_rfl) (by kernel_rfl) (fun _ _ _ h => h) (Or.inl ⟨by rfl, ?_⟩) hHeld ?_
            rotate_left
            · intro w hSw; (try dsimp only at hSw); go_simp; try (with_reducible rfl)
            try simp only [sq]
            refine wpAnyH_done (by kernel_rfl) ?_ _
            go_wp2_with fail
            go_meet
            exact RQ2.mk gX hcq hP hbc
        case rest =>
          obtain ⟨Y, a2, p2, rfl, rfl, gY, hp2, hP2, hb⟩ := hcut
          replace gX := keepheap2 hb gX
          replace HP1 := hid (HP1.out.below hb)
          replace HB3 := hid (btrans HB3.out hb)
          have HS := hid (same_shp rk a1 a2 p1 p2 rp _ hrp hp1 hp2 HP1.out hP2)
          clear hb hP2 d0 d1 f0 f1 e1
          obtain ⟨x0, x1, _, _⟩ := cell2f gX
          obtain ⟨y0, y1, _, _⟩ := cell2f gY
          go_wp2_with fail
          refine HS.out.mono ?_
          rintro e z ⟨rfl, hz⟩
          replace HB3 := hid (btrans HB3.out hz)
          clear hz HS
          go_wp2_with fail
          go_roundw
          case rel => exact ⟨k + 1, by go_num, by omega, HB3⟩
          case measure => simp [intOf]; omega
    · have c1 : (n : Int) ≤ (k : Int) := by omega
      go_wp2_with fail
      go_ret
      exact ⟨rfl, hbw⟩
end Go.Proofs.YtninciflfolenaaGreat
