/- Bounds of the specification. -/
import Derived.Test.YtpgcnadmhbjlgaaGreatBb0
namespace Go.Proofs.YtpgcnadmhbjlgaaGreat
open Go.RowKit
set_option linter.unusedSimpArgs false
set_option linter.unusedVariables false
/-- What l06Row tells of an id that is there. -/
def RB (w : World) (rk : Int) (rp : List (Int × Int)) (rb : Bool) (e : Ending) (w' : World) : Prop :=
  ∃ gq cq, e = .returned (.tuple #[.agg #[.int .i64 rk, .slice (some ⟨gq, 0, none⟩) rp.length cq], .bool rb]) ∧ rp.length ≤ cq ∧ w.heap.size ≤ gq ∧ gq < w'.heap.size ∧ Pts w' (some ⟨gq, 0, none⟩) rp ∧ Below w.heap.size w w'
theorem spec_rowB {N : Nat → Prop} (now : Int) (a : Option Addr) (cap : Nat) (rs : List Rw) (id t : Int) (w : World) (hm : rs.length ≤ 1099511627776) (h : Rws N w a rs) (hid2 : id ∈ idsb now rs t) : Calls Tryz.prog 19 #[.agg #[.int .i64 now, .slice a rs.length cap], .int .i64 id, .int .i64 t] w fun e w' => RB w (raK (rat rs id t)) (raP (rat rs id t)) (rat rs id t).isSome e w' := by
  obtain ⟨hr, hs⟩ := idsb_row hid2
  refine (spec_row now a cap rs id t w hm h (fun m hm => (shok_aok (rowsb_sh hr hm)).2.1)).mono ?_
  rintro e w' ⟨a', cap', rfl, hc, ho, hn, hb⟩
  rcases ho with ⟨_, q⟩ | ⟨b, rfl, ho⟩
  · have := (shok_aok hs).2.1
    rw [q] at this
    simp at this
  · exact ⟨b, cap', rfl, hc, hn b 0 rfl, ho.1, ho.pts, hb⟩
/-- The shape that was found, in its own place. -/
def RQ (W : World) (rk : Int) (rp : List (Int × Int)) (tv : Value) (wx : World) : Prop :=
  ∃ ba gq cq, tv = .pointer (some ⟨ba, 0, none⟩) ∧ W.heap.size ≤ ba ∧ wx.heap[ba]? = some (.cells #[.int .i64 rk, .slice (some ⟨gq, 0, none⟩) rp.length cq] 47 (0, 0)) ∧ rp.length ≤ cq ∧ Pts wx (some ⟨gq, 0, none⟩) rp ∧ Below W.heap.size W wx
theorem rq_mk {W Z : World} {rk : Int} {rp : List (Int × Int)} {xb gq cq : Nat} (gX : Z.heap[xb]? = some (.cells #[.int .i64 0, .slice none 0 0] 47 (0, 0))) (hcq : rp.length ≤ cq) (hp : Pts Z (some ⟨gq, 0, none⟩) rp) (hne : xb ≠ gq) (hxb : W.heap.size ≤ xb) (hD : Below W.heap.size W Z) : RQ W rk rp (.pointer (some ⟨xb, 0, none⟩)) ((Z.setCell ⟨xb, 0, none⟩ (.int .i64 rk)).setCell ⟨xb, 1, none⟩ (.slice (some ⟨gq, 0, none⟩) rp.length cq)) := by
  refine ⟨xb, gq, cq, rfl, hxb, set2r gX _ _, hcq, ?_, bset (bset hD (q := xb) (k := 0) hxb _) (q := xb) (k := 1) hxb _⟩
  rcases hp with h | ⟨b, off, ea, hb, hp⟩
  · exact .inl h
  · cases ea
    refine .inr ⟨gq, 0, rfl, by simpa using hb, fun k hk => ?_⟩
    rw [World.cell?_setCell_far _ _ _ _ (by dsimp only; omega), World.cell?_setCell_far _ _ _ _ (by dsimp only; omega), World.cell?_setCell_far _ _ _ _ (by dsimp only; omega), World.cell?_setCell_far _ _ _ _ (by dsimp only; omega)]
    exact hp k hk
/-- Where the walk of Bounds stands. -/
def SB (w : World) (now : Int) (a : Option Addr) (n0 cap : Nat) (gi ob : Nat) (ids : List Int) (zs : List (Int × Int)) (wr : World) : Prop :=
  wr.heap[w.heap.size]? = some (.cells #[.int .i64 now, .slice a n0 cap] 30 (0, 0)) ∧ wr.heap[w.heap.size + 1]? = some (.cells #[.int .i64 0, .int .i64 0, .int .i64 0, .int .i64 0] 38 (0, 0)) ∧ wr.heap[ob]? = some (.cells #[.int .i64 (aX zs), .int .i64 (aY zs), .int .i64 (bX zs), .int .i64 (bY' zs)] 38 (0, 0)) ∧ gi < wr.heap.size ∧ IAt wr gi 0 ids ∧ Below w.heap.size w wr
theorem IAt.blk {w w' : World} {b off : Nat} {zs : List Int} (h : IAt w b off zs) (e : w'.heap[b]? = w.heap[b]?) : IAt w' b off zs := fun k hk => by
  have hc : ∀ k, w'.cell? ⟨b, k, none⟩ = w.cell? ⟨b, k, none⟩ := fun k => by simp only [World.cell?, e]
  rw [hc]
  exact h k hk
/-- The ids that were told, with a block for them. -/
theorem ids_blk {w : World} {a1 : Option Addr} {ids : List Int} (h : OwnI w a1 ids) (d : Nat) (hd : d < w.heap.size) : ∃ gi, (0 < ids.length → a1 = some ⟨gi, 0, none⟩) ∧ gi < w.heap.size ∧ IAt w gi 0 ids := by
  rcases h with ⟨rfl, rfl⟩ | ⟨b, rfl, hb, hi, _⟩
  · exact ⟨d, fun h => absurd h (by simp), hd, fun k hk => absurd hk (by simp)⟩
  · exact ⟨b, fun _ => rfl, hb, hi⟩
set_option maxRecDepth 100000 in
set_option maxHeartbeats 4000000 in
theorem spec_Bounds {N : Nat → Prop} (now : Int) (a : Option Addr) (cap : Nat) (rs : List Rw) (t : Int) (w : World) (hm : rs.length ≤ 1099511627776) (h : Rws N w a rs) : Calls Tryz.prog 14 #[.agg #[.int .i64 now, .slice a rs.length cap], .int .i64 t] w fun e w' => BD (bpts rs t (idsb now rs t)) e ∧ Below w.heap.size w w' := by
  have HIA := hid (fun (W : World) (hb : Below w.heap.size w W) => spec_IdsAt now a cap rs t W hm (h.below hb))
  have HRW := hid (fun (id : Int) (hi : id ∈ idsb now rs t) (W : World) (hb : Below w.heap.size w W) => spec_rowB now a cap rs id t W hm (h.below hb) hi)
  have HSH := hid (fun (id : Int) (h : id ∈ idsb now rs t) => (idsb_row h).2)
  have HIL : Hid ((idsb now rs t).length ≤ 1099511627776) := hid (by
    unfold idsb
    split
    · rw [srt_len]; have := ids_len rs t; omega
    · simp)
  clear h
  unfold BD
  generalize hr0 : aX (bpts rs t (idsb now rs t)) = r0
  generalize hr1 : aY (bpts rs t (idsb now rs t)) = r1
  generalize hr2 : bX (bpts rs t (idsb now rs t)) = r2
  generalize hr3 : bY' (bpts rs t (idsb now rs t)) = r3
  generalize hr4 : aok (bpts rs t (idsb now rs t)) = r4
  have HRR := hid (And.intro hr0 (And.intro hr1 (And.intro hr2 (And.intro hr3 hr4))))
  clear hr0 hr1 hr2 hr3 hr4
  generalize idsb now rs t = ids at *
  generalize rs.length = n0 at *
  go_enter Tryz.func14, Tryz.ntmps14
  go_upto_region 1 with fail
  have hBx : Below w.heap.size w ((w.alloc (.cells #[.int .i64 now, .slice a n0 cap] 30)).alloc (.cells #[.int .i64 0, .int .i64 0, .int .i64 0, .int .i64 0] 38)) := balloc (balloc (Below.refl _ _) _) _
  have g0 := old_alloc (o' := .cells #[.int .i64 0, .int .i64 0, .int .i64 0, .int .i64 0] 38) (new_alloc w w.heap.size (.cells #[.int .i64 now, .slice a n0 cap] 30) rfl)
  have g1 := new_alloc (w.alloc (.cells #[.int .i64 now, .slice a n0 cap] 30)) (w.heap.size + 1) (.cells #[.int .i64 0, .int .i64 0, .int .i64 0, .int .i64 0] 38) (by simp)
  generalize (w.alloc (.cells #[.int .i64 now, .slice a n0 cap] 30)).alloc (.cells #[.int .i64 0, .int .i64 0, .int .i64 0, .int .i64 0] 38) = W0 at *
  obtain ⟨d0, d1, _, _⟩ := cell2r g0
  have HG1 := hid g1
  have HG0 := hid g0
  clear g1 g0
  go_wp2_with fail
  refine (HIA.out _ hBx).mono ?_
  rintro e W1 ⟨a1, c1, rfl, hI, _, hB1⟩
  replace HG0 := hid (keepheap2 hB1 HG0.out)
  replace HG1 := hid (keepheap2 hB1 HG1.out)
  have HB1 := hid (btrans hBx hB1)
  obtain ⟨gi, ha1, hgi, hIA⟩ := ids_blk hI w.heap.size (lt_of_block HG0.out)
  have HA := hid ha1
  have HI := hid hIA
  clear hI ha1 hIA hB1 hBx d0 d1 HIA
  go_upto_region 3 with fail
  have hal : Below W1.heap.size W1 (W1.alloc (.cells #[.int .i64 0, .int .i64 0, .int .i64 0, .int .i64 0] 38)) := balloc (Below.refl _ _) _
  have gO := new_alloc W1 W1.heap.size (.cells #[.int .i64 0, .int .i64 0, .int .i64 0, .int .i64 0] 38) rfl
  have HSB : Hid (SB w now a n0 cap gi W1.heap.size ids [] (W1.alloc (.cells #[.int .i64 0, .int .i64 0, .int .i64 0, .int .i64 0] 38))) := hid ⟨keepheap2 hal HG0.out, keepheap2 hal HG1.out, gO, Nat.lt_of_lt_of_le hgi hal.size, HI.out.blk (hal.block gi hgi), btrans HB1.out hal⟩
  have h1o : w.heap.size + 1 < W1.heap.size := lt_of_block HG1.out
  clear hal gO HG0 HG1 HB1 HI
  generalize W1.alloc (.cells #[.int .i64 0, .int .i64 0, .int .i64 0, .int .i64 0] 38) = W2 at *
  generalize W1.heap.size = ob at *
  obtain ⟨n, hn⟩ : ∃ n, n = ids.length := ⟨_, rfl⟩
  have HN := hid hn.symm
  rw [← hn] at HA ⊢
  have hnm : n ≤ 1099511627776 := by rw [hn]; exact HIL.out
  clear hn
  have HPT := hid (fun i (hi : i ≤ ids.length) => bpts_aok HSH.out i hi)
  go_wp2_with fail
  go_loopw [8] (fun ti wr => ∃ i : Nat, ti = .int .i64 i ∧ i ≤ n ∧ Hid (SB w now a n0 cap gi ob ids (bpts rs t (ids.take i)) wr)) (fun ti _ => n - (intOf ti).toNat)
  case atStart => exact ⟨0, rfl, Nat.zero_le _, HSB⟩
  case round =>
    clear HSB
    obtain ⟨i, rfl, hi, HS⟩ := hrel
    have HPI := hid (HPT.out i (by rw [HN.out]; exact hi))
    by_cases hlt : i < n
    · have c1 : (i : Int) < (n : Int) := by omega
      have hii : i < ids.length := by rw [HN.out]; exact hlt
      have ea := HA.out (by omega)
      subst ea
      obtain ⟨s0, s1, s2, hgil, s4, s5⟩ := HS.out
      have hxi := s4 i hii
      rw [Nat.zero_add, List.getD_eq_getElem?_getD, List.getElem?_eq_getElem hii, Option.getD_some] at hxi
      have HRI := hid (HRW.out ids[i] (List.getElem_mem hii))
      have HSI := hid (shok_aok (HSH.out ids[i] (List.getElem_mem hii)))
      have HSK := hid (HSH.out ids[i] (List.getElem_mem hii))
      have HNX := hid (bpts_next (rs := rs) (t := t) hii)
      have HB0 := hid s5
      have hwl : w.heap.size < wr.heap.size := lt_of_block s0
      obtain ⟨x0, x1, _, _⟩ := cell2r s0
      have HAP : Hid (0 < i → aX (bpts rs t (ids.take i) ++ raP (rat rs ids[i] t)) = min (aX (bpts rs t (ids.take i))) (aX (raP (rat rs ids[i] t))) ∧ aY (bpts rs t (ids.take i) ++ raP (rat rs ids[i] t)) = min (aY (bpts rs t (ids.take i))) (aY (raP (rat rs ids[i] t))) ∧ bX (bpts rs t (ids.take i) ++ raP (rat rs ids[i] t)) = max (bX (bpts rs t (ids.take i))) (bX (raP (rat rs ids[i] t))) ∧ bY' (bpts rs t (ids.take i) ++ raP (rat rs ids[i] t)) = max (bY' (bpts rs t (ids.take i))) (bY' (raP (rat rs ids[i] t)))) := hid (fun h0 => box_app (by rw [HPI.out.2]; simpa using h0) HSI.out.1)
      have HA0 : Hid (i = 0 → bpts rs t (ids.take i) = []) := hid (fun e => by subst e; rfl)
      generalize raP (rat rs ids[i] t) = rp at *
      generalize raK (rat rs ids[i] t) = rk at *
      generalize (rat rs ids[i] t).isSome = rb at *
      generalize ids[i] = id at *
      generalize bpts rs t (ids.take i) = zs at *
      clear s0 s1 s2 s4 s5
      go_upto_region 6 with fail
      go_cut [9, 10] from 17 to 43 (fun t9 _ wx => RQ wr rk rp t9 wx)
      case first =>
        clear HRW HPT HSH HNX HAP HA0 HPI HSI HSK HS HIL HA HN
        refine wp_region_held_drew (S := (fun w' => w'.cell? ⟨w.heap.size, 0, none⟩ = some (.int .i64 now) ∧ w'.cell? ⟨w.heap.size, 1, none⟩ = some (.slice a n0 cap) ∧ w'.cell? ⟨gi, i, none⟩ = some (.int .i64 id))) (by kernel_rfl) ?_ (fun hHeld => ?_)
        · (repeat' apply And.intro) <;> (repeat (first | with_reducible assumption | with_reducible refine keepset ?_ (by dsimp only; omega) | with_reducible refine keepdrew ?_ | with_reducible refine keepalloc ?_ _ | with_reducible refine keepcell (by with_reducible assumption) ?_))
        have hB0 : Below w.heap.size w wr.drew := bdrew HB0.out
        have hD0 : Below wr.heap.size wr wr.drew := bdrew (Below.refl _ _)
        generalize wr.drew = V0 at *
        refine wpAnyH_take (i := 0) (v := ?_) rfl (by kernel_rfl) (by kernel_rfl) (by kernel_rfl) (fun _ _ _ h => h) (Or.inl ⟨by rfl, ?_⟩) hHeld ?_
        rotate_left
        · intro w hSw; (try dsimp only at hSw); go_simp; try (with_reducible rfl)
        try simp only [sq]
        refine wpAnyH_take (i := 1) (v := ?_) rfl (by kernel_rfl) (by kernel_rfl) (by kernel_rfl) (fun _ _ _ h => h) (Or.inl ⟨by rfl, ?_⟩) hHeld ?_
        rotate_left
        · intro w hSw; (try dsimp only at hSw); go_simp; try (with_reducible rfl)
        try simp only [sq]
        refine wpAnyH_take (i := 2) (v := ?_) rfl (by kernel_rfl) (by kernel_rfl) (by kernel_rfl) (fun _ _ _ h => h) (Or.inl ⟨by rfl, ?_⟩) hHeld ?_
        rotate_left
        · intro w hSw; (try dsimp only at hSw); go_simp; try (with_reducible rfl)
        try simp only [sq]
        refine wpAnyH_take (i := 3) (v := ?_) rfl (by kernel_rfl) (by kernel_rfl) (by kernel_rfl) (fun _ _ _ h => h) (Or.inl ⟨by rfl, ?_⟩) hHeld ?_
        rotate_left
        · intro w hSw; (try dsimp only at hSw); go_simp; try (with_reducible rfl)
        try simp only [sq]
        refine wpAnyH_take (i := 4) (v := ?_) rfl (by kernel_rfl) (by kernel_rfl) (by kernel_rfl) (fun _ _ _ h => h) (Or.inl ⟨by rfl, ?_⟩) hHeld ?_
        rotate_left
        · intro w hSw; (try dsimp only at hSw); go_simp; try (with_reducible rfl)
        try simp only [sq]
        refine wpAnyH_take (i := 5) (v := ?_) rfl (by kernel_rfl) (by kernel_rfl) (by kernel_rfl) (fun _ _ _ h => h) (Or.inl ⟨by rfl, ?_⟩) hHeld ?_
        rotate_left
        · intro w hSw; (try dsimp only at hSw); go_simp; try (with_reducible rfl)
        try simp only [sq]
        refine wpAnyH_ready (rs := [6, 10]) (by kernel_rfl) (by simp) ?_
        refine (AllReadyH.cons rfl (fun K hK => ?_) (AllReadyH.cons rfl (fun K hK => ?_) AllReadyH.nil))
        · skip
          try simp only [sq]
          go_simp
          go_at_call 19
          refine (HRI.out _ hB0).mono ?_
          rintro e y ⟨gq, cq, rfl, hcq, hgq, hgl, hpq, hy⟩
          have hBy := btrans hB0 hy
          have hDy := btrans hD0 hy
          go_wp2_with fail
          refine hK.out _ _ ?_ (fun hHeld => ?_)
          · (go_split_ands; (repeat' apply And.intro) <;> (repeat (first | with_reducible assumption | with_reducible refine keepset ?_ (by dsimp only; omega) | with_reducible refine keepdrew ?_ | with_reducible refine keepalloc ?_ _ | with_reducible refine keepcell (by with_reducible assumption) ?_)))
          clear hK K
          try simp only [sq]
          refine wpAnyH_take (i := 7) (v := ?_) rfl (by kernel_rfl) (by kernel_rfl) (by kernel_rfl) (fun _ _ _ h => h) (Or.inl ⟨by rfl, ?_⟩) hHeld ?_
          rotate_left
          · intro w hSw; (try dsimp only at hSw); go_simp; try (with_reducible rfl)
          try simp only [sq]
          refine wpAnyH_take (i := 8) (v := ?_) rfl (by kernel_rfl) (by kernel_rfl) (by kernel_rfl) (fun _ _ _ h => h) (Or.inl ⟨by rfl, ?_⟩) hHeld ?_
          rotate_left
          · intro w hSw; (try dsimp only at hSw); go_simp; try (with_reducible rfl)
          try simp only [sq]
          refine wpAnyH_take (i := 9) (v := ?_) rfl (by kernel_rfl) (by kernel_rfl) (by kernel_rfl) (fun _ _ _ h => h) (Or.inl ⟨by rfl, ?_⟩) hHeld ?_
          rotate_left
          · intro w hSw; (try dsimp only at hSw); go_simp; try (with_reducible rfl)
          try simp only [sq]
          refine wpAnyH_ready (rs := [10]) (by kernel_rfl) (by simp) ?_
          refine (AllReadyH.cons rfl (fun K hK => ?_) AllReadyH.nil)
          try simp only [sq]
          go_simp
          refine hK.out _ _ ?_ (fun hHeld => ?_)
          · (go_split_ands; (repeat' apply And.intro) <;> (repeat (first | with_reducible assumption | with_reducible refine keepset ?_ (by dsimp only; omega) | with_reducible refine keepdrew ?_ | with_reducible refine keepalloc ?_ _ | with_reducible refine keepcell (by with_reducible assumption) ?_)))
          clear hK K
          try simp only [sq]
          have gX := new_alloc y y.heap.size (.cells #[.int .i64 0, .slice none 0 0] 47) rfl
          have hal : Below y.heap.size y (y.alloc (.cells #[.int .i64 0, .slice none 0 0] 47)) := balloc (Below.refl _ _) _
          have hBa := btrans hBy hal
          have hDa := btrans hDy hal
          have hpqa := hpq.below hal
          have hxg : y.heap.size ≠ gq := by omega
          have hxb : wr.heap.size ≤ y.heap.size := hDy.size
          clear hal
          generalize y.alloc (.cells #[.int .i64 0, .slice none 0 0] 47) = Z at *
          generalize y.heap.size = xb at *
          refine wpAnyH_ready (rs := [11]) (by kernel_rfl) (by simp) ?_
          refine (AllReadyH.cons rfl (fun K hK => ?_) AllReadyH.nil)
          obtain ⟨v0, v1, s0, s1⟩ := cell2r gX
          try simp only [sq]
          go_simp
          refine hK.out _ _ ?_ (fun hHeld => ?_)
          · (go_split_ands; (repeat' apply And.intro) <;> (repeat (first | with_reducible assumption | with_reducible refine keepset ?_ (by dsimp only; omega) | with_reducible refine keepdrew ?_ | with_reducible refine keepalloc ?_ _ | with_reducible refine keepcell (by with_reducible assumption) ?_)))
          clear hK K
          try simp only [sq]
          refine wpAnyH_take (i := 12) (v := ?_) rfl (by kernel_rfl) (by kernel_rfl) (by kernel_rfl) (fun _ _ _ h => h) (Or.inl ⟨by rfl, ?_⟩) hHeld ?_
          rotate_left
          · intro w hSw; (try dsimp only at hSw); go_simp; try (with_reducible rfl)
          try simp only [sq]
          refine wpAnyH_done (by kernel_rfl) ?_ _
          go_wp2_with fail
          go_meet
          exact rq_mk gX hcq hpqa hxg (by omega) hDa
        · skip
          try simp only [sq]
          go_simp
          refine hK.out _ _ ?_ (fun hHeld => ?_)
          · (go_split_ands; (repeat' apply And.intro) <;> (repeat (first | with_reducible assumption | with_reducible refine keepset ?_ (by dsimp only; omega) | with_reducible refine keepdrew ?_ | with_reducible refine keepalloc ?_ _ | with_reducible refine keepcell (by with_reducible assumption) ?_)))
          clear hK K
          try simp only [sq]
          have gX := new_alloc V0 V0.heap.size (.cells #[.int .i64 0, .slice none 0 0] 47) rfl
          have hal : Below V0.heap.size V0 (V0.alloc (.cells #[.int .i64 0, .slice none 0 0] 47)) := balloc (Below.refl _ _) _
          have hBa := btrans hB0 hal
          have hDa := btrans hD0 hal
          have hxb : wr.heap.size ≤ V0.heap.size := hD0.size
          clear hal
          generalize V0.alloc (.cells #[.int .i64 0, .slice none 0 0] 47) = Z at *
          generalize V0.heap.size = xb at *
          refine wpAnyH_ready (rs := [6]) (by kernel_rfl) (by simp) ?_
          refine (AllReadyH.cons rfl (fun K hK => ?_) AllReadyH.nil)
          try simp only [sq]
          go_simp
          go_at_call 19
          refine (HRI.out _ hBa).mono ?_
          rintro e y ⟨gq, cq, rfl, hcq, hgq, hgl, hpq, hy⟩
          have hxg : xb ≠ gq := by have := lt_of_block gX; omega
          replace gX := keepheap2 hy gX
          have hBy := btrans hBa hy
          have hDy := btrans hDa hy
          go_wp2_with fail
          refine hK.out _ _ ?_ (fun hHeld => ?_)
          · (go_split_ands; (repeat' apply And.intro) <;> (repeat (first | with_reducible assumption | with_reducible refine keepset ?_ (by dsimp only; omega) | with_reducible refine keepdrew ?_ | with_reducible refine keepalloc ?_ _ | with_reducible refine keepcell (by with_reducible assumption) ?_)))
          clear hK K
          try simp only [sq]
          refine wpAnyH_take (i := 7) (v := ?_) rfl (by kernel_rfl) (by kernel_rfl) (by kernel_rfl) (fun _ _ _ h => h) (Or.inl ⟨by rfl, ?_⟩) hHeld ?_
          rotate_left
          · intro w hSw; (try dsimp only at hSw); go_simp; try (with_reducible rfl)
          try simp only [sq]
          refine wpAnyH_take (i := 8) (v := ?_) rfl (by kernel_rfl) (by kernel_rfl) (by kernel_rfl) (fun _ _ _ h => h) (Or.inl ⟨by rfl, ?_⟩) hHeld ?_
          rotate_left
          · intro w hSw; (try dsimp only at hSw); go_simp; try (with_reducible rfl)
          try simp only [sq]
          refine wpAnyH_take (i := 9) (v := ?_) rfl (by kernel_rfl) (by kernel_rfl) (by kernel_rfl) (fun _ _ _ h => h) (Or.inl ⟨by rfl, ?_⟩) hHeld ?_
          rotate_left
          · intro w hSw; (try dsimp only at hSw); go_simp; try (with_reducible rfl)
          try simp only [sq]
          refine wpAnyH_ready (rs := [11]) (by kernel_rfl) (by simp) ?_
          refine (AllReadyH.cons rfl (fun K hK => ?_) AllReadyH.nil)
          obtain ⟨v0, v1, s0, s1⟩ := cell2r gX
          try simp only [sq]
          go_simp
          refine hK.out _ _ ?_ (fun hHeld => ?_)
          · (go_split_ands; (repeat' apply And.intro) <;> (repeat (first | with_reducible assumption | with_reducible refine keepset ?_ (by dsimp only; omega) | with_reducible refine keepdrew ?_ | with_reducible refine keepalloc ?_ _ | with_reducible refine keepcell (by with_reducible assumption) ?_)))
          clear hK K
          try simp only [sq]
          refine wpAnyH_take (i := 12) (v := ?_) rfl (by kernel_rfl) (by kernel_rfl) (by kernel_rfl) (fun _ _ _ h => h) (Or.inl ⟨by rfl, ?_⟩) hHeld ?_
          rotate_left
          · intro w hSw; (try dsimp only at hSw); go_simp; try (with_reducible rfl)
          try simp only [sq]
          refine wpAnyH_done (by kernel_rfl) ?_ _
          go_wp2_with fail
          go_meet
          exact rq_mk gX hcq hpq hxg (by omega) hDy
      case rest =>
        obtain ⟨ba, gq, cq, rfl, hba, gA, hcq, hpq, hD⟩ := hcut
        obtain ⟨s0, s1, s2, _, s4, s5⟩ := HS.out
        have HS0 := hid (keepheap2 hD s0)
        have HS1 := hid (keepheap2 hD s1)
        have HS2 := hid (keepheap2 hD s2)
        have HS4 := hid (s4.blk (hD.block gi hgil))
        have HS5 := hid (btrans s5 hD)
        have hol : ob < wr.heap.size := lt_of_block s2
        have hws := hD.size
        have HBX := hid (fun (W : World) (hb : Below wc.heap.size wc W) => spec_ShapeBox rk (some ⟨gq, 0, none⟩) cq rp W (by have := HSI.out.2.2; omega) hcq (hpq.below hb))
        have hsv : sv aX rk rp = aX rp ∧ sv aY rk rp = aY rp ∧ sv bX rk rp = bX rp ∧ sv bY' rk rp = bY' rp := by
          unfold sv; rw [HSK.out]; exact ⟨rfl, rfl, rfl, rfl⟩
        rw [hsv.1, hsv.2.1, hsv.2.2.1, hsv.2.2.2] at HBX
        clear s0 s1 s2 s4 s5 hpq hsv x0 x1 hxi HRI HRW HB0
        unfold shv at HBX
        obtain ⟨v0, v1, _, _⟩ := cell2r gA
        generalize hXb : aX rp = p0 at *
        generalize hYb : aY rp = p1 at *
        generalize hXB : bX rp = p2 at *
        generalize hYB : bY' rp = p3 at *
        generalize (shok rk rp && aok rp) = p4 at *
        generalize rp.length = nrp at *
        go_wp2_with fail
        refine (HBX.out _ (Below.refl _ _)).mono ?_
        rintro e z ⟨rfl, hz⟩
        replace HS0 := hid (keepheap2 hz HS0.out)
        replace HS1 := hid (keepheap2 hz HS1.out)
        replace HS2 := hid (keepheap2 hz HS2.out)
        replace HS4 := hid (HS4.out.blk (hz.block gi (by omega)))
        replace HS5 := hid (btrans HS5.out hz)
        have hzs := hz.size
        clear hz v0 v1 gA HBX hD
        go_upto_region 8 with fail
        have hal : Below z.heap.size z (z.alloc (.cells #[.int .i64 p0, .int .i64 p1, .int .i64 p2, .int .i64 p3] 38)) := balloc (Below.refl _ _) _
        have gN := new_alloc z z.heap.size (.cells #[.int .i64 p0, .int .i64 p1, .int .i64 p2, .int .i64 p3] 38) rfl
        replace HS0 := hid (keepheap2 hal HS0.out)
        replace HS1 := hid (keepheap2 hal HS1.out)
        have gO := keepheap2 hal HS2.out
        replace HS4 := hid (HS4.out.blk (hal.block gi (by omega)))
        replace HS5 := hid (btrans HS5.out hal)
        have hals := hal.size
        clear hal HS2
        generalize z.alloc (.cells #[.int .i64 p0, .int .i64 p1, .int .i64 p2, .int .i64 p3] 38) = Z at *
        generalize z.heap.size = zb at *
        obtain ⟨n0', n1', n2', n3', _, _, _, _⟩ := cell4 gN
        obtain ⟨o0', o1', o2', o3', f0, f1, f2, f3⟩ := cell4 gO
        have hzo : zb ≠ ob := by omega
        have HJN := hid (fun (A B C D : Int) (W : World) => spec_join A B C D p0 p1 p2 p3 W)
        by_cases hi0 : i = 0
        · have hib : ((i : Int) == 0) = true := by rw [beq_iff_eq]; omega
          have hz0 := HA0.out hi0
          go_upto_region 10 with fail
          obtain ⟨gF, bF⟩ := set4 gO HS5.out (show w.heap.size ≤ ob by omega) (.int .i64 p0) (.int .i64 p1) (.int .i64 p2) (.int .i64 p3)
          have hfar : ∀ b, b ≠ ob → ((((Z.setCell ⟨ob, 0, none⟩ (.int .i64 p0)).setCell ⟨ob, 1, none⟩ (.int .i64 p1)).setCell ⟨ob, 2, none⟩ (.int .i64 p2)).setCell ⟨ob, 3, none⟩ (.int .i64 p3)).heap[b]? = Z.heap[b]? := fun b hb => by rw [Below.heap_setCell _ _ _ _ (by dsimp only; omega), Below.heap_setCell _ _ _ _ (by dsimp only; omega), Below.heap_setCell _ _ _ _ (by dsimp only; omega), Below.heap_setCell _ _ _ _ (by dsimp only; omega)]
          replace HS0 := hid ((hfar _ (by omega)).trans HS0.out)
          replace HS1 := hid ((hfar _ (by omega)).trans HS1.out)
          replace HS4 := hid (HS4.out.blk (hfar gi (by omega)))
          replace gN := (hfar zb hzo).trans gN
          replace HS5 := hid bF
          replace gO := gF
          have hss : ((((Z.setCell ⟨ob, 0, none⟩ (.int .i64 p0)).setCell ⟨ob, 1, none⟩ (.int .i64 p1)).setCell ⟨ob, 2, none⟩ (.int .i64 p2)).setCell ⟨ob, 3, none⟩ (.int .i64 p3)).heap.size = Z.heap.size := by simp
          clear gF bF hfar o0' o1' o2' o3' f0 f1 f2 f3 n0' n1' n2' n3'
          generalize (((Z.setCell ⟨ob, 0, none⟩ (.int .i64 p0)).setCell ⟨ob, 1, none⟩ (.int .i64 p1)).setCell ⟨ob, 2, none⟩ (.int .i64 p2)).setCell ⟨ob, 3, none⟩ (.int .i64 p3) = Z2 at *
          obtain ⟨n0', n1', n2', n3', _, _, _, _⟩ := cell4 gN
          obtain ⟨o0', o1', o2', o3', f0, f1, f2, f3⟩ := cell4 gO
          go_wp2_with fail
          refine (HJN.out p0 p1 p2 p3 _).mono ?_
          rintro e y ⟨rfl, hy⟩
          replace HS0 := hid (keepheap2 hy HS0.out)
          replace HS1 := hid (keepheap2 hy HS1.out)
          replace HS4 := hid (HS4.out.blk (hy.block gi (by omega)))
          replace HS5 := hid (btrans HS5.out hy)
          replace gO := keepheap2 hy gO
          have hys := hy.size
          clear hy HJN o0' o1' o2' o3' f0 f1 f2 f3 n0' n1' n2' n3' gN
          obtain ⟨o0', o1', o2', o3', f0, f1, f2, f3⟩ := cell4 gO
          generalize hm0 : min p0 p0 = m0' at *
          generalize hm1 : min p1 p1 = m1' at *
          generalize hm2 : max p2 p2 = m2' at *
          generalize hm3 : max p3 p3 = m3' at *
          go_wp2_with fail
          obtain ⟨gF, bF⟩ := set4 gO HS5.out (show w.heap.size ≤ ob by omega) (.int .i64 m0') (.int .i64 m1') (.int .i64 m2') (.int .i64 m3')
          have hfar : ∀ b, b ≠ ob → ((((y.setCell ⟨ob, 0, none⟩ (.int .i64 m0')).setCell ⟨ob, 1, none⟩ (.int .i64 m1')).setCell ⟨ob, 2, none⟩ (.int .i64 m2')).setCell ⟨ob, 3, none⟩ (.int .i64 m3')).heap[b]? = y.heap[b]? := fun b hb => by rw [Below.heap_setCell _ _ _ _ (by dsimp only; omega), Below.heap_setCell _ _ _ _ (by dsimp only; omega), Below.heap_setCell _ _ _ _ (by dsimp only; omega), Below.heap_setCell _ _ _ _ (by dsimp only; omega)]
          have HSN : Hid (SB w now a n0 cap gi ob ids (bpts rs t (ids.take (i + 1))) ((((y.setCell ⟨ob, 0, none⟩ (.int .i64 m0')).setCell ⟨ob, 1, none⟩ (.int .i64 m1')).setCell ⟨ob, 2, none⟩ (.int .i64 m2')).setCell ⟨ob, 3, none⟩ (.int .i64 m3'))) := hid (by
            rw [HNX.out]
            refine ⟨(hfar _ (by omega)).trans HS0.out, (hfar _ (by omega)).trans HS1.out, ?_, by simp; omega, HS4.out.blk (hfar gi (by omega)), bF⟩
            rw [gF]
            subst hz0; rw [List.nil_append, hXb, hYb, hXB, hYB, ← hm0, ← hm1, ← hm2, ← hm3, Int.min_self, Int.min_self, Int.max_self, Int.max_self])
          clear gF bF hfar gO o0' o1' o2' o3' f0 f1 f2 f3
          generalize (((y.setCell ⟨ob, 0, none⟩ (.int .i64 m0')).setCell ⟨ob, 1, none⟩ (.int .i64 m1')).setCell ⟨ob, 2, none⟩ (.int .i64 m2')).setCell ⟨ob, 3, none⟩ (.int .i64 m3') = Z3 at *
          go_roundw
          case rel => exact ⟨i + 1, by go_num, by omega, HSN⟩
          case measure => simp [intOf]; omega
        · have hib : ((i : Int) == 0) = false := by rw [beq_eq_false_iff_ne]; omega
          obtain ⟨m0, m1, m2, m3⟩ := HAP.out (by omega)
          go_wp2_with fail
          refine (HJN.out (aX zs) (aY zs) (bX zs) (bY' zs) _).mono ?_
          rintro e y ⟨rfl, hy⟩
          replace HS0 := hid (keepheap2 hy HS0.out)
          replace HS1 := hid (keepheap2 hy HS1.out)
          replace HS4 := hid (HS4.out.blk (hy.block gi (by omega)))
          replace HS5 := hid (btrans HS5.out hy)
          replace gO := keepheap2 hy gO
          have hys := hy.size
          clear hy HJN o0' o1' o2' o3' f0 f1 f2 f3 n0' n1' n2' n3' gN
          obtain ⟨o0', o1', o2', o3', f0, f1, f2, f3⟩ := cell4 gO
          generalize hm0 : min (aX zs) p0 = m0' at *
          generalize hm1 : min (aY zs) p1 = m1' at *
          generalize hm2 : max (bX zs) p2 = m2' at *
          generalize hm3 : max (bY' zs) p3 = m3' at *
          go_wp2_with fail
          obtain ⟨gF, bF⟩ := set4 gO HS5.out (show w.heap.size ≤ ob by omega) (.int .i64 m0') (.int .i64 m1') (.int .i64 m2') (.int .i64 m3')
          have hfar : ∀ b, b ≠ ob → ((((y.setCell ⟨ob, 0, none⟩ (.int .i64 m0')).setCell ⟨ob, 1, none⟩ (.int .i64 m1')).setCell ⟨ob, 2, none⟩ (.int .i64 m2')).setCell ⟨ob, 3, none⟩ (.int .i64 m3')).heap[b]? = y.heap[b]? := fun b hb => by rw [Below.heap_setCell _ _ _ _ (by dsimp only; omega), Below.heap_setCell _ _ _ _ (by dsimp only; omega), Below.heap_setCell _ _ _ _ (by dsimp only; omega), Below.heap_setCell _ _ _ _ (by dsimp only; omega)]
          have HSN : Hid (SB w now a n0 cap gi ob ids (bpts rs t (ids.take (i + 1))) ((((y.setCell ⟨ob, 0, none⟩ (.int .i64 m0')).setCell ⟨ob, 1, none⟩ (.int .i64 m1')).setCell ⟨ob, 2, none⟩ (.int .i64 m2')).setCell ⟨ob, 3, none⟩ (.int .i64 m3'))) := hid (by
            rw [HNX.out]
            refine ⟨(hfar _ (by omega)).trans HS0.out, (hfar _ (by omega)).trans HS1.out, ?_, by simp; omega, HS4.out.blk (hfar gi (by omega)), bF⟩
            rw [gF]
            rw [m0, m1, m2, m3, ← hm0, ← hm1, ← hm2, ← hm3])
          clear gF bF hfar gO o0' o1' o2' o3' f0 f1 f2 f3
          generalize (((y.setCell ⟨ob, 0, none⟩ (.int .i64 m0')).setCell ⟨ob, 1, none⟩ (.int .i64 m1')).setCell ⟨ob, 2, none⟩ (.int .i64 m2')).setCell ⟨ob, 3, none⟩ (.int .i64 m3') = Z3 at *
          go_roundw
          case rel => exact ⟨i + 1, by go_num, by omega, HSN⟩
          case measure => simp [intOf]; omega
    · have c1 : (n : Int) ≤ (i : Int) := by omega
      have hin : i = n := by omega
      obtain ⟨s0, s1, s2, hgil, s4, s5⟩ := HS.out
      have HE2 : Hid (bpts rs t (ids.take i) = bpts rs t ids) := hid (by rw [hin, ← HN.out, List.take_length])
      have HOK : Hid (aok (bpts rs t ids) = decide (0 < n)) := hid (by rw [← HE2.out, HPI.out.2, hin])
      obtain ⟨e0, e1, e2, e3, e4⟩ := HRR.out
      rw [HE2.out, e0, e1, e2, e3] at s2
      have HR4 : Hid (r4 = decide (0 < n)) := hid (by rw [← e4]; exact HOK.out)
      have HS5 := hid s5
      obtain ⟨o0', o1', o2', o3', _, _, _, _⟩ := cell4 s2
      obtain ⟨q0, q1, q2, q3, f0, f1, f2, f3⟩ := cell4 s1
      have HS1 := hid s1
      clear hin HS HPI s0 s1 s2 s4 s5 hgil e0 e1 e2 e3 e4 HOK HE2 HRR
      have hdn : decide ((0 : Int) < (n : Int)) = r4 := by rw [HR4.out]; simp
      go_wp2_with fail
      obtain ⟨gF, bF⟩ := set4 HS1.out HS5.out (by omega) (.int .i64 r0) (.int .i64 r1) (.int .i64 r2) (.int .i64 r3)
      generalize (((wr.setCell ⟨w.heap.size + 1, 0, none⟩ (.int .i64 r0)).setCell ⟨w.heap.size + 1, 1, none⟩ (.int .i64 r1)).setCell ⟨w.heap.size + 1, 2, none⟩ (.int .i64 r2)).setCell ⟨w.heap.size + 1, 3, none⟩ (.int .i64 r3) = wf at *
      obtain ⟨z0, z1, z2, z3, _, _, _, _⟩ := cell4 gF
      exact bodyPost_ret (v := .tuple #[.agg #[.int .i64 r0, .int .i64 r1, .int .i64 r2, .int .i64 r3], .bool r4]) (by simp [results, Tryz.results14, go_sem, z0, z1, z2, z3, HR4.out]) rfl ⟨rfl, bF⟩
end Go.Proofs.YtpgcnadmhbjlgaaGreat
