/- Dump of the specification. -/
import Derived.Test.YtfajjnkkablneaaGreatDoorBi
import Derived.Test.YtfajjnkkablneaaGreatDoorBc
namespace Go.Proofs.YtfajjnkkablneaaGreatDoor
open Go.RowKit
set_option linter.unusedSimpArgs false
set_option linter.unusedVariables false
/-- Where the walk of Dump stands. -/
def SD (w : World) (now : Int) (a : Option Addr) (n0 cap : Nat) (gi : Nat) (ids : List Int) (wr : World) : Prop :=
  wr.heap[w.heap.size]? = some (.cells #[.int .i64 now, .slice a n0 cap] 29 (0, 0)) ∧ gi < wr.heap.size ∧ IAt wr gi 0 ids ∧ Below w.heap.size w wr
theorem SD.below {w : World} {now : Int} {a : Option Addr} {n0 cap gi : Nat} {ids : List Int} {wr w' : World} (h : SD w now a n0 cap gi ids wr) (H : Below wr.heap.size wr w') : SD w now a n0 cap gi ids w' := by
  obtain ⟨h1, h2, h3, h8⟩ := h
  exact ⟨keepheap2 H h1, Nat.lt_of_lt_of_le h2 H.size, h3.blk (H.block gi h2), btrans h8 H⟩
set_option maxRecDepth 100000 in
set_option maxHeartbeats 4000000 in
theorem spec_Dump {N : Nat → Prop} (now : Int) (a : Option Addr) (cap : Nat) (rs : List Rw) (t : Int) (w : World) (hm : rs.length ≤ 1099511627776) (h : Rws N w a rs) : Calls Tryz.prog 5 #[.agg #[.int .i64 now, .slice a rs.length cap], .int .i64 t] w fun e w' => e = .returned (.string (dmT rs t (idsb now rs t) (idsb now rs t).length)) ∧ Below w.heap.size w w' := by
  have HIA := hid (fun (W : World) (hb : Below w.heap.size w W) => spec_IdsAt now a cap rs t W hm (h.below hb))
  have HRW := hid (fun (id : Int) (hi : id ∈ idsb now rs t) (W : World) (hb : Below w.heap.size w W) => spec_rowB now a cap rs id t W hm (h.below hb) hi)
  have HSH := hid (fun (id : Int) (h : id ∈ idsb now rs t) => (idsb_row h).2)
  have HID := hid (fun (id : Int) (h : id ∈ idsb now rs t) => idsb_id h)
  have HIL := hid (idsb_len now rs t)
  clear h
  generalize idsb now rs t = ids at *
  generalize rs.length = n0 at *
  obtain ⟨res, hres⟩ : ∃ res, res = dmT rs t ids ids.length := ⟨_, rfl⟩
  rw [← hres]
  have HRES := hid hres
  clear hres
  go_enter Tryz.func5, Tryz.ntmps5
  go_upto_region 2 with fail
  have hBx : Below w.heap.size w (w.alloc (.cells #[.int .i64 now, .slice a n0 cap] 29)) := balloc (Below.refl _ _) _
  have g0 := new_alloc w w.heap.size (.cells #[.int .i64 now, .slice a n0 cap] 29) rfl
  generalize w.alloc (.cells #[.int .i64 now, .slice a n0 cap] 29) = W0 at *
  obtain ⟨d0, d1, _, _⟩ := cell2r g0
  have HG0 := hid g0
  clear g0
  go_wp2_with fail
  refine (HIA.out _ hBx).mono ?_
  rintro e W1 ⟨a1, c1, rfl, hI, hnew, hB1⟩
  have g0 := keepheap2 hB1 HG0.out
  obtain ⟨gi, ha1, hgi, hIA⟩ := ids_blk hI w.heap.size (lt_of_block g0)
  have HA := hid ha1
  have HSD : Hid (SD w now a n0 cap gi ids W1) := hid ⟨g0, hgi, hIA, btrans hBx hB1⟩
  clear hI ha1 hIA hB1 hBx d0 d1 HIA HG0 hgi hnew g0
  obtain ⟨n, hn⟩ : ∃ n, n = ids.length := ⟨_, rfl⟩
  have HN := hid hn.symm
  rw [← hn] at HA ⊢
  have hnm : n ≤ 300 := by rw [hn]; exact HIL.out
  clear hn
  have HDS := hid (fun i (hi : i ≤ ids.length) => dmT_size (rs := rs) (t := t) HID.out i hi)
  go_wp2_with fail
  go_loopw [5, 7] (fun tv ti wr => ∃ i : Nat, ti = .int .i64 i ∧ i ≤ n ∧ tv = .string (dmT rs t ids i) ∧ Hid (SD w now a n0 cap gi ids wr)) (fun _ ti _ => n - (intOf ti).toNat)
  case atStart => exact ⟨0, rfl, Nat.zero_le _, rfl, HSD⟩
  case round =>
    clear HSD
    obtain ⟨i, rfl, hi, rfl, HP⟩ := hrel
    by_cases hlt : i < n
    · have c1 : (i : Int) < (n : Int) := by omega
      have hi0 : (0 : Int) ≤ (i : Int) := by omega
      have hii : i < ids.length := by rw [HN.out]; exact hlt
      have ea := HA.out (by omega)
      subst ea
      have hgd : ids.getD i 0 = ids[i] := by rw [List.getD_eq_getElem?_getD, List.getElem?_eq_getElem hii]; rfl
      have hmem : ids.getD i 0 ∈ ids := by rw [hgd]; exact List.getElem_mem hii
      obtain ⟨s0, hgil, s4, s5⟩ := HP.out
      have hxi := s4 i hii
      rw [Nat.zero_add] at hxi
      have HRI := hid (HRW.out _ hmem)
      have hrl := (shok_aok (HSH.out _ hmem)).2.2
      have hid1 := HID.out _ hmem
      have HB0 := hid s5
      have hwl : w.heap.size < wr.heap.size := lt_of_block s0
      obtain ⟨x0, x1, _, _⟩ := cell2r s0
      have HNX : Hid (dmT rs t ids (i + 1) = dmT rs t ids i ++ ia (ids.getD i 0) ++ spc ++ txv (raK (rat rs (ids.getD i 0) t)) (raP (rat rs (ids.getD i 0) t)) ++ nlT) := hid rfl
      have HXI : Hid (∀ W : World, IAt W gi 0 ids → W.cell? ⟨gi, i, none⟩ = some (.int .i64 (ids.getD i 0))) := hid (fun W hW => by have := hW i hii; rw [Nat.zero_add] at this; exact this)
      have HDC := hid (fun (W : World) => spec_dec (ids.getD i 0) (by omega) (by omega) W)
      have hds := HDS.out i (by omega)
      have hia := ia_sizeA (n := ids.getD i 0) (by omega) (by omega)
      have htx := txv_size (raK (rat rs (ids.getD i 0) t)) (raP (rat rs (ids.getD i 0) t))
      have HST := hid (fun (gq cq : Nat) (W : World) (hc : (raP (rat rs (ids.getD i 0) t)).length ≤ cq) (hp : Pts W (some ⟨gq, 0, none⟩) (raP (rat rs (ids.getD i 0) t))) => spec_ShapeText (raK (rat rs (ids.getD i 0) t)) (some ⟨gq, 0, none⟩) cq (raP (rat rs (ids.getD i 0) t)) W (by omega) hc hp)
      unfold shv at HST
      change Hid (∀ W : World, Calls Tryz.prog 12 #[.int .i64 (ids.getD i 0)] W fun e w' => e = .returned (.string (ia (ids.getD i 0))) ∧ w' = W) at HDC
      generalize ia (ids.getD i 0) = ix at *
      generalize txv (raK (rat rs (ids.getD i 0) t)) (raP (rat rs (ids.getD i 0) t)) = tx at *
      generalize raP (rat rs (ids.getD i 0) t) = rp at *
      generalize raK (rat rs (ids.getD i 0) t) = rk at *
      generalize (rat rs (ids.getD i 0) t).isSome = rb at *
      generalize ids.getD i 0 = id1 at *
      generalize dmT rs t ids i = ot at *
      clear s0 s4 s5 hgd hmem
      go_upto_region 6 with fail
      go_cut [8, 9] from 13 to 40 (fun t8 _ wx => RQ wr rk rp t8 wx)
      case first =>
        clear HRW HSH HNX HXI HDC HST HP HIL HA HN HDS HID
        refine wp_region_held_drew (S := (fun w' => w'.cell? ⟨w.heap.size, 0, none⟩ = some (.int .i64 now) ∧ w'.cell? ⟨w.heap.size, 1, none⟩ = some (.slice a n0 cap) ∧ w'.cell? ⟨gi, i, none⟩ = some (.int .i64 id1))) (by kernel_rfl) ?_ (fun hHeld => ?_)
        · (repeat' apply And.intro) <;> (repeat (first | with_reducible assumption | with_reducible refine keepset ?_ (by dsimp only; omega) | with_reducible refine keepdrew ?_ | with_reducible refine keepalloc ?_ _ | with_reducible refine keepcell (by with_reducible assumption) ?_))
        have hB0 : Below w.heap.size w wr.drew := bdrew HB0.out
        have hD0 : Below wr.heap.size wr wr.drew := bdrew (Below.refl _ _)
        generalize wr.drew = V0 at *
        refine wpAnyH_take (i := 0) (v := ?_) rfl (by kernel_rfl) (by kernel_rfl) (by kernel_rfl) (fun _ _ _ h => h) (Or.inl ⟨by rfl, ?_⟩) hHeld ?_
        rotate_left
        · intro w hSw; (try dsimp only at hSw); go_simp; try (with_reducible rfl)
        try simp only [sq]
        refine wpAnyH_take (i := 1) (v := ?_) rfl (by kernel_rfl) (by kernel_rfl) (by kernel_rfl) (fun _ _ _ h => h) (Or.inl ⟨by rfl, ?_⟩) hHeld ?_
        rotate_left
        · intro w hSw; (try dsimp only at hSw); go_simp; try (with_reducible rfl)
        try simp only [sq]
        refine wpAnyH_take (i := 2) (v := ?_) rfl (by kernel_rfl) (by kernel_rfl) (by kernel_rfl) (fun _ _ _ h => h) (Or.inl ⟨by rfl, ?_⟩) hHeld ?_
        rotate_left
        · intro w hSw; (try dsimp only at hSw); go_simp; try (with_reducible rfl)
        try simp only [sq]
        refine wpAnyH_take (i := 3) (v := ?_) rfl (by kernel_rfl) (by kernel_rfl) (by kernel_rfl) (fun _ _ _ h => h) (Or.inl ⟨by rfl, ?_⟩) hHeld ?_
        rotate_left
        · intro w hSw; (try dsimp only at hSw); go_simp; try (with_reducible rfl)
        try simp only [sq]
        refine wpAnyH_take (i := 4) (v := ?_) rfl (by kernel_rfl) (by kernel_rfl) (by kernel_rfl) (fun _ _ _ h => h) (Or.inl ⟨by rfl, ?_⟩) hHeld ?_
        rotate_left
        · intro w hSw; (try dsimp only at hSw); go_simp; try (with_reducible rfl)
        try simp only [sq]
        refine wpAnyH_take (i := 5) (v := ?_) rfl (by kernel_rfl) (by kernel_rfl) (by kernel_rfl) (fun _ _ _ h => h) (Or.inl ⟨by rfl, ?_⟩) hHeld ?_
        rotate_left
        · intro w hSw; (try dsimp only at hSw); go_simp; try (with_reducible rfl)
        try simp only [sq]
        refine wpAnyH_ready (rs := [6, 10]) (by kernel_rfl) (by simp) ?_
        refine (AllReadyH.cons rfl (fun K hK => ?_) (AllReadyH.cons rfl (fun K hK => ?_) AllReadyH.nil))
        · skip
          try simp only [sq]
          go_simp
          go_at_call 11
          refine (HRI.out _ hB0).mono ?_
          rintro e y ⟨gq, cq, rfl, hcq, hgq, hgl, hpq, hy⟩
          have hBy := btrans hB0 hy
          have hDy := btrans hD0 hy
          go_wp2_with fail
          refine hK.out _ _ ?_ (fun hHeld => ?_)
          · (go_split_ands; (repeat' apply And.intro) <;> (repeat (first | with_reducible assumption | with_reducible refine keepset ?_ (by dsimp only; omega) | with_reducible refine keepdrew ?_ | with_reducible refine keepalloc ?_ _ | with_reducible refine keepcell (by with_reducible assumption) ?_)))
          clear hK K
          try simp only [sq]
          refine wpAnyH_take (i := 7) (v := ?_) rfl (by kernel_rfl) (by kernel_rfl) (by kernel_rfl) (fun _ _ _ h => h) (Or.inl ⟨by rfl, ?_⟩) hHeld ?_
          rotate_left
          · intro w hSw; (try dsimp only at hSw); go_simp; try (with_reducible rfl)
          try simp only [sq]
          refine wpAnyH_take (i := 8) (v := ?_) rfl (by kernel_rfl) (by kernel_rfl) (by kernel_rfl) (fun _ _ _ h => h) (Or.inl ⟨by rfl, ?_⟩) hHeld ?_
          rotate_left
          · intro w hSw; (try dsimp only at hSw); go_simp; try (with_reducible rfl)
          try simp only [sq]
          refine wpAnyH_take (i := 9) (v := ?_) rfl (by kernel_rfl) (by kernel_rfl) (by kernel_rfl) (fun _ _ _ h => h) (Or.inl ⟨by rfl, ?_⟩) hHeld ?_
          rotate_left
          · intro w hSw; (try dsimp only at hSw); go_simp; try (with_reducible rfl)
          try simp only [sq]
          refine wpAnyH_ready (rs := [10]) (by kernel_rfl) (by simp) ?_
          refine (AllReadyH.cons rfl (fun K hK => ?_) AllReadyH.nil)
          try simp only [sq]
          go_simp
          refine hK.out _ _ ?_ (fun hHeld => ?_)
          · (go_split_ands; (repeat' apply And.intro) <;> (repeat (first | with_reducible assumption | with_reducible refine keepset ?_ (by dsimp only; omega) | with_reducible refine keepdrew ?_ | with_reducible refine keepalloc ?_ _ | with_reducible refine keepcell (by with_reducible assumption) ?_)))
          clear hK K
          try simp only [sq]
          have gX := new_alloc y y.heap.size (.cells #[.int .i64 0, .slice none 0 0] 38) rfl
          have hal : Below y.heap.size y (y.alloc (.cells #[.int .i64 0, .slice none 0 0] 38)) := balloc (Below.refl _ _) _
          have hBa := btrans hBy hal
          have hDa := btrans hDy hal
          have hpqa := hpq.below hal
          have hxg : y.heap.size ≠ gq := by omega
          have hxb : wr.heap.size ≤ y.heap.size := hDy.size
          have hals := hal.size
          clear hal
          generalize y.alloc (.cells #[.int .i64 0, .slice none 0 0] 38) = Z at *
          generalize y.heap.size = xb at *
          refine wpAnyH_ready (rs := [11]) (by kernel_rfl) (by simp) ?_
          refine (AllReadyH.cons rfl (fun K hK => ?_) AllReadyH.nil)
          obtain ⟨v0, v1, s0, s1⟩ := cell2r gX
          try simp only [sq]
          go_simp
          refine hK.out _ _ ?_ (fun hHeld => ?_)
          · (go_split_ands; (repeat' apply And.intro) <;> (repeat (first | with_reducible assumption | with_reducible refine keepset ?_ (by dsimp only; omega) | with_reducible refine keepdrew ?_ | with_reducible refine keepalloc ?_ _ | with_reducible refine keepcell (by with_reducible assumption) ?_)))
          clear hK K
          try simp only [sq]
          refine wpAnyH_take (i := 12) (v := ?_) rfl (by kernel_rfl) (by kernel_rfl) (by kernel_rfl) (fun _ _ _ h => h) (Or.inl ⟨by rfl, ?_⟩) hHeld ?_
          rotate_left
          · intro w hSw; (try dsimp only at hSw); go_simp; try (with_reducible rfl)
          try simp only [sq]
          refine wpAnyH_done (by kernel_rfl) ?_ _
          go_wp2_with fail
          go_meet
          exact rq_mk gX hcq hpqa hxg (by omega) hDa (Nat.le_trans hD0.size hgq) (Nat.lt_of_lt_of_le hgl hals)
        · skip
          try simp only [sq]
          go_simp
          refine hK.out _ _ ?_ (fun hHeld => ?_)
          · (go_split_ands; (repeat' apply And.intro) <;> (repeat (first | with_reducible assumption | with_reducible refine keepset ?_ (by dsimp only; omega) | with_reducible refine keepdrew ?_ | with_reducible refine keepalloc ?_ _ | with_reducible refine keepcell (by with_reducible assumption) ?_)))
          clear hK K
          try simp only [sq]
          have gX := new_alloc V0 V0.heap.size (.cells #[.int .i64 0, .slice none 0 0] 38) rfl
          have hal : Below V0.heap.size V0 (V0.alloc (.cells #[.int .i64 0, .slice none 0 0] 38)) := balloc (Below.refl _ _) _
          have hBa := btrans hB0 hal
          have hDa := btrans hD0 hal
          have hxb : wr.heap.size ≤ V0.heap.size := hD0.size
          have hals := hal.size
          clear hal
          generalize V0.alloc (.cells #[.int .i64 0, .slice none 0 0] 38) = Z at *
          generalize V0.heap.size = xb at *
          refine wpAnyH_ready (rs := [6]) (by kernel_rfl) (by simp) ?_
          refine (AllReadyH.cons rfl (fun K hK => ?_) AllReadyH.nil)
          try simp only [sq]
          go_simp
          go_at_call 11
          refine (HRI.out _ hBa).mono ?_
          rintro e y ⟨gq, cq, rfl, hcq, hgq, hgl, hpq, hy⟩
          have hxg : xb ≠ gq := by have := lt_of_block gX; omega
          replace gX := keepheap2 hy gX
          have hBy := btrans hBa hy
          have hDy := btrans hDa hy
          go_wp2_with fail
          refine hK.out _ _ ?_ (fun hHeld => ?_)
          · (go_split_ands; (repeat' apply And.intro) <;> (repeat (first | with_reducible assumption | with_reducible refine keepset ?_ (by dsimp only; omega) | with_reducible refine keepdrew ?_ | with_reducible refine keepalloc ?_ _ | with_reducible refine keepcell (by with_reducible assumption) ?_)))
          clear hK K
          try simp only [sq]
          refine wpAnyH_take (i := 7) (v := ?_) rfl (by kernel_rfl) (by kernel_rfl) (by kernel_rfl) (fun _ _ _ h => h) (Or.inl ⟨by rfl, ?_⟩) hHeld ?_
          rotate_left
          · intro w hSw; (try dsimp only at hSw); go_simp; try (with_reducible rfl)
          try simp only [sq]
          refine wpAnyH_take (i := 8) (v := ?_) rfl (by kernel_rfl) (by kernel_rfl) (by kernel_rfl) (fun _ _ _ h => h) (Or.inl ⟨by rfl, ?_⟩) hHeld ?_
          rotate_left
          · intro w hSw; (try dsimp only at hSw); go_simp; try (with_reducible rfl)
          try simp only [sq]
          refine wpAnyH_take (i := 9) (v := ?_) rfl (by kernel_rfl) (by kernel_rfl) (by kernel_rfl) (fun _ _ _ h => h) (Or.inl ⟨by rfl, ?_⟩) hHeld ?_
          rotate_left
          · intro w hSw; (try dsimp only at hSw); go_simp; try (with_reducible rfl)
          try simp only [sq]
          refine wpAnyH_ready (rs := [11]) (by kernel_rfl) (by simp) ?_
          refine (AllReadyH.cons rfl (fun K hK => ?_) AllReadyH.nil)
          obtain ⟨v0, v1, s0, s1⟩ := cell2r gX
          try simp only [sq]
          go_simp
          refine hK.out _ _ ?_ (fun hHeld => ?_)
          · (go_split_ands; (repeat' apply And.intro) <;> (repeat (first | with_reducible assumption | with_reducible refine keepset ?_ (by dsimp only; omega) | with_reducible refine keepdrew ?_ | with_reducible refine keepalloc ?_ _ | with_reducible refine keepcell (by with_reducible assumption) ?_)))
          clear hK K
          try simp only [sq]
          refine wpAnyH_take (i := 12) (v := ?_) rfl (by kernel_rfl) (by kernel_rfl) (by kernel_rfl) (fun _ _ _ h => h) (Or.inl ⟨by rfl, ?_⟩) hHeld ?_
          rotate_left
          · intro w hSw; (try dsimp only at hSw); go_simp; try (with_reducible rfl)
          try simp only [sq]
          refine wpAnyH_done (by kernel_rfl) ?_ _
          go_wp2_with fail
          go_meet
          exact rq_mk gX hcq hpq hxg (by omega) hDy (Nat.le_trans hDa.size hgq) hgl
      case rest =>
        obtain ⟨ba, gq, cq, rfl, hba, gA, hcq, hpq, hD, _⟩ := hcut
        replace HP := hid (HP.out.below hD)
        have hxi2 := HXI.out wc HP.out.2.2.1
        have HTX := hid (fun (W : World) (hb : Below wc.heap.size wc W) => HST.out gq cq W hcq (hpq.below hb))
        obtain ⟨v0, v1, _, _⟩ := cell2r gA
        generalize rp.length = nrp at *
        clear hpq hD x0 x1 hxi HRI HB0 gA hgil hwl hba HST HXI HRW HSH
        have hcat1 : ¬ 9223372036854775807 < ot.size + ix.size := by omega
        have hcat2 : ¬ 9223372036854775807 < ot.size + ix.size + 1 := by omega
        have hcat3 : ¬ 9223372036854775807 < ot.size + ix.size + 1 + tx.size := by omega
        have hcat4 : ¬ 9223372036854775807 < ot.size + ix.size + 1 + tx.size + 1 := by omega
        go_upto_region 7 with fail
        refine wp_region_held_drew (S := (fun w' => w'.cell? ⟨gi, i, none⟩ = some (.int .i64 id1) ∧ w'.cell? ⟨ba, 0, none⟩ = some (.int .i64 rk) ∧ w'.cell? ⟨ba, 1, none⟩ = some (.slice (some ⟨gq, 0, none⟩) nrp cq))) (by kernel_rfl) ?_ (fun hHeld => ?_)
        · (repeat' apply And.intro) <;> (repeat (first | with_reducible assumption | with_reducible refine keepdrew ?_ | with_reducible refine keepcell (by with_reducible assumption) ?_ | with_reducible refine keepalloc ?_ _))
        refine wpAnyH_take (i := 0) (v := ?_) rfl (by kernel_rfl) (by kernel_rfl) (by kernel_rfl) (fun _ _ _ h => h) (Or.inl ⟨by rfl, ?_⟩) hHeld ?_
        rotate_left
        · intro w hSw; (try dsimp only at hSw); go_simp; try (with_reducible rfl)
        try simp only [sq]
        refine wpAnyH_take (i := 1) (v := ?_) rfl (by kernel_rfl) (by kernel_rfl) (by kernel_rfl) (fun _ _ _ h => h) (Or.inl ⟨by rfl, ?_⟩) hHeld ?_
        rotate_left
        · intro w hSw; (try dsimp only at hSw); go_simp; try (with_reducible rfl)
        try simp only [sq]
        refine wpAnyH_take (i := 2) (v := ?_) rfl (by kernel_rfl) (by kernel_rfl) (by kernel_rfl) (fun _ _ _ h => h) (Or.inl ⟨by rfl, ?_⟩) hHeld ?_
        rotate_left
        · intro w hSw; (try dsimp only at hSw); go_simp; try (with_reducible rfl)
        try simp only [sq]
        refine wpAnyH_take (i := 3) (v := ?_) rfl (by kernel_rfl) (by kernel_rfl) (by kernel_rfl) (fun _ _ _ h => h) (Or.inl ⟨by rfl, ?_⟩) hHeld ?_
        rotate_left
        · intro w hSw; (try dsimp only at hSw); go_simp; try (with_reducible rfl)
        try simp only [sq]
        refine wpAnyH_take (i := 4) (v := ?_) rfl (by kernel_rfl) (by kernel_rfl) (by kernel_rfl) (fun _ _ _ h => h) (Or.inl ⟨by rfl, ?_⟩) hHeld ?_
        rotate_left
        · intro w hSw; (try dsimp only at hSw); go_simp; try (with_reducible rfl)
        try simp only [sq]
        refine wpAnyH_take (i := 8) (v := ?_) rfl (by kernel_rfl) (by kernel_rfl) (by kernel_rfl) (fun _ _ _ h => h) (Or.inl ⟨by rfl, ?_⟩) hHeld ?_
        rotate_left
        · intro w hSw; (try dsimp only at hSw); go_simp; try (with_reducible rfl)
        try simp only [sq]
        refine wpAnyH_ready (rs := [5]) (by kernel_rfl) (by simp) ?_
        refine AllReadyH.cons rfl (fun K hK => ?_) AllReadyH.nil
        try simp only [sq]
        go_simp
        (first
            | (go_at_call 12; refine (HDC.out _).mono ?_; rintro e u1 ⟨rfl, hu1⟩; subst hu1))
        go_wp2_with fail
        refine hK.out _ _ ?_ (fun hHeld => ?_)
        · (repeat' apply And.intro) <;> (repeat (first | with_reducible assumption | with_reducible refine keepdrew ?_ | with_reducible refine keepcell (by with_reducible assumption) ?_ | with_reducible refine keepalloc ?_ _))
        clear hK K
        try simp only [sq]
        refine wpAnyH_take (i := 6) (v := ?_) rfl (by kernel_rfl) (by kernel_rfl) (by kernel_rfl) (fun _ _ _ h => h) (Or.inl ⟨by rfl, ?_⟩) hHeld ?_
        rotate_left
        · intro w hSw; (try dsimp only at hSw); go_simp; try (with_reducible rfl)
        try simp only [sq]
        refine wpAnyH_take (i := 7) (v := ?_) rfl (by kernel_rfl) (by kernel_rfl) (by kernel_rfl) (fun _ _ _ h => h) (Or.inl ⟨by rfl, ?_⟩) hHeld ?_
        rotate_left
        · intro w hSw; (try dsimp only at hSw); go_simp; try (with_reducible rfl)
        try simp only [sq]
        refine wpAnyH_ready (rs := [9]) (by kernel_rfl) (by simp) ?_
        refine AllReadyH.cons rfl (fun K hK => ?_) AllReadyH.nil
        try simp only [sq]
        go_simp
        (first
            | (go_at_call 13; refine (HTX.out _ (bdrew (Below.refl _ _))).mono ?_; rintro e u2 ⟨rfl, hu2⟩))
        go_wp2_with fail
        refine hK.out _ _ ?_ (fun hHeld => ?_)
        · (repeat' apply And.intro) <;> (repeat (first | with_reducible assumption | with_reducible refine keepdrew ?_ | with_reducible refine keepcell (by with_reducible assumption) ?_ | with_reducible refine keepalloc ?_ _))
        clear hK K
        try simp only [sq]
        refine wpAnyH_take (i := 10) (v := ?_) rfl (by kernel_rfl) (by kernel_rfl) (by kernel_rfl) (fun _ _ _ h => h) (Or.inl ⟨by rfl, ?_⟩) hHeld ?_
        rotate_left
        · intro w hSw; (try dsimp only at hSw); go_simp; try (with_reducible rfl)
        try simp only [sq]
        refine wpAnyH_take (i := 11) (v := ?_) rfl (by kernel_rfl) (by kernel_rfl) (by kernel_rfl) (fun _ _ _ h => h) (Or.inl ⟨by rfl, ?_⟩) hHeld ?_
        rotate_left
        · intro w hSw; (try dsimp only at hSw); go_simp; try (with_reducible rfl)
        try simp only [sq]
        refine wpAnyH_take (i := 12) (v := ?_) rfl (by kernel_rfl) (by kernel_rfl) (by kernel_rfl) (fun _ _ _ h => h) (Or.inl ⟨by rfl, ?_⟩) hHeld ?_
        rotate_left
        · intro w hSw; (try dsimp only at hSw); go_simp; try (with_reducible rfl)
        try simp only [sq]
        refine wpAnyH_done (by kernel_rfl) ?_ _
        go_wp2_with fail
        go_roundw
        case rel => exact ⟨i + 1, by go_num, by omega, by first | (rw [HNX.out]; done) | (rw [HNX.out]; rfl), hid (HP.out.below (by (repeat (first | with_reducible exact Below.refl _ _ | with_reducible assumption | (with_reducible refine btrans ?_ (by with_reducible assumption)) | with_reducible refine bdrew ?_ | with_reducible refine balloc ?_ _))))⟩
        case measure => simp [intOf]; omega
    · have c1 : (n : Int) ≤ (i : Int) := by omega
      have hin : i = ids.length := by have := HN.out; omega
      have HF : Hid (dmT rs t ids i = res) := hid (by rw [HRES.out, hin])
      rw [HF.out]
      clear hin
      go_wp2_with fail
      go_ret
      exact ⟨rfl, HP.out.2.2.2⟩
end Go.Proofs.YtfajjnkkablneaaGreatDoor
