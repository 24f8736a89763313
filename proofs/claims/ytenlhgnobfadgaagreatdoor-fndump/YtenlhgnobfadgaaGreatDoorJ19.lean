/- Texts of stores, joined: Bj, Texts, Split, Words, Words2. -/
import Derived.Test.YtenlhgnobfadgaaGreatDoorJ18
import Derived.WalkSpells
import Derived.BigQuiet
import Derived.Deep.QuietTactic
import Derived.Deep.RegionHeld3
import Derived.Laws.OwnMore
import Derived.Lib.SplitLaws
import Derived.Lib.IndexLaws
import Derived.Lib.RabinKarpLaws
set_option maxRecDepth 100000
set_option maxHeartbeats 4000000
set_option linter.unusedSimpArgs false
set_option linter.unusedVariables false
namespace Go.Proofs.YtenlhgnobfadgaaGreatDoor
open Go.RowKit
def SD (w : World) (now : Int) (a : Option Addr) (n0 cap : Nat) (gi : Nat) (ids : List Int) (wr : World) : Prop :=
 wr.heap[w.heap.size]? = some (.cells #[.int .i64 now, .slice a n0 cap] 32 (0, 0)) ∧ gi < wr.heap.size ∧ IAt wr gi 0 ids ∧ Below w.heap.size w wr
theorem SD.below {w : World} {now : Int} {a : Option Addr} {n0 cap gi : Nat} {ids : List Int} {wr w' : World} (h : SD w now a n0 cap gi ids wr) (H : Below wr.heap.size wr w') : SD w now a n0 cap gi ids w' := by
 obtain ⟨h1, h2, h3, h8⟩ := h
 exact ⟨keepheap2 H h1, Nat.lt_of_lt_of_le h2 H.size, h3.blk (H.block gi h2), btrans h8 H⟩
theorem spec_Dump {N : Nat → Prop} (now : Int) (a : Option Addr) (cap : Nat) (rs : List Rw) (t : Int) (w : World) (hm : rs.length ≤ 1099511627776) (h : Rws N w a rs) : Calls Tryz.prog 14 #[.agg #[.int .i64 now, .slice a rs.length cap], .int .i64 t] w fun e w' => e = .returned (.string (dmT rs t (idsb now rs t) (idsb now rs t).length)) ∧ Below w.heap.size w w' := by
 have HIA := hid (fun (W : World) (hb : Below w.heap.size w W) => spec_IdsAt now a cap rs t W hm (h.below hb))
 have HRW := hid (fun (id : Int) (hi : id ∈ idsb now rs t) (W : World) (hb : Below w.heap.size w W) => spec_rowB now a cap rs id t W hm (h.below hb) hi)
 have HSH := hid (fun (id : Int) (h : id ∈ idsb now rs t) => (idsb_row h).2)
 have HID := hid (fun (id : Int) (h : id ∈ idsb now rs t) => idsb_id h)
 have HIL := hid (idsb_len now rs t)
 clear h
 generalize idsb now rs t = ids at *
 generalize rs.length = n0 at *
 obtain ⟨res, hres⟩ : ∃ res, res = dmT rs t ids ids.length := ⟨_, rfl⟩
 rw [← hres]
 have HRES := hid hres
 clear hres
 go_enter Tryz.func14, Tryz.ntmps14
 go_upto_region 2 with fail
 have hBx : Below w.heap.size w (w.alloc (.cells #[.int .i64 now, .slice a n0 cap] 32)) := balloc (Below.refl _ _) _
 have g0 := new_alloc w w.heap.size (.cells #[.int .i64 now, .slice a n0 cap] 32) rfl
 generalize w.alloc (.cells #[.int .i64 now, .slice a n0 cap] 32) = W0 at *
 obtain ⟨d0, d1, _, _⟩ := cell2r g0
 have HG0 := hid g0
 clear g0
 go_wp2_with fail
 refine (HIA.out _ hBx).mono ?_
 rintro e W1 ⟨a1, c1, rfl, hI, hnew, hB1⟩
 have g0 := keepheap2 hB1 HG0.out
 obtain ⟨gi, ha1, hgi, hIA⟩ := ids_blk hI w.heap.size (lt_of_block g0)
 have HA := hid ha1
 have HSD : Hid (SD w now a n0 cap gi ids W1) := hid ⟨g0, hgi, hIA, btrans hBx hB1⟩
 clear hI ha1 hIA hB1 hBx d0 d1 HIA HG0 hgi hnew g0
 obtain ⟨n, hn⟩ : ∃ n, n = ids.length := ⟨_, rfl⟩
 have HN := hid hn.symm
 rw [← hn] at HA ⊢
 have hnm : n ≤ 300 := by rw [hn]; exact HIL.out
 clear hn
 have HDS := hid (fun i (hi : i ≤ ids.length) => dmT_size (rs := rs) (t := t) HID.out i hi)
 go_wp2_with fail
 go_loopw [5, 7] (fun tv ti wr => ∃ i : Nat, ti = .int .i64 i ∧ i ≤ n ∧ tv = .string (dmT rs t ids i) ∧ Hid (SD w now a n0 cap gi ids wr)) (fun _ ti _ => n - (intOf ti).toNat)
 case atStart => exact ⟨0, rfl, Nat.zero_le _, rfl, HSD⟩
 case round =>
  clear HSD
  obtain ⟨i, rfl, hi, rfl, HP⟩ := hrel
  by_cases hlt : i < n
  ·have c1 : (i : Int) < (n : Int) := by omega
   have hi0 : (0 : Int) ≤ (i : Int) := by omega
   have hii : i < ids.length := by rw [HN.out]; exact hlt
   have ea := HA.out (by omega)
   subst ea
   have hgd : ids.getD i 0 = ids[i] := by rw [List.getD_eq_getElem?_getD, List.getElem?_eq_getElem hii]; rfl
   have hmem : ids.getD i 0 ∈ ids := by rw [hgd]; exact List.getElem_mem hii
   obtain ⟨s0, hgil, s4, s5⟩ := HP.out
   have hxi := s4 i hii
   rw [Nat.zero_add] at hxi
   have HRI := hid (HRW.out _ hmem)
   have hrl := (shok_aok (HSH.out _ hmem)).2.2
   have hid1 := HID.out _ hmem
   have HB0 := hid s5
   have hwl : w.heap.size < wr.heap.size := lt_of_block s0
   obtain ⟨x0, x1, _, _⟩ := cell2r s0
   have HNX : Hid (dmT rs t ids (i + 1) = dmT rs t ids i ++ ia (ids.getD i 0) ++ spc ++ txv (raK (rat rs (ids.getD i 0) t)) (raP (rat rs (ids.getD i 0) t)) ++ nlT) := hid rfl
   have HXI : Hid (∀ W : World, IAt W gi 0 ids → W.cell? ⟨gi, i, none⟩ = some (.int .i64 (ids.getD i 0))) := hid (fun W hW => by have := hW i hii; rw [Nat.zero_add] at this; exact this)
   have HDC := hid (fun (W : World) => spec_dec (ids.getD i 0) (by omega) (by omega) W)
   have hds := HDS.out i (by omega)
   have hia := ia_sizeA (n := ids.getD i 0) (by omega) (by omega)
   have htx := txv_size (raK (rat rs (ids.getD i 0) t)) (raP (rat rs (ids.getD i 0) t))
   have HST := hid (fun (gq cq : Nat) (W : World) (hc : (raP (rat rs (ids.getD i 0) t)).length ≤ cq) (hp : Pts W (some ⟨gq, 0, none⟩) (raP (rat rs (ids.getD i 0) t))) => spec_ShapeText (raK (rat rs (ids.getD i 0) t)) (some ⟨gq, 0, none⟩) cq (raP (rat rs (ids.getD i 0) t)) W (by omega) hc hp)
   unfold shv at HST
   change Hid (∀ W : World, Calls Tryz.prog 39 #[.int .i64 (ids.getD i 0)] W fun e w' => e = .returned (.string (ia (ids.getD i 0))) ∧ w' = W) at HDC
   generalize ia (ids.getD i 0) = ix at *
   generalize txv (raK (rat rs (ids.getD i 0) t)) (raP (rat rs (ids.getD i 0) t)) = tx at *
   generalize raP (rat rs (ids.getD i 0) t) = rp at *
   generalize raK (rat rs (ids.getD i 0) t) = rk at *
   generalize (rat rs (ids.getD i 0) t).isSome = rb at *
   generalize ids.getD i 0 = id1 at *
   generalize dmT rs t ids i = ot at *
   clear s0 s4 s5 hgd hmem
   go_upto_region 6 with fail
   go_cut [8, 9] from 13 to 40 (fun t8 _ wx => RQ wr rk rp t8 wx)
   case first =>
    clear HRW HSH HNX HXI HDC HST HP HIL HA HN HDS HID
    refine wp_region_held_drew (S := (fun w' => w'.cell? ⟨w.heap.size, 0, none⟩ = some (.int .i64 now) ∧ w'.cell? ⟨w.heap.size, 1, none⟩ = some (.slice a n0 cap) ∧ w'.cell? ⟨gi, i, none⟩ = some (.int .i64 id1))) (by kernel_rfl) ?_ (fun hHeld => ?_)
    ·(repeat' apply And.intro) <;> (with_reducible repeat (first | assumption | refine keepset ?_ (by dsimp only; omega) | refine keepdrew ?_ | refine keepalloc ?_ _ | refine keepcell (by assumption) ?_))
    have hB0 : Below w.heap.size w wr.drew := bdrew HB0.out
    have hD0 : Below wr.heap.size wr wr.drew := bdrew (Below.refl _ _)
    generalize wr.drew = V0 at *
    refine tkR ?_ 0 rfl (fun _ _ _ h => h) hHeld ?_ ?_
    rotate_left
    ·intro w hSw; (try dsimp only at hSw); go_simp; try (with_reducible rfl)
    try simp only [sq]
    refine tkR ?_ 1 rfl (fun _ _ _ h => h) hHeld ?_ ?_
    rotate_left
    ·intro w hSw; (try dsimp only at hSw); go_simp; try (with_reducible rfl)
    try simp only [sq]
    refine tkR ?_ 2 rfl (fun _ _ _ h => h) hHeld ?_ ?_
    rotate_left
    ·intro w hSw; (try dsimp only at hSw); go_simp; try (with_reducible rfl)
    try simp only [sq]
    refine tkR ?_ 3 rfl (fun _ _ _ h => h) hHeld ?_ ?_
    rotate_left
    ·intro w hSw; (try dsimp only at hSw); go_simp; try (with_reducible rfl)
    try simp only [sq]
    refine tkR ?_ 4 rfl (fun _ _ _ h => h) hHeld ?_ ?_
    rotate_left
    ·intro w hSw; (try dsimp only at hSw); go_simp; try (with_reducible rfl)
    try simp only [sq]
    refine tkR ?_ 5 rfl (fun _ _ _ h => h) hHeld ?_ ?_
    rotate_left
    ·intro w hSw; (try dsimp only at hSw); go_simp; try (with_reducible rfl)
    try simp only [sq]
    refine wpAnyH_ready (rs := [6, 10]) (by kernel_rfl) (by simp) ?_
    refine (AllReadyH.cons rfl (fun K hK => ?_) (AllReadyH.cons rfl (fun K hK => ?_) AllReadyH.nil))
    ·skip
     try simp only [sq]
     go_simp
     go_at_call 42
     refine (HRI.out _ hB0).mono ?_
     rintro e y ⟨gq, cq, rfl, hcq, hgq, hgl, hpq, hy⟩
     have hBy := btrans hB0 hy
     have hDy := btrans hD0 hy
     go_wp2_with fail
     refine hK.out _ _ ?_ (fun hHeld => ?_)
     ·(go_split_ands; (repeat' apply And.intro) <;> (with_reducible repeat (first | assumption | refine keepset ?_ (by dsimp only; omega) | refine keepdrew ?_ | refine keepalloc ?_ _ | refine keepcell (by assumption) ?_)))
     clear hK K
     try simp only [sq]
     refine tkR ?_ 7 rfl (fun _ _ _ h => h) hHeld ?_ ?_
     rotate_left
     ·intro w hSw; (try dsimp only at hSw); go_simp; try (with_reducible rfl)
     try simp only [sq]
     refine tkR ?_ 8 rfl (fun _ _ _ h => h) hHeld ?_ ?_
     rotate_left
     ·intro w hSw; (try dsimp only at hSw); go_simp; try (with_reducible rfl)
     try simp only [sq]
     refine tkR ?_ 9 rfl (fun _ _ _ h => h) hHeld ?_ ?_
     rotate_left
     ·intro w hSw; (try dsimp only at hSw); go_simp; try (with_reducible rfl)
     try simp only [sq]
     refine rd1 10 rfl (fun K hK => ?_)
     try simp only [sq]
     go_simp
     refine hK.out _ _ ?_ (fun hHeld => ?_)
     ·(go_split_ands; (repeat' apply And.intro) <;> (with_reducible repeat (first | assumption | refine keepset ?_ (by dsimp only; omega) | refine keepdrew ?_ | refine keepalloc ?_ _ | refine keepcell (by assumption) ?_)))
     clear hK K
     try simp only [sq]
     have gX := new_alloc y y.heap.size (.cells #[.int .i64 0, .slice none 0 0] 48) rfl
     have hal : Below y.heap.size y (y.alloc (.cells #[.int .i64 0, .slice none 0 0] 48)) := balloc (Below.refl _ _) _
     have hBa := btrans hBy hal
     have hDa := btrans hDy hal
     have hpqa := hpq.below hal
     have hxg : y.heap.size ≠ gq := by omega
     have hxb : wr.heap.size ≤ y.heap.size := hDy.size
     have hals := hal.size
     clear hal
     generalize y.alloc (.cells #[.int .i64 0, .slice none 0 0] 48) = Z at *
     generalize y.heap.size = xb at *
     refine rd1 11 rfl (fun K hK => ?_)
     obtain ⟨v0, v1, s0, s1⟩ := cell2r gX
     try simp only [sq]
     go_simp
     refine hK.out _ _ ?_ (fun hHeld => ?_)
     ·(go_split_ands; (repeat' apply And.intro) <;> (with_reducible repeat (first | assumption | refine keepset ?_ (by dsimp only; omega) | refine keepdrew ?_ | refine keepalloc ?_ _ | refine keepcell (by assumption) ?_)))
     clear hK K
     try simp only [sq]
     refine tkR ?_ 12 rfl (fun _ _ _ h => h) hHeld ?_ ?_
     rotate_left
     ·intro w hSw; (try dsimp only at hSw); go_simp; try (with_reducible rfl)
     try simp only [sq]
     refine wpAnyH_done (by kernel_rfl) ?_ _
     go_wp2_with fail
     go_meet
     exact rq_mk gX hcq hpqa hxg (by omega) hDa (Nat.le_trans hD0.size hgq) (Nat.lt_of_lt_of_le hgl hals)
    ·skip
     try simp only [sq]
     go_simp
     refine hK.out _ _ ?_ (fun hHeld => ?_)
     ·(go_split_ands; (repeat' apply And.intro) <;> (with_reducible repeat (first | assumption | refine keepset ?_ (by dsimp only; omega) | refine keepdrew ?_ | refine keepalloc ?_ _ | refine keepcell (by assumption) ?_)))
     clear hK K
     try simp only [sq]
     have gX := new_alloc V0 V0.heap.size (.cells #[.int .i64 0, .slice none 0 0] 48) rfl
     have hal : Below V0.heap.size V0 (V0.alloc (.cells #[.int .i64 0, .slice none 0 0] 48)) := balloc (Below.refl _ _) _
     have hBa := btrans hB0 hal
     have hDa := btrans hD0 hal
     have hxb : wr.heap.size ≤ V0.heap.size := hD0.size
     have hals := hal.size
     clear hal
     generalize V0.alloc (.cells #[.int .i64 0, .slice none 0 0] 48) = Z at *
     generalize V0.heap.size = xb at *
     refine rd1 6 rfl (fun K hK => ?_)
     try simp only [sq]
     go_simp
     go_at_call 42
     refine (HRI.out _ hBa).mono ?_
     rintro e y ⟨gq, cq, rfl, hcq, hgq, hgl, hpq, hy⟩
     have hxg : xb ≠ gq := by have := lt_of_block gX; omega
     replace gX := keepheap2 hy gX
     have hBy := btrans hBa hy
     have hDy := btrans hDa hy
     go_wp2_with fail
     refine hK.out _ _ ?_ (fun hHeld => ?_)
     ·(go_split_ands; (repeat' apply And.intro) <;> (with_reducible repeat (first | assumption | refine keepset ?_ (by dsimp only; omega) | refine keepdrew ?_ | refine keepalloc ?_ _ | refine keepcell (by assumption) ?_)))
     clear hK K
     try simp only [sq]
     refine tkR ?_ 7 rfl (fun _ _ _ h => h) hHeld ?_ ?_
     rotate_left
     ·intro w hSw; (try dsimp only at hSw); go_simp; try (with_reducible rfl)
     try simp only [sq]
     refine tkR ?_ 8 rfl (fun _ _ _ h => h) hHeld ?_ ?_
     rotate_left
     ·intro w hSw; (try dsimp only at hSw); go_simp; try (with_reducible rfl)
     try simp only [sq]
     refine tkR ?_ 9 rfl (fun _ _ _ h => h) hHeld ?_ ?_
     rotate_left
     ·intro w hSw; (try dsimp only at hSw); go_simp; try (with_reducible rfl)
     try simp only [sq]
     refine rd1 11 rfl (fun K hK => ?_)
     obtain ⟨v0, v1, s0, s1⟩ := cell2r gX
     try simp only [sq]
     go_simp
     refine hK.out _ _ ?_ (fun hHeld => ?_)
     ·(go_split_ands; (repeat' apply And.intro) <;> (with_reducible repeat (first | assumption | refine keepset ?_ (by dsimp only; omega) | refine keepdrew ?_ | refine keepalloc ?_ _ | refine keepcell (by assumption) ?_)))
     clear hK K
     try simp only [sq]
     refine tkR ?_ 12 rfl (fun _ _ _ h => h) hHeld ?_ ?_
     rotate_left
     ·intro w hSw; (try dsimp only at hSw); go_simp; try (with_reducible rfl)
     try simp only [sq]
     refine wpAnyH_done (by kernel_rfl) ?_ _
     go_wp2_with fail
     go_meet
     exact rq_mk gX hcq hpq hxg (by omega) hDy (Nat.le_trans hDa.size hgq) hgl
   case rest =>
    obtain ⟨ba, gq, cq, rfl, hba, gA, hcq, hpq, hD, _⟩ := hcut
    replace HP := hid (HP.out.below hD)
    have hxi2 := HXI.out wc HP.out.2.2.1
    have HTX := hid (fun (W : World) (hb : Below wc.heap.size wc W) => HST.out gq cq W hcq (hpq.below hb))
    obtain ⟨v0, v1, _, _⟩ := cell2r gA
    generalize rp.length = nrp at *
    clear hpq hD x0 x1 hxi HRI HB0 gA hgil hwl hba HST HXI HRW HSH
    have hcat1 : ¬ 9223372036854775807 < ot.size + ix.size := by omega
    have hcat2 : ¬ 9223372036854775807 < ot.size + ix.size + 1 := by omega
    have hcat3 : ¬ 9223372036854775807 < ot.size + ix.size + 1 + tx.size := by omega
    have hcat4 : ¬ 9223372036854775807 < ot.size + ix.size + 1 + tx.size + 1 := by omega
    go_upto_region 7 with fail
    refine wp_region_held_drew (S := (fun w' => w'.cell? ⟨gi, i, none⟩ = some (.int .i64 id1) ∧ w'.cell? ⟨ba, 0, none⟩ = some (.int .i64 rk) ∧ w'.cell? ⟨ba, 1, none⟩ = some (.slice (some ⟨gq, 0, none⟩) nrp cq))) (by kernel_rfl) ?_ (fun hHeld => ?_)
    ·(repeat' apply And.intro) <;> (with_reducible repeat (first | assumption | refine keepdrew ?_ | refine keepcell (by assumption) ?_ | refine keepalloc ?_ _))
    refine tkR ?_ 0 rfl (fun _ _ _ h => h) hHeld ?_ ?_
    rotate_left
    ·intro w hSw; (try dsimp only at hSw); go_simp; try (with_reducible rfl)
    try simp only [sq]
    refine tkR ?_ 1 rfl (fun _ _ _ h => h) hHeld ?_ ?_
    rotate_left
    ·intro w hSw; (try dsimp only at hSw); go_simp; try (with_reducible rfl)
    try simp only [sq]
    refine tkR ?_ 2 rfl (fun _ _ _ h => h) hHeld ?_ ?_
    rotate_left
    ·intro w hSw; (try dsimp only at hSw); go_simp; try (with_reducible rfl)
    try simp only [sq]
    refine tkR ?_ 3 rfl (fun _ _ _ h => h) hHeld ?_ ?_
    rotate_left
    ·intro w hSw; (try dsimp only at hSw); go_simp; try (with_reducible rfl)
    try simp only [sq]
    refine tkR ?_ 4 rfl (fun _ _ _ h => h) hHeld ?_ ?_
    rotate_left
    ·intro w hSw; (try dsimp only at hSw); go_simp; try (with_reducible rfl)
    try simp only [sq]
    refine tkR ?_ 8 rfl (fun _ _ _ h => h) hHeld ?_ ?_
    rotate_left
    ·intro w hSw; (try dsimp only at hSw); go_simp; try (with_reducible rfl)
    try simp only [sq]
    refine rd1 5 rfl (fun K hK => ?_)
    try simp only [sq]
    go_simp
    (first
      | (go_at_call 39; refine (HDC.out _).mono ?_; rintro e u1 ⟨rfl, hu1⟩; subst hu1))
    go_wp2_with fail
    refine hK.out _ _ ?_ (fun hHeld => ?_)
    ·(repeat' apply And.intro) <;> (with_reducible repeat (first | assumption | refine keepdrew ?_ | refine keepcell (by assumption) ?_ | refine keepalloc ?_ _))
    clear hK K
    try simp only [sq]
    refine tkR ?_ 6 rfl (fun _ _ _ h => h) hHeld ?_ ?_
    rotate_left
    ·intro w hSw; (try dsimp only at hSw); go_simp; try (with_reducible rfl)
    try simp only [sq]
    refine tkR ?_ 7 rfl (fun _ _ _ h => h) hHeld ?_ ?_
    rotate_left
    ·intro w hSw; (try dsimp only at hSw); go_simp; try (with_reducible rfl)
    try simp only [sq]
    refine rd1 9 rfl (fun K hK => ?_)
    try simp only [sq]
    go_simp
    (first
      | (go_at_call 43; refine (HTX.out _ (bdrew (Below.refl _ _))).mono ?_; rintro e u2 ⟨rfl, hu2⟩))
    go_wp2_with fail
    refine hK.out _ _ ?_ (fun hHeld => ?_)
    ·(repeat' apply And.intro) <;> (with_reducible repeat (first | assumption | refine keepdrew ?_ | refine keepcell (by assumption) ?_ | refine keepalloc ?_ _))
    clear hK K
    try simp only [sq]
    refine tkR ?_ 10 rfl (fun _ _ _ h => h) hHeld ?_ ?_
    rotate_left
    ·intro w hSw; (try dsimp only at hSw); go_simp; try (with_reducible rfl)
    try simp only [sq]
    refine tkR ?_ 11 rfl (fun _ _ _ h => h) hHeld ?_ ?_
    rotate_left
    ·intro w hSw; (try dsimp only at hSw); go_simp; try (with_reducible rfl)
    try simp only [sq]
    refine tkR ?_ 12 rfl (fun _ _ _ h => h) hHeld ?_ ?_
    rotate_left
    ·intro w hSw; (try dsimp only at hSw); go_simp; try (with_reducible rfl)
    try simp only [sq]
    refine wpAnyH_done (by kernel_rfl) ?_ _
    go_wp2_with fail
    go_roundw
    case rel => exact ⟨i + 1, by go_num, by omega, by first | (rw [HNX.out]; done) | (rw [HNX.out]; rfl), hid (HP.out.below (by (with_reducible repeat (first | exact Below.refl _ _ | assumption | (refine btrans ?_ (by assumption)) | refine bdrew ?_ | refine balloc ?_ _))))⟩
    case measure => simp [intOf]; omega
  ·have c1 : (n : Int) ≤ (i : Int) := by omega
   have hin : i = ids.length := by have := HN.out; omega
   have HF : Hid (dmT rs t ids i = res) := hid (by rw [HRES.out, hin])
   rw [HF.out]
   clear hin
   go_wp2_with fail
   go_ret
   exact ⟨rfl, HP.out.2.2.2⟩
theorem grown_all {w w' : World} (hb : Below w.heap.size w w') (r : Option Nat) : w.grownBy w' r := ⟨hb.os, hb.tape, hb.output, hb.size, fun k hk _ => hb.block k hk⟩
def Texts (w : World) (g cap : Nat) (l : List ByteArray) : Prop := w.ownsRow 0 9 1 (.slice (some ⟨g, 0, none⟩) l.length cap) l.length (l.map Value.string)
theorem Texts.cell {w : World} {g cap : Nat} {l : List ByteArray} (h : Texts w g cap l) (j : Nat) (hj : j < l.length) : w.cell? ⟨g, j, none⟩ = some (.string l[j]) := by
 have := World.ownsRow.cellAt h j (by omega)
 rw [this, List.getElem?_map, List.getElem?_eq_getElem hj]; rfl
theorem Texts.frozen {w : World} {g cap : Nat} {l : List ByteArray} (h : Texts w g cap l) (j : Nat) : w.frozen? ⟨g, j, none⟩ = false := World.ownsRow.frozenAt h j
theorem Texts.kept {w w' : World} {g cap : Nat} {l : List ByteArray} {r : Option Nat} (h : Texts w g cap l) (hg : w.grownBy w' r) (hne : r ≠ some g) : Texts w' g cap l :=
 World.ownsRow.kept h hg (.inr (fun e => hne e.symm))
theorem Texts.store {w : World} {g cap : Nat} {l : List ByteArray} (h : Texts w g cap l) (j : Nat) (x : ByteArray) : Texts (w.setCell ⟨g, j, none⟩ (.string x)) g cap (l.set j x) ∧ w.grownBy (w.setCell ⟨g, j, none⟩ (.string x)) (some g) := by
 have := World.ownsRow.stored h j (.string x)
 unfold Texts
 rw [List.length_set, List.map_set]
 exact this
theorem Texts.lt {w : World} {g cap : Nat} {l : List ByteArray} (h : Texts w g cap l) : g < w.heap.size := (World.ownsRow.lt h g rfl).2
theorem below_drewN (B : Nat) (w : World) (n : Nat) : Below B w (w.drewN n) := ⟨rfl, rfl, rfl, Nat.le_refl _, fun _ _ => rfl⟩
end Go.Proofs.YtenlhgnobfadgaaGreatDoor
namespace Go.Proofs.YtenlhgnobfadgaaGreatDoor
def by8 (s : ByteArray) (k : Nat) : Nat := if h : k < s.size then (s[k]'h).toNat else 0
theorem by8_at (s : ByteArray) (k : Nat) (h : k < s.size) : (s[k]'h).toNat = by8 s k := by unfold by8; rw [dif_pos h]
def sep : ByteArray := ⟨#[32]⟩
def rest (s : ByteArray) : Nat → Nat → Nat → List ByteArray
 | 0, from_, _ => [s.extract from_ s.size]
 | f + 1, from_, i => if by8 s i = 32 then s.extract from_ i :: rest s f (i + 1) (i + 1) else rest s f from_ (i + 1)
theorem occ1 (l : List UInt8) (j : Nat) : Lib.occAt l [32] j = true ↔ l[j]? = some 32 := by
 unfold Lib.occAt
 rw [← List.head?_drop]
 cases h : l.drop j with
 | nil => simp
 | cons a r =>
  simp only [List.isPrefixOf, Bool.and_true, beq_iff_eq, List.head?_cons, Option.some.injEq]
  exact eq_comm
theorem ext_list {a b : ByteArray} (h : a.data.toList = b.data.toList) : a = b := ByteArray.ext (Array.toList_inj.1 h)
theorem cut_cut (s : ByteArray) (a x y : Nat) (hy : a + y ≤ s.size) : (s.extract a s.size).extract x y = s.extract (a + x) (a + y) := by
 apply ext_list
 rw [Lib.extract_data, Lib.extract_data, Lib.extract_data]
 rw [List.drop_take, List.drop_drop, List.take_take]
 congr 1
 omega
theorem cut_end (s : ByteArray) (a x : Nat) (ha : a ≤ s.size) : (s.extract a s.size).extract x (s.extract a s.size).size = s.extract (a + x) s.size := by
 have hsz : (s.extract a s.size).size = s.size - a := by
  simp
 rw [hsz, cut_cut s a x (s.size - a) (by omega), show a + (s.size - a) = s.size by omega]
theorem cut_byte (s : ByteArray) (a j : Nat) (h : a + j < s.size) : (s.extract a s.size).data.toList[j]? = some (UInt8.ofNat (by8 s (a + j))) := by
 rw [Lib.extract_data, List.getElem?_take, if_pos (by omega), List.getElem?_drop, byte_at s (a + j) h, ← by8_at s (a + j) h]
 simp
theorem byte_32 (s : ByteArray) (k : Nat) : UInt8.ofNat (by8 s k) = 32 ↔ by8 s k = 32 := by
 have hlt : by8 s k < 256 := by
  unfold by8; split
  ·exact (s[k]).toNat_lt
  ·omega
 constructor
 ·intro h
  have := congrArg UInt8.toNat h
  rw [UInt8.toNat_ofNat'] at this
  have e : (32 : UInt8).toNat = 32 := rfl
  omega
 ·intro h; rw [h]; rfl
theorem no_occ (s : ByteArray) (a i : Nat) (hi : i ≤ s.size) (hno : ∀ k, a ≤ k → k < i → by8 s k ≠ 32) : Lib.NoOcc (s.extract a s.size).data.toList sep.data.toList (i - a) := by
 intro j hj
 rw [Bool.eq_false_iff]
 intro h
 have h' := (occ1 _ j).1 h
 rw [cut_byte s a j (by omega), Option.some.injEq, byte_32] at h'
 exact hno (a + j) (by omega) (by omega) h'
theorem split_rest (s : ByteArray) : ∀ (f a i : Nat), i + f = s.size → a ≤ i → (∀ k, a ≤ k → k < i → by8 s k ≠ 32) →
  Lib.splitB sep 0 (Lib.countB (s.extract a s.size) sep) (s.extract a s.size) = rest s f a i
 | 0, a, i, hf, ha, hno => by
  have hsz : (s.extract a s.size).data.toList.length = s.size - a := by rw [Lib.extract_data]; simp
  have hidx : Lib.indexB (s.extract a s.size) sep = -1 := Lib.index_past (by decide) (no_occ s a i (by omega) hno) (by rw [hsz]; show _ < i - a + 1; omega)
  rw [Lib.countB_miss _ _ hidx, Lib.splitB_zero]; rfl
 | f + 1, a, i, hf, ha, hno => by
  by_cases h32 : by8 s i = 32
  ·have hsz : (s.extract a s.size).data.toList.length = s.size - a := by rw [Lib.extract_data]; simp
   have hidx : Lib.indexB (s.extract a s.size) sep = ((i - a : Nat) : Int) := by
    refine Lib.index_hit (no_occ s a i (by omega) hno) (by rw [hsz]; omega) ((occ1 _ _).2 ?_)
    rw [cut_byte s a (i - a) (by omega), show a + (i - a) = i by omega, Option.some.injEq, byte_32]; exact h32
   have hsep : sep.size = 1 := rfl
   rw [Lib.countB_hit _ _ (i - a) (by rw [hsep]; omega) hidx, Nat.add_comm 1, Lib.splitB_hit _ _ _ _ (i - a) hidx, hsep]
   rw [cut_end s a (i - a + 1) (by omega), show a + (i - a + 1) = i + 1 by omega]
   rw [cut_cut s a 0 (i - a + 0) (by omega), show a + (i - a + 0) = i by omega, Nat.add_zero]
   rw [split_rest s f (i + 1) (i + 1) (by omega) (Nat.le_refl _) (fun k h1 h2 => absurd h1 (by omega))]
   simp only [rest]
   rw [if_pos h32]
  ·rw [split_rest s f a (i + 1) (by omega) (by omega) (fun k h1 h2 => ?_)]
   ·simp only [rest]
    rw [if_neg h32]
   ·by_cases e : k = i
    ·rw [e]; exact h32
    ·exact hno k h1 (by omega)
theorem split_all (s : ByteArray) : Lib.splitB sep 0 (Lib.countB s sep) s = rest s s.size 0 0 := by
 have e : s.extract 0 s.size = s := by
  apply ext_list
  rw [Lib.extract_data]
  exact List.take_of_length_le (by simp)
 have := split_rest s s.size 0 0 (by omega) (Nat.le_refl _) (fun k _ h => absurd h (Nat.not_lt_zero _))
 rw [e] at this; exact this
end Go.Proofs.YtenlhgnobfadgaaGreatDoor
namespace Go.Proofs.YtenlhgnobfadgaaGreatDoor
open Go.RowKit
theorem Tryz.info9 : (Tryz.prog.info? 9).map (fun i => (i.zero, i.size, i.bytes)) = some (some (.string ByteArray.empty), 1, 16) := by kernel_rfl
theorem rest_end (s : ByteArray) (a i f : Nat) (h : f = 0) : rest s f a i = [s.extract a s.size] := by subst h; rfl
theorem rest_hit (s : ByteArray) (a i f f' : Nat) (hf : f = f' + 1) (h : by8 s i = 32) : rest s f a i = s.extract a i :: rest s f' (i + 1) (i + 1) := by subst hf; simp only [rest]; rw [if_pos h]
theorem rest_miss (s : ByteArray) (a i f f' : Nat) (hf : f = f' + 1) (h : ¬ by8 s i = 32) : rest s f a i = rest s f' a (i + 1) := by subst hf; simp only [rest]; rw [if_neg h]
theorem own_growW {w w0 w1 : World} {B : Nat} {v : Value} {n : Nat} {xs : List Value} {o : Obj} (hown : w0.ownsRow B 9 1 v n xs) (hb : Below B w w0) (hB : B ≤ w0.heap.size) (hg : (w0.alloc o).grownBy w1 v.ownBlock) : Below B w w1 :=
 (hb.alloc hB o).grown hg (by simp; omega) (fun k hk => (hown.lt k hk).1)
theorem texts_of {w : World} {B : Nat} {v : Value} {l : List ByteArray} (h : w.ownsRow B 9 1 v l.length (l.map Value.string)) (h0 : 0 < l.length) : ∃ g cap, v = .slice (some ⟨g, 0, none⟩) l.length cap ∧ B ≤ g ∧ Texts w g cap l := by
 have h' := h
 rcases h.2 with ⟨_, hn⟩ | ⟨g, cap, cur, rfl, hb, r⟩
 ·omega
 ·exact ⟨g, cap, rfl, hb, h.1, .inr ⟨g, cap, cur, rfl, Nat.zero_le _, r⟩⟩
theorem spec_words (s : ByteArray) (hs : s.size ≤ 1048576) (w : World) : Calls Tryz.prog 18 #[.string s] w fun e w' => ∃ g cap, e = .returned (.slice (some ⟨g, 0, none⟩) (rest s s.size 0 0).length cap) ∧ w.heap.size ≤ g ∧ Texts w' g cap (rest s s.size 0 0) ∧ Below w.heap.size w w' := by
 obtain ⟨i0, hi0, hz0, hz1, hz2⟩ := info_parts Tryz.info9
 obtain ⟨R, hR⟩ : ∃ R, R = rest s s.size 0 0 := ⟨_, rfl⟩
 rw [← hR]
 have HR := hidd hR
 clear hR
 go_enter Tryz.func18, Tryz.ntmps18
 go_wp2
 go_loopw [3, 4, 5] (fun v tf ti wr => ∃ a i : Nat, ∃ done : List ByteArray, tf = .int .i64 a ∧ ti = .int .i64 i ∧ a ≤ i ∧ i ≤ s.size ∧ done.length ≤ i ∧ wr.ownsRow w.heap.size 9 1 v done.length (done.map Value.string) ∧ Below w.heap.size w wr ∧ Hid (R = done ++ rest s (s.size - i) a i)) (fun _ _ ti _ => s.size - (intOf ti).toNat)
 case atStart => exact ⟨0, 0, [], rfl, rfl, Nat.le_refl _, Nat.zero_le _, Nat.le_refl _, World.ownsRow_made _ _ _ (Nat.le_refl _) (by decide) rfl, (Below.refl _ _).alloc (Nat.le_refl _) _, HR⟩
 case round =>
  obtain ⟨a, i, done, rfl, rfl, ha, hi, hdl, hown, hb, H⟩ := hrel
  have hsz := hb.size
  have r0 : 0 ≤ (a : Int) := by omega
  by_cases hlt : i < s.size
  ·have c1 : (i : Int) < (s.size : Int) := by omega
   have e8 := by8_at s i hlt
   by_cases h32 : (s[i]'hlt).toNat = 32
   ·have z1 : (((s[i]'hlt).toNat : Int) == 32) = true := by rw [beq_iff_eq]; omega
    have hnx : R = (done ++ [s.extract a i]) ++ rest s (s.size - (i + 1)) (i + 1) (i + 1) := by
     rw [H.out, rest_hit s a i (s.size - i) (s.size - (i + 1)) (by omega) (by omega)]; simp
    have Hn := hidd hnx
    clear hnx H e8 h32
    have r1 : 0 ≤ (i : Int) := by omega
    have r2 : (i : Int) ≤ (s.size : Int) := by omega
    have r3 : (a : Int) ≤ (i : Int) := by omega
    go_wp2_with (at_builtin; refine wpList_append_own _ rfl (.tmp 17) (.tmp 22) 41 rfl w.heap.size 9 i0 (.string ByteArray.empty) 1 16 Tryz.underlying41 hi0 hz0 hz1 hz2 rfl (by decide) _ _ _ rfl (hown.alloc _) ⟨wr.heap.size, 0, none⟩ 1 1 [.string (s.extract a i)] rfl rfl (cell_one_new _ _ _) (by simp [Value.oneCell']) (by unfold maxLen; omega) (by omega) (by simp; omega) ?_; intro v' w1 hown' hgrow _; have hb1 := own_growW hown hb hsz hgrow)
    go_roundw
    case rel => exact ⟨i + 1, i + 1, done ++ [s.extract a i], by go_num, by go_num, by omega, by omega, by simp; omega, by simpa using hown', hb1, Hn⟩
    case measure => simp [intOf]; omega
   ·have z1 : (((s[i]'hlt).toNat : Int) == 32) = false := by rw [beq_eq_false_iff_ne]; omega
    have hnx : R = done ++ rest s (s.size - (i + 1)) a (i + 1) := by
     rw [H.out, rest_miss s a i (s.size - i) (s.size - (i + 1)) (by omega) (by omega)]
    have Hn := hidd hnx
    clear hnx H e8 h32
    go_wp2_with fail
    go_roundw
    case rel => exact ⟨a, i + 1, done, by go_num, by go_num, by omega, by omega, by omega, hown, hb, Hn⟩
    case measure => simp [intOf]; omega
  ·have c1 : (s.size : Int) ≤ (i : Int) := by omega
   have hfin : R = done ++ [s.extract a s.size] := by rw [H.out, rest_end s a i _ (by omega)]
   have Hf := hidd hfin
   clear hfin H
   have r2 : (a : Int) ≤ (s.size : Int) := by omega
   go_wp2_with (at_builtin; refine wpList_append_own _ rfl (.tmp 26) (.tmp 30) 41 rfl w.heap.size 9 i0 (.string ByteArray.empty) 1 16 Tryz.underlying41 hi0 hz0 hz1 hz2 rfl (by decide) _ _ _ rfl (hown.alloc _) ⟨wr.heap.size, 0, none⟩ 1 1 [.string (s.extract a s.size)] rfl rfl (cell_one_new _ _ _) (by simp [Value.oneCell']) (by unfold maxLen; omega) (by omega) (by simp; omega) ?_; intro v' w1 hown' hgrow _; have hb1 := own_growW hown hb hsz hgrow)
   go_ret
   have hl : R.length = done.length + 1 := by rw [Hf.out]; simp
   have hT := texts_of (l := R) (B := w.heap.size) (w := w1) (v := v') (by rw [hl, Hf.out]; simpa using hown') (by omega)
   obtain ⟨g, cap, rfl, hBg, hT⟩ := hT
   exact ⟨g, cap, rfl, hBg, hT, hb1⟩
def CloneAll : Prop := ∀ (x : ByteArray) (w1 : World), x.size ≤ 281474976710656 → Calls Tryz.prog 194 #[.string x] w1 fun e w' => e = .returned (.string x) ∧ Below w1.heap.size w1 w'
def SplitAt (s : ByteArray) (w : World) : Prop := Calls Tryz.prog 178 #[.string s, .string ⟨#[32]⟩] w fun e w' => e = .returned (.slice (some ⟨w.heap.size, 0, none⟩) (rest s s.size 0 0).length (rest s s.size 0 0).length) ∧ w' = w.alloc (.cells ((rest s s.size 0 0).map Value.string).toArray 9)
theorem rest_len (s : ByteArray) : ∀ (f a i : Nat), 0 < (rest s f a i).length ∧ (rest s f a i).length ≤ f + 1
 | 0, a, i => by simp [rest]
 | f + 1, a, i => by
  have h1 := rest_len s f (i + 1) (i + 1)
  have h2 := rest_len s f a (i + 1)
  simp only [rest]
  split
  ·simp only [List.length_cons]; omega
  ·omega
theorem rest_size (s : ByteArray) : ∀ (f a i : Nat), ∀ x ∈ rest s f a i, x.size ≤ s.size
 | 0, a, i, x, h => by simp [rest] at h; subst h; simp
 | f + 1, a, i, x, h => by
  simp only [rest] at h
  split at h
  ·rcases List.mem_cons.1 h with rfl | h
   ·simp; omega
   ·exact rest_size s f _ _ x h
  ·exact rest_size s f _ _ x h
theorem texts_new (w : World) (l : List ByteArray) (hm : l.length ≤ maxLen) : Texts (w.alloc (.cells (l.map Value.string).toArray 9)) w.heap.size l.length l := by
 have := World.ownsRow_lit (base := 0) (e := 9) (size := 1) w (l.map Value.string).toArray l.length (Nat.zero_le _) hm (by simp)
 simpa [Texts] using this
theorem set_same (l : List ByteArray) (i : Nat) (h : i < l.length) : l.set i l[i] = l := by
 apply List.ext_getElem?
 intro j
 by_cases e : j = i
 ·subst e; rw [List.getElem?_set_self h, List.getElem?_eq_getElem h]
 ·rw [List.getElem?_set_ne (fun h => e h.symm)]
theorem impl_words (s : ByteArray) (hs : s.size ≤ 1048576) (w : World) (hS : SplitAt s w) (hC : CloneAll) : Calls Tryz.prog 137 #[.string s] w fun e w' => ∃ g, e = .returned (.slice (some ⟨g, 0, none⟩) (rest s s.size 0 0).length (rest s s.size 0 0).length) ∧ w.heap.size ≤ g ∧ Texts w' g (rest s s.size 0 0).length (rest s s.size 0 0) ∧ Below w.heap.size w w' := by
 have hl := rest_len s s.size 0 0
 have hx := rest_size s s.size 0 0
 unfold SplitAt at hS
 generalize rest s s.size 0 0 = R at hS hl hx ⊢
 obtain ⟨n, hn⟩ : ∃ n, n = R.length := ⟨_, rfl⟩
 rw [← hn] at hS hl ⊢
 have HN := hidd hn
 have HX := hidd hx
 have HS := hidd hS
 clear hn hx hS
 obtain ⟨hl0, hl1⟩ := hl
 go_enter Tryz.func137, Tryz.ntmps137
 go_wp2_with fail
 refine HS.out.mono ?_
 rintro e w1 ⟨rfl, rfl⟩
 have hT0 : Texts (w.alloc (.cells (R.map Value.string).toArray 9)) w.heap.size n R := by
  have := texts_new w R (by unfold maxLen; have := HN.out; omega)
  rw [← HN.out] at this; exact this
 have hb0 : Below w.heap.size w (w.alloc (.cells (R.map Value.string).toArray 9)) := (Below.refl _ _).alloc (Nat.le_refl _) _
 generalize w.alloc (.cells (R.map Value.string).toArray 9) = w1 at hT0 hb0 ⊢
 clear HS
 go_wp2_with fail
 go_loopw [10] (fun ti wr => ∃ i : Nat, ti = .int .i64 i ∧ i ≤ n ∧ Texts wr w.heap.size n R ∧ Below w.heap.size w wr) (fun ti _ => n - (intOf ti).toNat)
 case atStart => exact ⟨0, rfl, Nat.zero_le _, hT0, hb0⟩
 case round =>
  obtain ⟨i, rfl, hi, hT, hb⟩ := hrel
  by_cases hlt : i < n
  ·have c1 : (i : Int) < (n : Int) := by omega
   have hlt' : i < R.length := by have := HN.out; omega
   have hc := hT.cell i hlt'
   have hxs : (R[i]'hlt').size ≤ 281474976710656 := by have := HX.out (R[i]'hlt') (List.getElem_mem hlt'); omega
   have hst := set_same R i hlt'
   generalize R[i]'hlt' = x at hc hxs hst
   have Hst := hidd hst
   clear hst
   go_wp2_with (go_at_call 179; go_in)
   refine (hC x _ hxs).mono ?_
   rintro e w2 ⟨rfl, hb2⟩
   have hT2 := hT.kept (grown_all hb2 none) (by simp)
   replace hb := hb.trans (hb2.mono hb.size)
   clear hT hb2 hc
   have hc2 := hT2.cell i hlt'
   have hf2 := hT2.frozen i
   go_wp2_with fail
   go_roundw
   case rel =>
    have h3 := hT2.store i x
    rw [Hst.out] at h3
    exact ⟨i + 1, by go_num, by omega, h3.1, hb.grown h3.2 hb.size (fun k hk => by simp at hk; omega)⟩
   case measure => simp [intOf]; omega
  ·have c1 : (n : Int) ≤ (i : Int) := by omega
   go_wp2_with fail
   go_ret
   exact ⟨w.heap.size, rfl, Nat.le_refl _, hT, hb⟩
end Go.Proofs.YtenlhgnobfadgaaGreatDoor
